/- tribunalref01.Text; NatTexts. -/
import Derived.Test.YtafeokkkbiaajaaDoorTextH
import Derived.Test.YtafeokkkbiaajaaDoorRShift
namespace Go.Proofs.YtafeokkkbiaajaaDoor
open Go.RowKit Mth

theorem huge_lt' {n : Nat} (h : n < Big) : n < B16 ^ hugeP := by
  have h1 := pow_big 1 (by omega)
  omega
set_option maxHeartbeats 1000000 in
set_option maxRecDepth 100000 in
theorem rtext_any (v : Value) (xs : List Nat) (b : Int) (w : World) (hs : Sl w .u64 v xs) (hl : Lim B64 xs) (hn : xs.length ≤ 4000000) (hb2 : -9223372036854775808 ≤ b ∧ b ≤ 9223372036854775807) :
    Calls Tryd.prog 42 #[v, .int .i64 b] w fun e w' => e = .returned (.tuple #[.string ⟨(toBytes (txS b (val B64 xs))).toArray⟩, .int .i64 (txE b (val B64 xs))]) ∧ Below w.heap.size w w' := by
  by_cases hb : b = 2 ∨ b = 10 ∨ b = 16
  · have IB := Lib.hid (based_any b true (by simpa using hb) hb2)
    have NL := Lib.hid (natList_one hs)
    have HS := Lib.hid hs; have HL := Lib.hid hl; have HN := Lib.hid hn
    obtain ⟨a1, c1, rfl⟩ := hs.shape
    have LG := Lib.hid (long_any _ [xs] _ NL.out (fun j => by
      match j with
      | 0 => exact hl
      | j + 1 => exact lim_nil (by have := B64_pos; omega)) (fun j => by
      match j with
      | 0 => exact hn
      | j + 1 => simp))
    have LB := Lib.hid (longB_one xs)
    clear hs hl hn hb2
    go_enter Tryd.func42, Tryd.ntmps42
    go_wp2_with fail
    refine (IB.out _).mono ?_
    rintro e w' ⟨rfl, rfl⟩
    go_wp2_with fail
    refine LG.out.mono ?_
    rintro e w1 ⟨rfl, hb1⟩
    have B1 : Hid (Below w.heap.size w w1) := Lib.hid (((Below.refl _ _).alloc (Nat.le_refl _) _).trans (hb1.mono (by simp)))
    clear hb1
    rw [show [xs].length = 1 from rfl, LB.out]
    by_cases hlong : Big ≤ val B64 xs
    · have hd : decide (Big ≤ val B64 xs) = true := decide_eq_true hlong
      have E := Lib.hid (tx_long hb hlong)
      rw [hd]
      clear hlong hd hb
      go_wp2
      go_ret2
      exact ⟨by rw [E.out.1, E.out.2]; rfl, B1.out⟩
    · have hd : decide (Big ≤ val B64 xs) = false := decide_eq_false hlong
      have E := Lib.hid (tx_fine hb hlong)
      have HB := Lib.hid (huge_lt' (Nat.lt_of_not_le hlong))
      have F1 := Lib.hid (from_any _ xs w1 (HS.out.below B1.out) HL.out HN.out)
      rw [hd]
      obtain ⟨k, hk, hk2, hk16⟩ : ∃ k : Nat, b = (k : Int) ∧ 2 ≤ k ∧ k ≤ 16 := ⟨b.toNat, by omega, by omega, by omega⟩
      subst hk
      rw [Int.toNat_natCast] at E
      clear hlong hd hb
      go_wp2_with fail
      refine F1.out.mono ?_
      rintro e w2 ⟨v2, rfl, hn2, hb2⟩
      have B2 := Lib.hid (below_step B1.out hb2); have N2 := Lib.hid hn2
      clear hn2 hb2
      go_wp2_with fail
      refine (textH_any _ _ k hugeP _ N2.out HB.out (by unfold hugeP maxL; omega) hk2 hk16).mono ?_
      rintro e w3 ⟨rfl, hb3⟩
      have B3 := Lib.hid (below_step B2.out hb3)
      clear hb3
      go_wp2
      go_ret2
      exact ⟨by rw [E.out.1, E.out.2]; rfl, B3.out⟩
  · have IB := Lib.hid (based_any b false (by simpa using hb) hb2)
    have E := Lib.hid (tx_bad (n := val B64 xs) hb)
    obtain ⟨a1, c1, rfl⟩ := hs.shape
    clear hs hl hn hb2 hb
    go_enter Tryd.func42, Tryd.ntmps42
    go_wp2_with fail
    refine (IB.out _).mono ?_
    rintro e w' ⟨rfl, rfl⟩
    go_wp2
    go_ret2
    exact ⟨by rw [E.out.1, E.out.2]; rfl, Below.refl _ _⟩

set_option maxRecDepth 100000 in
theorem texts_walk (w : World) (av : Value) (xs : List Nat) (b : Int) (hz : TZ w) (hz10 : TZ10 w) (ha : Sl w .u64 av xs) (la : Lim B64 xs) (na : xs.length ≤ 1048576) (hb1 : -9223372036854775808 ≤ b) (hb2 : b ≤ 9223372036854775807) :
    Calls Tryd.prog 10 #[av, .int .i64 b] w fun e w' => e = .returned (.bool true) ∧ Below w.heap.size w w' := by
  have HZ := Lib.hid hz; have HA := Lib.hid ha; have LA := Lib.hid la; have NA := Lib.hid na
  have TX := Lib.hid (text_any av xs b w ha la hz hz10 ⟨hb1, hb2⟩)
  clear hz hz10 ha la na
  go_enter Tryd.func10, Tryd.ntmps10
  go_wp2_with fail
  refine TX.out.mono ?_
  rintro e w1 ⟨rfl, hb1'⟩
  have B1 := Lib.hid hb1'
  have RX := Lib.hid (rtext_any av xs b w1 (HA.out.below hb1') LA.out (by have := NA.out; omega) ⟨hb1, hb2⟩)
  clear hb1'
  generalize txE b (val B64 xs) = ev at *
  generalize toBytes (txS b (val B64 xs)) = sv at *
  have hev : (ev == ev) = true := by simp
  go_wp2_with fail
  refine RX.out.mono ?_
  rintro e w2 ⟨rfl, hb2'⟩
  have B2 := Lib.hid (below_step B1.out hb2')
  clear hb2'
  go_wp2_with fail
  refine (alive_any _ (HZ.out.below B2.out)).mono ?_
  rintro e w3 ⟨rfl, hb3⟩
  have B3 := Lib.hid (below_step B2.out hb3); clear hb3
  go_wp2
  go_ret
  exact ⟨rfl, B3.out⟩
end Go.Proofs.YtafeokkkbiaajaaDoor
