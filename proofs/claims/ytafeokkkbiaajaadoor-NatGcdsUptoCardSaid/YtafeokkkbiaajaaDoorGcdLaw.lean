/- tribunalref01: GcdH, Gcd; NatGcds. -/
import Derived.Test.YtafeokkkbiaajaaDoorGcdE
import Derived.Test.YtafeokkkbiaajaaDoorQuoLaw
namespace Go.Proofs.YtafeokkkbiaajaaDoor
open Go.RowKit Mth

/-- the number that lies behind a slice of halves -/
def halfIn (w : World) : Value → Nat
  | .slice (some a) n _ => val B16 ((List.range n).map (limbIn w a.block a.off))
  | _ => 0
theorem halfIn_num {w : World} {v : Value} {n : Nat} (h : HNum w v n) : halfIn w v = n := by
  obtain ⟨xs, ⟨ao, cap, rfl, h1, h2, h3, h4, h5⟩, _, _, h6⟩ := h
  by_cases hp : 0 < xs.length
  · obtain ⟨b, off, rfl, hb, hc⟩ := h5 hp
    have e : (List.range xs.length).map (limbIn w b off) = xs := by
      apply List.ext_getElem
      · simp
      · intro j hj1 hj2
        simp only [List.getElem_map, List.getElem_range, limbIn]
        rw [hc j hj2]
        simp [List.getD_eq_getElem?_getD, hj2]
    show val B16 ((List.range xs.length).map (limbIn w b off)) = _
    rw [e, h6]
  · have : xs = [] := List.eq_nil_of_length_eq_zero (by omega)
    subst this
    rw [← h6]
    cases ao <;> rfl

/-- what GcdH's loop holds -/
def GhO (w wr : World) (G p : Nat) (va vb : Value) : Prop := ∃ A B : Nat, HNum wr va A ∧ HNum wr vb B ∧ 2 * A < B16 ^ p ∧ 2 * B < B16 ^ p ∧ Nat.gcd A B = G ∧ Below w.heap.size w wr

set_option maxHeartbeats 1000000 in
set_option maxRecDepth 100000 in
theorem gcdH_any (v1 v2 : Value) (A B p : Nat) (w : World) (h1 : HNum w v1 A) (h2 : HNum w v2 B) (hA : 2 * A < B16 ^ p) (hB : 2 * B < B16 ^ p) (hp : p ≤ 1000000) :
    Calls Tryd.prog 68 #[v1, v2] w fun e w' => ∃ v', e = .returned v' ∧ HNum w' v' (Nat.gcd A B) ∧ Below w.heap.size w w' := by
  have HS : Hid (GhO w w (Nat.gcd A B) p v1 v2) := Lib.hid ⟨A, B, h1, h2, hA, hB, rfl, Below.refl _ _⟩
  have HP := Lib.hid hp
  generalize Nat.gcd A B = G at *
  clear h1 h2 hA hB hp
  go_enter Tryd.func68, Tryd.ntmps68
  go_wp2
  go_loopw [0, 1] (fun a b wr => GhO w wr G p a b) (fun _ b wr => halfIn wr b)
  case atStart => exact HS.out
  case round =>
    obtain ⟨A, B, o1, o2, hA, hB, hG, hbel⟩ := hrel
    have O1 := Lib.hid o1; have O2 := Lib.hid o2; have HA := Lib.hid hA; have HB := Lib.hid hB; have HG := Lib.hid hG; have HBE := Lib.hid hbel
    have HNM := Lib.hid (halfIn_num o2)
    obtain ⟨ao, n, c, rfl, hz⟩ := hnum_len o2
    clear o1 o2 hA hB hG hbel HS
    by_cases h0 : n = 0
    · have hB0 := Lib.hid (hz.1 h0)
      have hd : ¬ 0 < n := by omega
      subst h0
      clear hz
      go_wp2
      go_ret
      exact ⟨_, rfl, by rw [← HG.out, hB0.out, Nat.gcd_zero_right]; exact O1.out, HBE.out⟩
    · have hBp : Hid (0 < B) := Lib.hid (Nat.pos_of_ne_zero fun h => h0 (hz.2 h))
      have hd : 0 < n := by omega
      clear hz h0
      go_wp2_with fail
      refine (quoH_any _ _ A B p _ O1.out O2.out hBp.out (by have := HA.out; omega) HB.out HP.out).mono ?_
      rintro e w2 ⟨vq, vr, rfl, _, hr, hb2⟩
      have R2 := Lib.hid hr; have B2 := Lib.hid (below_step HBE.out hb2); have O2' := Lib.hid (O2.out.below hb2)
      have NR := Lib.hid (halfIn_num hr)
      have LT := Lib.hid (Nat.mod_lt A hBp.out)
      clear hr hb2
      go_wp2
      go_roundw
      case rel => exact ⟨B, A % B, O2'.out, R2.out, HB.out, by have := LT.out; have := HB.out; omega, by rw [← HG.out, Nat.gcd_comm A B, Nat.gcd_rec B A, Nat.gcd_comm], B2.out⟩
      case measure => rw [HNM.out, NR.out]; exact LT.out

set_option maxHeartbeats 1000000 in
set_option maxRecDepth 100000 in
theorem rgcd_any (v1 v2 : Value) (xs ys : List Nat) (w : World) (h1 : Sl w .u64 v1 xs) (h2 : Sl w .u64 v2 ys) (l1 : Lim B64 xs) (l2 : Lim B64 ys) (n1 : xs.length ≤ 4000000) (n2 : ys.length ≤ 4000000) :
    Calls Tryd.prog 36 #[v1, v2] w fun e w' => ∃ v', e = .returned (.tuple #[v', .int .i64 (gcdE (val B64 xs) (val B64 ys))]) ∧ Num w' v' (gcdN (val B64 xs) (val B64 ys)) ∧ Below w.heap.size w w' := by
  have H1 := Lib.hid h1; have H2 := Lib.hid h2; have L1 := Lib.hid l1; have L2 := Lib.hid l2; have N1 := Lib.hid n1; have N2 := Lib.hid n2
  have NL := Lib.hid (natList_pair h1 h2)
  obtain ⟨a1, c1, rfl⟩ := h1.shape
  obtain ⟨a2, c2, rfl⟩ := h2.shape
  have LG := Lib.hid (long_any _ [xs, ys] _ NL.out (two_facts l1 l2 (lim_nil (by have := B64_pos; omega))) (two_facts (P := fun z => z.length ≤ 4000000) n1 n2 (by simp)))
  have LB := Lib.hid (longB_two xs ys)
  clear h1 h2 l1 l2 n1 n2
  go_enter Tryd.func36, Tryd.ntmps36
  go_wp2_with fail
  refine LG.out.mono ?_
  rintro e w1 ⟨rfl, hb1⟩
  have B1 : Hid (Below w.heap.size w w1) := Lib.hid (((Below.refl _ _).alloc (Nat.le_refl _) _).trans (hb1.mono (by simp)))
  clear hb1
  rw [show [xs, ys].length = 2 from rfl, LB.out]
  by_cases hlong : Big ≤ val B64 xs ∨ Big ≤ val B64 ys
  · have hd : (decide (Big ≤ val B64 xs) || decide (Big ≤ val B64 ys)) = true := by simpa using hlong
    have E := Lib.hid (gcd_long hlong)
    rw [hd]
    clear hlong hd
    go_wp2
    go_ret2
    exact ⟨_, by rw [E.out.2]; rfl, by rw [E.out.1]; exact num_nil _, B1.out⟩
  · have hd : (decide (Big ≤ val B64 xs) || decide (Big ≤ val B64 ys)) = false := by simpa using hlong
    rw [hd]
    clear hd
    have E := Lib.hid (gcd_fine hlong)
    have HA := Lib.hid (huge_lt (show val B64 xs < Big from Nat.lt_of_not_le fun h => hlong (.inl h)))
    have HB := Lib.hid (huge_lt (show val B64 ys < Big from Nat.lt_of_not_le fun h => hlong (.inr h)))
    have F1 := Lib.hid (from_any _ xs w1 (H1.out.below B1.out) L1.out N1.out)
    clear hlong
    go_wp2_with fail
    refine F1.out.mono ?_
    rintro e w3 ⟨v3, rfl, hn3, hb3⟩
    have B3 := Lib.hid (below_step B1.out hb3); have N3 := Lib.hid hn3; clear hn3 hb3
    have F2 := Lib.hid (from_any _ ys w3 (H2.out.below B3.out) L2.out N2.out)
    go_wp2_with fail
    refine F2.out.mono ?_
    rintro e w4 ⟨v4, rfl, hn4, hb4⟩
    have B4 := Lib.hid (below_step B3.out hb4); have N4 := Lib.hid hn4; have N3' := Lib.hid (N3.out.below hb4); clear hn4 hb4
    go_wp2_with fail
    refine (gcdH_any _ _ _ _ hugeP _ N3'.out N4.out HA.out.2 HB.out.2 huge_le).mono ?_
    rintro e w5 ⟨v5, rfl, hg5, hb5⟩
    have B5 := Lib.hid (below_step B4.out hb5); have G5 := Lib.hid hg5; clear hg5 hb5
    go_wp2_with fail
    refine (to_num _ _ _ G5.out).mono ?_
    rintro e w6 ⟨v6, rfl, hn6, hb6⟩
    have B6 := Lib.hid (below_step B5.out hb6); have N6 := Lib.hid hn6; clear hn6 hb6
    go_wp2
    go_ret2
    exact ⟨_, by rw [E.out.2]; rfl, by rw [E.out.1]; exact N6.out, B6.out⟩

set_option maxRecDepth 100000 in
theorem gcds_walk (w : World) (av bv : Value) (xs ys : List Nat) (hz : TZ w) (ha : Sl w .u64 av xs) (hb : Sl w .u64 bv ys) (la : Lim B64 xs) (lb : Lim B64 ys) (na : xs.length ≤ 1048576) (nb : ys.length ≤ 1048576) :
    Calls Tryd.prog 8 #[av, bv] w fun e w' => e = .returned (.bool true) ∧ Below w.heap.size w w' := by
  have HZ := Lib.hid hz; have HA := Lib.hid ha; have HB := Lib.hid hb; have LA := Lib.hid la; have LB := Lib.hid lb; have NA := Lib.hid na; have NB := Lib.hid nb
  clear hz ha hb la lb na nb
  go_enter Tryd.func8, Tryd.ntmps8
  go_wp2_with fail
  refine (gcd_any _ _ xs ys _ HA.out HB.out LA.out LB.out).mono ?_
  rintro e w1 ⟨v1, rfl, hn1, hb1⟩
  have B1 := Lib.hid hb1; have N1 := Lib.hid hn1.num; clear hb1 hn1
  go_wp2_with fail
  refine (rgcd_any _ _ xs ys _ (HA.out.below B1.out) (HB.out.below B1.out) LA.out LB.out (by have := NA.out; omega) (by have := NB.out; omega)).mono ?_
  rintro e w2 ⟨v2, rfl, hn2, hb2⟩
  have B2 := Lib.hid (below_step B1.out hb2); have N2 := Lib.hid hn2; have N1' := Lib.hid (N1.out.below hb2); clear hb2 hn2
  generalize gcdE (val B64 xs) (val B64 ys) = ev
  have hev : (ev == ev) = true := by simp
  go_wp2_with fail
  refine (same_any _ _ _ _ N1'.out N2.out).mono ?_
  rintro e w3 ⟨rfl, hb3⟩
  have B3 := Lib.hid (below_step B2.out hb3); clear hb3
  go_wp2_with fail
  refine (alive_any _ (HZ.out.below B3.out)).mono ?_
  rintro e w5 ⟨rfl, hb5⟩
  have B5 := Lib.hid (below_step B3.out hb5); clear hb5
  go_wp2
  go_ret
  exact ⟨rfl, B5.out⟩
end Go.Proofs.YtafeokkkbiaajaaDoor
