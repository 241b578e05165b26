/- tribunalref01.Quo; NatQuos. -/
import Derived.Test.YtafeokkkbiaajaaDoorQuoD
import Derived.Test.YtafeokkkbiaajaaDoorQuoH
namespace Go.Proofs.YtafeokkkbiaajaaDoor
open Go.RowKit Mth

theorem huge_lt {n : Nat} (h : n < Big) : n < B16 ^ hugeP ∧ 2 * n < B16 ^ hugeP := by
  have h1 := pow_big 2 (by omega)
  omega
theorem huge_le : hugeP ≤ 1000000 := by unfold hugeP maxL; omega
theorem two_facts {xs ys : List Nat} {P : List Nat → Prop} (h1 : P xs) (h2 : P ys) (h0 : P []) : ∀ j, P ([xs, ys].getD j []) := fun j => by
  match j with
  | 0 => exact h1
  | 1 => exact h2
  | j + 2 => exact h0

set_option maxHeartbeats 1000000 in
set_option maxRecDepth 100000 in
theorem rquo_any (v1 v2 : Value) (xs ys : List Nat) (w : World) (h1 : Sl w .u64 v1 xs) (h2 : Sl w .u64 v2 ys) (l1 : Lim B64 xs) (l2 : Lim B64 ys) (n1 : xs.length ≤ 4000000) (n2 : ys.length ≤ 4000000) :
    Calls Tryd.prog 34 #[v1, v2] w fun e w' => ∃ vq vr, e = .returned (.tuple #[vq, vr, .int .i64 (quoE (val B64 xs) (val B64 ys))]) ∧ Num w' vq (quoN (val B64 xs) (val B64 ys)) ∧ Num w' vr (remN (val B64 xs) (val B64 ys)) ∧ Below w.heap.size w w' := by
  have H1 := Lib.hid h1; have H2 := Lib.hid h2; have L1 := Lib.hid l1; have L2 := Lib.hid l2; have N1 := Lib.hid n1; have N2 := Lib.hid n2
  have NL := Lib.hid (natList_pair h1 h2)
  obtain ⟨a1, c1, rfl⟩ := h1.shape
  obtain ⟨a2, c2, rfl⟩ := h2.shape
  have LG := Lib.hid (long_any _ [xs, ys] _ NL.out (two_facts l1 l2 (lim_nil (by have := B64_pos; omega))) (two_facts (P := fun z => z.length ≤ 4000000) n1 n2 (by simp)))
  have LB := Lib.hid (longB_two xs ys)
  clear h1 h2 l1 l2 n1 n2
  go_enter Tryd.func34, Tryd.ntmps34
  go_wp2_with fail
  refine LG.out.mono ?_
  rintro e w1 ⟨rfl, hb1⟩
  have B1 : Hid (Below w.heap.size w w1) := Lib.hid (((Below.refl _ _).alloc (Nat.le_refl _) _).trans (hb1.mono (by simp)))
  clear hb1
  rw [show [xs, ys].length = 2 from rfl, LB.out]
  by_cases hlong : Big ≤ val B64 xs ∨ Big ≤ val B64 ys
  · have hd : (decide (Big ≤ val B64 xs) || decide (Big ≤ val B64 ys)) = true := by simpa using hlong
    have E := Lib.hid (quo_long hlong)
    rw [hd]
    clear hlong hd
    go_wp2
    go_ret3
    exact ⟨_, _, by rw [E.out.2.2]; rfl, by rw [E.out.1]; exact num_nil _, by rw [E.out.2.1]; exact num_nil _, B1.out⟩
  · have hd : (decide (Big ≤ val B64 xs) || decide (Big ≤ val B64 ys)) = false := by simpa using hlong
    rw [hd]
    clear hd
    have F0 := Lib.hid (from_any _ ys w1 (H2.out.below B1.out) L2.out N2.out)
    have HA := Lib.hid (huge_lt (show val B64 xs < Big from Nat.lt_of_not_le fun h => hlong (.inl h)))
    have HB := Lib.hid (huge_lt (show val B64 ys < Big from Nat.lt_of_not_le fun h => hlong (.inr h)))
    have NB := Lib.hid hlong
    clear hlong
    go_wp2_with fail
    refine F0.out.mono ?_
    rintro e w2 ⟨v2, rfl, hn2, hb2⟩
    obtain ⟨a3, n3, c3, rfl, hz3⟩ := hnum_len hn2
    have B2 := Lib.hid (below_step B1.out hb2)
    clear hn2 hb2
    by_cases h0 : val B64 ys = 0
    · have hd0 := len_eq (hz3.2 h0)
      have E := Lib.hid (quo_zero NB.out h0)
      clear h0 hz3
      go_wp2
      go_ret3
      exact ⟨_, _, by rw [E.out.2.2]; rfl, by rw [E.out.1]; exact num_nil _, by rw [E.out.2.1]; exact num_nil _, B2.out⟩
    · have hd0 := len_ne (fun h => h0 (hz3.1 h))
      have E := Lib.hid (quo_fine NB.out h0)
      have H0 := Lib.hid h0
      clear h0 hz3
      have F1 := Lib.hid (from_any _ xs w2 (H1.out.below B2.out) L1.out N1.out)
      go_wp2_with fail
      refine F1.out.mono ?_
      rintro e w3 ⟨v3, rfl, hn3, hb3⟩
      have B3 := Lib.hid (below_step B2.out hb3); have N3 := Lib.hid hn3; clear hn3 hb3
      have F2 := Lib.hid (from_any _ ys w3 (H2.out.below B3.out) L2.out N2.out)
      go_wp2_with fail
      refine F2.out.mono ?_
      rintro e w4 ⟨v4, rfl, hn4, hb4⟩
      have B4 := Lib.hid (below_step B3.out hb4); have N4 := Lib.hid hn4; have N3' := Lib.hid (N3.out.below hb4); clear hn4 hb4
      go_wp2_with fail
      refine (quoH_any _ _ _ _ hugeP _ N3'.out N4.out (by have := H0.out; omega) HA.out.1 HB.out.2 huge_le).mono ?_
      rintro e w5 ⟨vq, vr, rfl, hq5, hr5, hb5⟩
      have B5 := Lib.hid (below_step B4.out hb5); have Q5 := Lib.hid hq5; have R5 := Lib.hid hr5; clear hq5 hr5 hb5
      go_wp2_with fail
      refine (to_num _ _ _ Q5.out).mono ?_
      rintro e w6 ⟨v6, rfl, hn6, hb6⟩
      have B6 := Lib.hid (below_step B5.out hb6); have N6 := Lib.hid hn6; have R6 := Lib.hid (R5.out.below hb6); clear hn6 hb6
      go_wp2_with fail
      refine (to_num _ _ _ R6.out).mono ?_
      rintro e w7 ⟨v7, rfl, hn7, hb7⟩
      have B7 := Lib.hid (below_step B6.out hb7); have N7 := Lib.hid hn7; have N6' := Lib.hid (N6.out.below hb7); clear hn7 hb7
      go_wp2
      go_ret3
      exact ⟨_, _, by rw [E.out.2.2]; rfl, by rw [E.out.1]; exact N6'.out, by rw [E.out.2.1]; exact N7.out, B7.out⟩

set_option maxRecDepth 100000 in
theorem quos_walk (w : World) (av bv : Value) (xs ys : List Nat) (hz : TZ w) (ha : Sl w .u64 av xs) (hb : Sl w .u64 bv ys) (la : Lim B64 xs) (lb : Lim B64 ys) (na : xs.length ≤ 1048576) (nb : ys.length ≤ 1048576) :
    Calls Tryd.prog 7 #[av, bv] w fun e w' => e = .returned (.bool true) ∧ Below w.heap.size w w' := by
  have HZ := Lib.hid hz; have HA := Lib.hid ha; have HB := Lib.hid hb; have LA := Lib.hid la; have LB := Lib.hid lb; have NA := Lib.hid na; have NB := Lib.hid nb
  clear hz ha hb la lb na nb
  go_enter Tryd.func7, Tryd.ntmps7
  go_wp2_with fail
  refine (quo_any _ _ xs ys _ HA.out HB.out LA.out LB.out).mono ?_
  rintro e w1 ⟨v1, u1, rfl, hn1, hm1, hb1⟩
  have B1 := Lib.hid hb1; have N1 := Lib.hid hn1.num; have M1 := Lib.hid hm1.num; clear hb1 hn1 hm1
  go_wp2_with fail
  refine (rquo_any _ _ xs ys _ (HA.out.below B1.out) (HB.out.below B1.out) LA.out LB.out (by have := NA.out; omega) (by have := NB.out; omega)).mono ?_
  rintro e w2 ⟨v2, u2, rfl, hn2, hm2, hb2⟩
  have B2 := Lib.hid (below_step B1.out hb2); have N2 := Lib.hid hn2; have M2 := Lib.hid hm2; have N1' := Lib.hid (N1.out.below hb2); have M1' := Lib.hid (M1.out.below hb2); clear hb2 hn2 hm2
  generalize quoE (val B64 xs) (val B64 ys) = ev
  have hev : (ev == ev) = true := by simp
  go_wp2_with fail
  refine (same_any _ _ _ _ N1'.out N2.out).mono ?_
  rintro e w3 ⟨rfl, hb3⟩
  have B3 := Lib.hid (below_step B2.out hb3); have M3 := Lib.hid (M1'.out.below hb3); have M3' := Lib.hid (M2.out.below hb3); clear hb3
  go_wp2_with fail
  refine (same_any _ _ _ _ M3.out M3'.out).mono ?_
  rintro e w4 ⟨rfl, hb4⟩
  have B4 := Lib.hid (below_step B3.out hb4); clear hb4
  go_wp2_with fail
  refine (alive_any _ (HZ.out.below B4.out)).mono ?_
  rintro e w5 ⟨rfl, hb5⟩
  have B5 := Lib.hid (below_step B4.out hb5); clear hb5
  go_wp2
  go_ret
  exact ⟨rfl, B5.out⟩
end Go.Proofs.YtafeokkkbiaajaaDoor
