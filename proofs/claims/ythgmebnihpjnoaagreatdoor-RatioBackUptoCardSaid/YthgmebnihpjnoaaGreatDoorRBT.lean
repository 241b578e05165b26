/- Package ratio: coprime and Right of a short fraction in lowest terms. -/
import Derived.Test.YthgmebnihpjnoaaGreatDoorRBM
set_option linter.unusedVariables false
set_option linter.unusedSimpArgs false
namespace Go.Proofs.YthgmebnihpjnoaaGreatDoor
open Go.RowKit Mth

theorem tlen_of_top {xs : List Nat} (t : Top xs) : tlen xs = xs.length := t
set_option maxRecDepth 100000 in
theorem lfn_no (a1 : Option Addr) (k1 c1 : Nat) (a2 : Option Addr) (k2 c2 : Nat) (w : World) (h1 : k1 ≤ 4096) (h2 : k2 ≤ 4096) : Calls Tryz.prog 87 #[.slice a1 k1 c1, .slice a2 k2 c2] w fun e w' => e = .returned (.bool false) ∧ Below w.heap.size w w' := by
  have d1 : decide ((4096 : Int) < (k1 : Int)) = false := decide_eq_false (by omega)
  have d2 : decide ((4096 : Int) < (k2 : Int)) = false := decide_eq_false (by omega)
  go_enter Tryz.func87, Tryz.ntmps87
  go_wp2
  go_ret
  exact ⟨rfl, Below.refl _ _⟩
theorem bit0_any (v : Value) (xs : List Nat) (w : World) (b : Bool) (hb : decide (val B64 xs % 2 = 1) = b) (h : Sl w .u64 v xs) (hl : Lim B64 xs) : Calls Tryz.prog 86 #[v, .int .i64 0] w fun e w' => e = .returned (.bool b) ∧ Below w.heap.size w w' := by
  subst hb
  have := bit_anyZ v xs 0 w h hl (by omega) (by omega)
  have e : bitIZ (val B64 xs) 0 = decide (val B64 xs % 2 = 1) := by
    unfold bitIZ bitNZ
    simp
  rw [e] at this
  exact this
theorem gcd_even {a b : Nat} (h : Nat.gcd a b = 1) : a % 2 = 1 ∨ b % 2 = 1 := by
  rcases Nat.mod_two_eq_zero_or_one a with h1 | h1
  · rcases Nat.mod_two_eq_zero_or_one b with h2 | h2
    · exfalso
      have := Nat.dvd_gcd (Nat.dvd_of_mod_eq_zero h1) (Nat.dvd_of_mod_eq_zero h2)
      rw [h] at this
      have := Nat.le_of_dvd Nat.one_pos this
      omega
    · exact .inr h2
  · exact .inl h1
set_option maxHeartbeats 4000000 in
set_option maxRecDepth 100000 in
theorem coprime_one (a1 : Option Addr) (k1 c1 : Nat) (a2 : Option Addr) (k2 c2 : Nat) (xs ys : List Nat) (w : World) (h1 : Sl w .u64 (.slice a1 k1 c1) xs) (h2 : Sl w .u64 (.slice a2 k2 c2) ys) (l1 : Lim B64 xs) (l2 : Lim B64 ys) (s1 : k1 ≤ 4096) (s2 : k2 ≤ 4096) (b1 : val B64 xs < Big) (b2 : val B64 ys < Big) (hg : Nat.gcd (val B64 xs) (val B64 ys) = 1) :
    Calls Tryz.prog 45 #[.slice a1 k1 c1, .slice a2 k2 c2] w fun e w' => e = .returned (.bool true) ∧ Below w.heap.size w w' := by
  have BA : Hid (∀ u, Below w.heap.size w u → ∀ b, decide (val B64 xs % 2 = 1) = b → Calls Tryz.prog 86 #[.slice a1 k1 c1, .int .i64 0] u fun e w' => e = .returned (.bool b) ∧ Below u.heap.size u w') := Lib.hid (fun u hu b hb => bit0_any _ xs u b hb (h1.below hu) l1)
  have BB : Hid (∀ u, Below w.heap.size w u → ∀ b, decide (val B64 ys % 2 = 1) = b → Calls Tryz.prog 86 #[.slice a2 k2 c2, .int .i64 0] u fun e w' => e = .returned (.bool b) ∧ Below u.heap.size u w') := Lib.hid (fun u hu b hb => bit0_any _ ys u b hb (h2.below hu) l2)
  have LF : Hid (∀ u, Calls Tryz.prog 87 #[.slice a1 k1 c1, .slice a2 k2 c2] u fun e w' => e = .returned (.bool false) ∧ Below u.heap.size u w') := Lib.hid (fun u => lfn_no _ _ _ _ _ _ u s1 s2)
  have GC : Hid (∀ u, Below w.heap.size w u → Calls Tryz.prog 89 #[.slice a1 k1 c1, .slice a2 k2 c2] u fun e w' => ∃ v', e = .returned (.tuple #[v', .int .i64 0]) ∧ Num w' v' 1 ∧ Below u.heap.size u w') := Lib.hid (fun u hu => (gcd_any _ _ xs ys u (h1.below hu) (h2.below hu) l1 l2).mono (by
    rintro e w' ⟨v', rfl, ho, hb⟩
    have hn : ¬ (Big ≤ val B64 xs ∨ Big ≤ val B64 ys) := by omega
    rw [show gcdE (val B64 xs) (val B64 ys) = 0 from if_neg hn]
    rw [show gcdN (val B64 xs) (val B64 ys) = 1 from (if_neg hn).trans hg] at ho
    exact ⟨v', rfl, ho.num, hb⟩))
  have HG := Lib.hid (gcd_even hg)
  clear h1 h2 l1 l2 s1 s2 b1 b2 hg
  by_cases o1 : val B64 xs % 2 = 1
  · have C1 := Lib.hid (BA.out w (Below.refl _ _) true (decide_eq_true o1))
    clear o1 HG BA BB
    go_enter Tryz.func45, Tryz.ntmps45
    go_wp2_with fail
    refine C1.out.mono ?_
    rintro e w1 ⟨rfl, b1⟩
    have B1 := Lib.hid b1
    have L1 := Lib.hid (LF.out w1)
    clear b1 C1 LF
    go_wp2_with fail
    refine L1.out.mono ?_
    rintro e w2 ⟨rfl, b2⟩
    have B2 := Lib.hid (below_of B1.out b2)
    have G2 := Lib.hid (GC.out w2 B2.out)
    clear b2 L1 GC B1
    go_wp2_with fail
    refine G2.out.mono ?_
    rintro e w3 ⟨v3, rfl, hn, b3⟩
    obtain ⟨a3, k3, c3, rfl⟩ := num_shape hn
    have B3 := Lib.hid (below_of B2.out b3)
    have IO := Lib.hid (isOne_is _ _ w3 hn)
    clear b3 hn G2 B2
    go_wp2_with (go_at_call 73; refine IO.out.mono ?_; rintro e w4 ⟨rfl, rfl⟩)
    go_ret
    exact ⟨rfl, B3.out⟩
  · have C1 := Lib.hid (BA.out w (Below.refl _ _) false (decide_eq_false o1))
    have o2 : val B64 ys % 2 = 1 := HG.out.resolve_left o1
    have O2 := Lib.hid o2
    clear o1 o2 HG BA
    go_enter Tryz.func45, Tryz.ntmps45
    go_wp2_with fail
    refine C1.out.mono ?_
    rintro e w0 ⟨rfl, b0⟩
    have C2 := Lib.hid (BB.out w0 b0 true (decide_eq_true O2.out))
    have B0 := Lib.hid b0
    clear b0 C1 BB
    go_wp2_with fail
    refine C2.out.mono ?_
    rintro e w1 ⟨rfl, b1⟩
    have B1 := Lib.hid (below_of B0.out b1)
    have L1 := Lib.hid (LF.out w1)
    clear b1 C2 LF B0
    go_wp2_with fail
    refine L1.out.mono ?_
    rintro e w2 ⟨rfl, b2⟩
    have B2 := Lib.hid (below_of B1.out b2)
    have G2 := Lib.hid (GC.out w2 B2.out)
    clear b2 L1 GC B1
    go_wp2_with fail
    refine G2.out.mono ?_
    rintro e w3 ⟨v3, rfl, hn, b3⟩
    obtain ⟨a3, k3, c3, rfl⟩ := num_shape hn
    have B3 := Lib.hid (below_of B2.out b3)
    have IO := Lib.hid (isOne_is _ _ w3 hn)
    clear b3 hn G2 B2
    go_wp2_with (go_at_call 73; refine IO.out.mono ?_; rintro e w4 ⟨rfl, rfl⟩)
    go_ret
    exact ⟨rfl, B3.out⟩
set_option maxHeartbeats 4000000 in
set_option maxRecDepth 100000 in
theorem rright_one (v : Value) (X : Int) (D : Nat) (w : World) (h : FrV w v X D) (hX : X.natAbs < BigR) (hD : D < BigR) (h0 : 0 < D) (hg : Nat.gcd X.natAbs D = 1) :
    Calls Tryz.prog 15 #[v] w fun e w' => e = .returned (.bool true) ∧ Below w.heap.size w w' := by
  obtain ⟨a, k, c, a', k', c', rfl, n1, n2⟩ := h
  have q1 := num_longR n1
  have q2 := num_longR n2
  obtain ⟨xs, s1, l1, t1, v1⟩ := n1
  obtain ⟨ys, s2, l2, t2, v2⟩ := n2
  have T1 : Hid (∀ u, Below w.heap.size w u → Calls Tryz.prog 44 #[.slice a k c] u fun e w' => e = .returned (.slice a k c) ∧ w' = u) := Lib.hid (fun u hu => by
    have := rtrim_eq (s1.below hu)
    rwa [tlen_of_top t1, ← sl_eq_len s1] at this)
  have T2 : Hid (∀ u, Below w.heap.size w u → Calls Tryz.prog 44 #[.slice a' k' c'] u fun e w' => e = .returned (.slice a' k' c') ∧ w' = u) := Lib.hid (fun u hu => by
    have := rtrim_eq (s2.below hu)
    rwa [tlen_of_top t2, ← sl_eq_len s2] at this)
  have CP : Hid (∀ u, Below w.heap.size w u → Calls Tryz.prog 45 #[.slice a k c, .slice a' k' c'] u fun e w' => e = .returned (.bool true) ∧ Below u.heap.size u w') := Lib.hid (fun u hu => coprime_one a k c a' k' c' xs ys u (s1.below hu) (s2.below hu) l1 l2 (by omega) (by omega) (by rw [v1]; exact bigR_lt hX) (by rw [v2]; exact bigR_lt hD) (by rw [v1, v2]; exact hg))
  have hk' : k' ≠ 0 := by
    rintro rfl
    have e := sl_eq_len s2
    have : ys = [] := List.eq_nil_of_length_eq_zero e.symm
    rw [this] at v2
    have : (0 : Nat) = D := v2
    omega
  have hkn : k = 0 → sgn X = false := by
    rintro rfl
    have e := sl_eq_len s1
    have : xs = [] := List.eq_nil_of_length_eq_zero e.symm
    rw [this] at v1
    have hx : (0 : Nat) = X.natAbs := v1
    have : X = 0 := by omega
    rw [this]; rfl
  have d1 : ((k' : Int) == 0) = false := beq_eq_false_iff_ne.2 (by omega)
  have HKN := Lib.hid hkn
  obtain ⟨W, eW, g1, bW, -⟩ := alloc1 w (Obj.cells #[.bool (sgn X), .slice a k c, .slice a' k' c'] 27)
  have GW := Lib.hid g1; have BW := Lib.hid bW
  obtain ⟨⟨p0, p1, p2⟩, _, lp⟩ := blk3 g1
  clear q1 q2 s1 s2 l1 l2 t1 t2 v1 v2 hX hD h0 hg hk' hkn g1 bW
  go_enter Tryz.func15, Tryz.ntmps15
  go_wp2_with fail
  try rw [eW]
  try clear eW
  go_region
  have BD : Hid (Below w.heap.size w W.drew) := Lib.hid BW.out.drew
  have GD : Hid (W.drew.heap[w.heap.size]? = _) := Lib.hid GW.out
  generalize W.drew = V at *
  clear p0 p1 p2 BW GW lp
  obtain ⟨⟨p0, p1, p2⟩, _, _⟩ := blk3 GD.out
  by_cases hk : k = 0
  · have hs := HKN.out hk
    rw [hs] at p0
    have d2 : ((k : Int) == 0) = true := by rw [hk]; rfl
    clear hk hs
    go_wp2_with fail
    refine (T1.out _ BD.out).mono ?_
    rintro e w1 ⟨rfl, rfl⟩
    go_wp2_with fail
    refine (T2.out _ BD.out).mono ?_
    rintro e w1 ⟨rfl, rfl⟩
    clear T1 T2
    go_wp2_with fail
    refine (CP.out _ BD.out).mono ?_
    rintro e w4 ⟨rfl, b4⟩
    have B4 := Lib.hid (below_of BD.out b4)
    clear b4 CP
    go_wp2
    go_ret
    exact ⟨rfl, B4.out⟩
  · have d2 : ((k : Int) == 0) = false := beq_eq_false_iff_ne.2 (by omega)
    clear hk
    go_wp2_with fail
    refine (T1.out _ BD.out).mono ?_
    rintro e w1 ⟨rfl, rfl⟩
    go_wp2_with fail
    refine (T2.out _ BD.out).mono ?_
    rintro e w1 ⟨rfl, rfl⟩
    clear T1 T2
    go_wp2_with fail
    refine (CP.out _ BD.out).mono ?_
    rintro e w4 ⟨rfl, b4⟩
    have B4 := Lib.hid (below_of BD.out b4)
    clear b4 CP
    go_wp2
    go_ret
    exact ⟨rfl, B4.out⟩
end Go.Proofs.YthgmebnihpjnoaaGreatDoor
