/- Package whole: turned, Neg, Abs, Sign, Of, unit. -/
import Derived.Test.YtckmpnfadpnaeaaDoorZL
set_option linter.unusedVariables false
set_option linter.unusedSimpArgs false
namespace Go.Proofs.YtckmpnfadpnaeaaDoor
open Go.RowKit Mth

theorem Num.zero {w : World} {n k c : Nat} {ao : Option Addr} (h : Num w (.slice ao k c) n) : k = 0 ↔ n = 0 := by
  obtain ⟨xs, h1, h2, h3, h4⟩ := h
  obtain ⟨ao', c', e, _⟩ := h1
  simp only [Value.slice.injEq] at e
  obtain ⟨_, rfl, _⟩ := e
  rw [← h4, ← nil_iff, trimL_of_top h3]
theorem NuV.parts {w : World} {ao : Option Addr} {k c : Nat} {b : Bool} {z : Int} (h : NuV w (.agg #[.slice ao k c, .bool b]) z) : b = sgn z ∧ (k = 0 ↔ z = 0) ∧ Num w (.slice ao k c) z.natAbs := by
  obtain ⟨u, e, h1⟩ := h
  simp only [Value.agg.injEq, Array.mk.injEq, List.cons.injEq, Value.bool.injEq, and_true] at e
  obtain ⟨rfl, rfl⟩ := e
  have := h1.zero
  exact ⟨rfl, by rw [this]; omega, h1⟩
theorem neg_bit {k : Nat} {z : Int} (h : k = 0 ↔ z = 0) : (!sgn z && !((k : Int) == 0)) = sgn (-z) := by
  by_cases hz : z = 0
  · have hk := h.2 hz
    subst hz hk; rfl
  · have : ((k : Int) == 0) = false := by rw [beq_eq_false_iff_ne]; intro e; exact hz (h.1 (by omega))
    rw [this]
    by_cases hn : z < 0
    · rw [sgn_neg hn, sgn_pos (by omega)]; rfl
    · rw [sgn_pos (by omega), sgn_neg (by omega)]; rfl
theorem NuV.neg {w : World} {ao : Option Addr} {k c : Nat} {b : Bool} {z : Int} (h : NuV w (.agg #[.slice ao k c, .bool b]) z) : NuV w (.agg #[.slice ao k c, .bool (sgn (-z))]) (-z) := by
  obtain ⟨_, _, h3⟩ := h.parts
  exact ⟨_, rfl, by rw [Int.natAbs_neg]; exact h3⟩

set_option maxRecDepth 100000 in
theorem turned_is (ao : Option Addr) (k c : Nat) (z : Int) (w : World) (hz : k = 0 ↔ z = 0) : Calls Tryd.prog 58 #[.agg #[.slice ao k c, .bool (sgn z)]] w fun e w' => e = .returned (.agg #[.slice ao k c, .bool (sgn (-z))]) ∧ Below w.heap.size w w' := by
  have E := Lib.hid (neg_bit hz)
  clear hz
  go_enter Tryd.func58, Tryd.ntmps58
  go_wp2_with fail
  obtain ⟨W, eW, b1, b2, bel, hsz⟩ := alloc2 w (Obj.cells #[Value.slice ao k c, Value.bool (sgn z)] 54) (Obj.cells #[Value.slice none 0 0, Value.bool false] 54)
  rw [eW]
  have H2 := Lib.hid b2
  clear eW b1 b2
  refine (signed_is _ _ _ _ _).mono ?_
  rintro e w1 ⟨rfl, hb1, _⟩
  have hR := (hb1.block _ hsz).trans H2.out
  obtain ⟨k0, k1, g0, g1, _⟩ := blk2 hR
  rw [E.out]
  go_wp2
  refine bodyPost_ret (v := .agg #[.slice ao k c, .bool (sgn (-z))]) ?_ rfl ⟨rfl, ((below_of bel hb1).setCell (p := ⟨w.heap.size + 1, 0, none⟩) (Nat.le_add_right _ _) _).setCell (p := ⟨w.heap.size + 1, 1, none⟩) (Nat.le_add_right _ _) _⟩
  simp [results, Tryd.results58, go_sem, *]

set_option maxRecDepth 100000 in
theorem neg_any (v : Value) (z : Int) (w : World) (h : IntV w v z) : Calls Tryd.prog 30 #[v] w fun e w' => ∃ v', e = .returned v' ∧ IntC w' w.heap.size v' (-z) ∧ Below w.heap.size w w' := by
  obtain ⟨n, ao, k, c, t, rfl, N, R⟩ := h.rd
  have Z := Lib.hid N.parts.2.1
  have N := Lib.hid N.neg; have R := Lib.hid R
  clear h
  go_enter Tryd.func30, Tryd.ntmps30
  go_wp2_with fail
  obtain ⟨W, eW, h1, h2, bel, hsz⟩ := alloc2 w (Obj.cells #[Value.bool n, Value.slice ao k c] 25) (Obj.cells #[Value.bool false, Value.slice none 0 0] 25)
  rw [eW]
  have H2 := Lib.hid h2
  clear eW h1 h2
  refine (R.out W bel).mono ?_
  rintro e w1 ⟨rfl, hb1, _⟩
  go_wp2_with fail
  refine (turned_is _ _ _ z w1 Z.out).mono ?_
  rintro e w2 ⟨rfl, hb2⟩
  have B2 := below_of (below_of bel hb1) hb2
  go_wp2_with fail
  refine (copied_any _ (-z) w2 (N.out.below B2)).mono ?_
  rintro e w3 ⟨v3, rfl, hi, hb3⟩
  have hR := (hb3.block _ (size_to hb2 (size_to hb1 hsz))).trans ((hb2.block _ (size_to hb1 hsz)).trans ((hb1.block _ hsz).trans H2.out))
  obtain ⟨n2, a2, k2, c2, rfl⟩ := hi.shape
  obtain ⟨k0, k1, g0, g1, hlt⟩ := blk2 hR
  have hs2 : w.heap.size + 1 < w2.heap.size := size_to hb2 (size_to hb1 hsz)
  go_wp2
  refine bodyPost_ret (v := .agg #[.bool n2, .slice a2 k2 c2]) ?_ rfl ⟨_, rfl, ((hi.far hs2).far hs2).mono B2.size, ((below_of B2 hb3).setCell (p := ⟨w.heap.size + 1, 0, none⟩) (Nat.le_add_right _ _) _).setCell (p := ⟨w.heap.size + 1, 1, none⟩) (Nat.le_add_right _ _) _⟩
  simp [results, Tryd.results30, go_sem, *]

set_option maxRecDepth 100000 in
theorem sign_any (v : Value) (z : Int) (w : World) (h : IntV w v z) : Calls Tryd.prog 24 #[v] w fun e w' => e = .returned (.int .i64 (zcmp z 0)) ∧ Below w.heap.size w w' := by
  obtain ⟨n, ao, k, c, t, rfl, N, R⟩ := h.rd
  have hz := N.parts.2.1
  have R := Lib.hid R
  have E : Hid (zcmp z 0 = if t = 0 then 0 else if sgn z = true then -1 else 1) := Lib.hid (by
    rw [zcmp_zero]
    by_cases h0 : z = 0
    · rw [if_pos (hz.2 h0), h0]; rfl
    · rw [if_neg (fun e => h0 (hz.1 e))]
      by_cases hn : z < 0
      · rw [if_pos hn, sgn_neg hn, if_pos rfl]
      · rw [if_neg hn, sgn_pos (by omega), if_pos (by omega), if_neg (by simp)])
  clear h N hz
  go_enter Tryd.func24, Tryd.ntmps24
  go_wp2_with fail
  obtain ⟨W, eW, h1, bel, hsz⟩ := alloc1 w (Obj.cells #[Value.bool n, Value.slice ao k c] 25)
  rw [eW]
  clear eW h1
  refine (R.out W bel).mono ?_
  rintro e w1 ⟨rfl, hb1, _⟩
  have B1 := below_of bel hb1
  go_wp2_with fail
  refine (zero_is _ _ _ _).mono ?_
  rintro e w2 ⟨rfl, rfl⟩
  by_cases h0 : t = 0
  · have hd : ((t : Int) == 0) = true := by rw [h0]; rfl
    have E0 : Hid (zcmp z 0 = 0) := Lib.hid (by rw [E.out, if_pos h0])
    clear h0
    go_wp2
    go_ret
    exact ⟨by rw [E0.out]; rfl, B1.alloc B1.size _⟩
  · have hd : ((t : Int) == 0) = false := by rw [beq_eq_false_iff_ne]; omega
    cases hs : sgn z
    · have E0 : Hid (zcmp z 0 = 1) := Lib.hid (by rw [E.out, if_neg h0, hs, if_neg (by simp)])
      clear h0
      go_wp2
      go_ret
      exact ⟨by rw [E0.out]; rfl, B1.alloc B1.size _⟩
    · have E0 : Hid (zcmp z 0 = -1) := Lib.hid (by rw [E.out, if_neg h0, hs, if_pos rfl])
      clear h0
      go_wp2
      go_ret
      exact ⟨by rw [E0.out]; rfl, B1.alloc B1.size _⟩

set_option maxRecDepth 100000 in
theorem unit_is (b : Bool) (w : World) : Calls Tryd.prog 54 #[.bool b] w fun e w' => ∃ v', e = .returned v' ∧ NuC w' w.heap.size v' (sg b 1) ∧ Below w.heap.size w w' := by
  go_enter Tryd.func54, Tryd.ntmps54
  go_wp2
  refine bodyPost_ret (v := .agg #[.slice (some ⟨w.heap.size + 1, 0, none⟩) 1 1, .bool b]) ?_ rfl ⟨_, rfl, ⟨_, by rw [sgn_sg (by omega)], ?_⟩, ((Below.refl _ _).alloc (Nat.le_refl _) _).alloc (by simp) _⟩
  · simp [results, Tryd.results54, go_sem]
  · rw [natAbs_sg]
    refine .inr ⟨w.heap.size + 1, 1, #[.int .u64 1], [1], rfl, ?_, by omega, Nat.le_refl _, by unfold maxLen; omega, Nat.le_refl _, rfl, by simp, lim_cons.2 ⟨by unfold B64; omega, lim_nil (by unfold B64; omega)⟩, rfl, rfl⟩
    have h := heap_alloc_new (w.alloc (Obj.cells #[Value.slice (some ⟨w.heap.size + 1, 0, none⟩) 1 1, Value.bool b] 54)) (Obj.cells #[Value.int IntKind.u64 1] 65)
    rwa [show (w.alloc (Obj.cells #[Value.slice (some ⟨w.heap.size + 1, 0, none⟩) 1 1, Value.bool b] 54)).heap.size = w.heap.size + 1 by simp] at h
set_option maxRecDepth 100000 in
theorem ofI_any (n : Int) (w : World) (h1 : -9223372036854775808 ≤ n) (h2 : n ≤ 9223372036854775807) : Calls Tryd.prog 29 #[.int .i64 n] w fun e w' => ∃ v', e = .returned v' ∧ IntC w' w.heap.size v' n ∧ Below w.heap.size w w' := by
  have HA : Hid (n.natAbs < B64) := Lib.hid (by unfold B64; omega)
  by_cases hn : n < 0
  · have hw1 : IntKind.u64.wrap n = n + 18446744073709551616 := by rw [IntKind.wrap_u64]; omega
    have hw2 : IntKind.u64.wrap (-(n + 18446744073709551616)) = ((n.natAbs : Nat) : Int) := by rw [IntKind.wrap_u64]; omega
    have E := Lib.hid (sgn_neg hn)
    obtain ⟨m, hm⟩ : ∃ m, n.natAbs = m := ⟨_, rfl⟩
    rw [hm] at hw2 HA
    have HM := Lib.hid hm
    clear hm
    go_enter Tryd.func29, Tryd.ntmps29
    go_wp2_with fail
    refine (of_own m HA.out _).mono ?_
    rintro e w1 ⟨v1, rfl, ho, hb1⟩
    obtain ⟨a1, k1, c1, rfl⟩ := ho.ow.shape
    have h2 := (hb1.block w.heap.size (by simp)).trans (heap_alloc_new w _)
    obtain ⟨k0, k1', g0, g1, _⟩ := blk2 h2
    have HO := Lib.hid ho.ow
    have HB := Lib.hid (((Below.refl _ _).alloc (Nat.le_refl _) _).trans (hb1.mono (by simp)))
    clear ho
    go_wp2
    refine bodyPost_ret (v := .agg #[.bool true, .slice a1 k1 c1]) ?_ rfl ⟨_, rfl, ⟨_, by rw [E.out], ?_⟩, (HB.out.setCell (p := ⟨w.heap.size, 0, none⟩) (Nat.le_refl _) _).setCell (p := ⟨w.heap.size, 1, none⟩) (Nat.le_refl _) _⟩
    · simp [results, Tryd.results29, go_sem, *]
    · rw [HM.out]
      exact ((HO.out.far (by simp)).far (by simp)).mono (by simp)
  · have hw1 : IntKind.u64.wrap n = ((n.natAbs : Nat) : Int) := by rw [IntKind.wrap_u64]; omega
    have E := Lib.hid (sgn_pos (show 0 ≤ n by omega))
    obtain ⟨m, hm⟩ : ∃ m, n.natAbs = m := ⟨_, rfl⟩
    rw [hm] at hw1 HA
    have hnm : n = (m : Int) := by omega
    subst hnm
    have HM := Lib.hid hm
    clear hm
    go_enter Tryd.func29, Tryd.ntmps29
    go_wp2_with fail
    refine (of_own m HA.out _).mono ?_
    rintro e w1 ⟨v1, rfl, ho, hb1⟩
    obtain ⟨a1, k1, c1, rfl⟩ := ho.ow.shape
    have h2 := (hb1.block w.heap.size (by simp)).trans (heap_alloc_new w _)
    obtain ⟨k0, k1', g0, g1, _⟩ := blk2 h2
    have HO := Lib.hid ho.ow
    have HB := Lib.hid (((Below.refl _ _).alloc (Nat.le_refl _) _).trans (hb1.mono (by simp)))
    clear ho
    go_wp2
    refine bodyPost_ret (v := .agg #[.bool false, .slice a1 k1 c1]) ?_ rfl ⟨_, rfl, ⟨_, by rw [E.out], ?_⟩, (HB.out.setCell (p := ⟨w.heap.size, 0, none⟩) (Nat.le_refl _) _).setCell (p := ⟨w.heap.size, 1, none⟩) (Nat.le_refl _) _⟩
    · simp [results, Tryd.results29, go_sem, *]
    · rw [HM.out]
      exact ((HO.out.far (by simp)).far (by simp)).mono (by simp)
end Go.Proofs.YtckmpnfadpnaeaaDoor
