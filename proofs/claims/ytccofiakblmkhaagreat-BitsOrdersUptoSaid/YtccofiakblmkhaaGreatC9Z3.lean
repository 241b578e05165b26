/- ZM ZN ZN2 ZO ZP. -/
import Derived.Test.YtccofiakblmkhaaGreatC9Z2
set_option linter.unusedVariables false
set_option linter.unusedSimpArgs false
/- Package whole: turned, Neg, Abs, Sign, Of, unit. -/
namespace Go.Proofs.YtccofiakblmkhaaGreat
open Go.RowKit Mth

theorem Num.zero {w : World} {n k c : Nat} {ao : Option Addr} (h : Num w (.slice ao k c) n) : k = 0 ↔ n = 0 := by
  obtain ⟨xs, h1, h2, h3, h4⟩ := h
  obtain ⟨ao', c', e, _⟩ := h1
  simp only [Value.slice.injEq] at e
  obtain ⟨_, rfl, _⟩ := e
  rw [← h4, ← nil_iff, trimL_of_top h3]
theorem NuV.parts {w : World} {ao : Option Addr} {k c : Nat} {b : Bool} {z : Int} (h : NuV w (.agg #[.slice ao k c, .bool b]) z) : b = sgn z ∧ (k = 0 ↔ z = 0) ∧ Num w (.slice ao k c) z.natAbs := by
  obtain ⟨u, e, h1⟩ := h
  simp only [Value.agg.injEq, Array.mk.injEq, List.cons.injEq, Value.bool.injEq, and_true] at e
  obtain ⟨rfl, rfl⟩ := e
  have := h1.zero
  exact ⟨rfl, by rw [this]; omega, h1⟩
theorem neg_bit {k : Nat} {z : Int} (h : k = 0 ↔ z = 0) : (!sgn z && !((k : Int) == 0)) = sgn (-z) := by
  by_cases hz : z = 0
  · have hk := h.2 hz
    subst hz hk; rfl
  · have : ((k : Int) == 0) = false := by rw [beq_eq_false_iff_ne]; intro e; exact hz (h.1 (by omega))
    rw [this]
    by_cases hn : z < 0
    · rw [sgn_neg hn, sgn_pos (by omega)]; rfl
    · rw [sgn_pos (by omega), sgn_neg (by omega)]; rfl
theorem NuV.neg {w : World} {ao : Option Addr} {k c : Nat} {b : Bool} {z : Int} (h : NuV w (.agg #[.slice ao k c, .bool b]) z) : NuV w (.agg #[.slice ao k c, .bool (sgn (-z))]) (-z) := by
  obtain ⟨_, _, h3⟩ := h.parts
  exact ⟨_, rfl, by rw [Int.natAbs_neg]; exact h3⟩

set_option maxRecDepth 100000 in
theorem turned_is (ao : Option Addr) (k c : Nat) (z : Int) (w : World) (hz : k = 0 ↔ z = 0) : Calls Tryz.prog 103 #[.agg #[.slice ao k c, .bool (sgn z)]] w fun e w' => e = .returned (.agg #[.slice ao k c, .bool (sgn (-z))]) ∧ Below w.heap.size w w' := by
  have E := Lib.hid (neg_bit hz)
  clear hz
  go_enter Tryz.func103, Tryz.ntmps103
  go_wp2_with fail
  obtain ⟨W, eW, b1, b2, bel, hsz⟩ := alloc2 w (Obj.cells #[Value.slice ao k c, Value.bool (sgn z)] 79) (Obj.cells #[Value.slice none 0 0, Value.bool false] 79)
  rw [eW]
  have H2 := Lib.hid b2
  clear eW b1 b2
  refine (signed_is _ _ _ _ _).mono ?_
  rintro e w1 ⟨rfl, hb1, _⟩
  have hR := (hb1.block _ hsz).trans H2.out
  obtain ⟨k0, k1, g0, g1, _⟩ := blk2 hR
  rw [E.out]
  go_wp2
  refine bodyPost_ret (v := .agg #[.slice ao k c, .bool (sgn (-z))]) ?_ rfl ⟨rfl, ((below_of bel hb1).setCell (p := ⟨w.heap.size + 1, 0, none⟩) (Nat.le_add_right _ _) _).setCell (p := ⟨w.heap.size + 1, 1, none⟩) (Nat.le_add_right _ _) _⟩
  simp [results, Tryz.results103, go_sem, *]

set_option maxRecDepth 100000 in
theorem neg_any (v : Value) (z : Int) (w : World) (h : IntV w v z) : Calls Tryz.prog 166 #[v] w fun e w' => ∃ v', e = .returned v' ∧ IntC w' w.heap.size v' (-z) ∧ Below w.heap.size w w' := by
  obtain ⟨n, ao, k, c, t, rfl, N, R⟩ := h.rd
  have Z := Lib.hid N.parts.2.1
  have N := Lib.hid N.neg; have R := Lib.hid R
  clear h
  go_enter Tryz.func166, Tryz.ntmps166
  go_wp2_with fail
  obtain ⟨W, eW, h1, h2, bel, hsz⟩ := alloc2 w (Obj.cells #[Value.bool n, Value.slice ao k c] 26) (Obj.cells #[Value.bool false, Value.slice none 0 0] 26)
  rw [eW]
  have H2 := Lib.hid h2
  clear eW h1 h2
  refine (R.out W bel).mono ?_
  rintro e w1 ⟨rfl, hb1, _⟩
  go_wp2_with fail
  refine (turned_is _ _ _ z w1 Z.out).mono ?_
  rintro e w2 ⟨rfl, hb2⟩
  have B2 := below_of (below_of bel hb1) hb2
  go_wp2_with fail
  refine (copied_any _ (-z) w2 (N.out.below B2)).mono ?_
  rintro e w3 ⟨v3, rfl, hi, hb3⟩
  have hR := (hb3.block _ (size_to hb2 (size_to hb1 hsz))).trans ((hb2.block _ (size_to hb1 hsz)).trans ((hb1.block _ hsz).trans H2.out))
  obtain ⟨n2, a2, k2, c2, rfl⟩ := hi.shape
  obtain ⟨k0, k1, g0, g1, hlt⟩ := blk2 hR
  have hs2 : w.heap.size + 1 < w2.heap.size := size_to hb2 (size_to hb1 hsz)
  go_wp2
  refine bodyPost_ret (v := .agg #[.bool n2, .slice a2 k2 c2]) ?_ rfl ⟨_, rfl, ((hi.far hs2).far hs2).mono B2.size, ((below_of B2 hb3).setCell (p := ⟨w.heap.size + 1, 0, none⟩) (Nat.le_add_right _ _) _).setCell (p := ⟨w.heap.size + 1, 1, none⟩) (Nat.le_add_right _ _) _⟩
  simp [results, Tryz.results166, go_sem, *]

set_option maxRecDepth 100000 in
theorem ofI_any (n : Int) (w : World) (h1 : -9223372036854775808 ≤ n) (h2 : n ≤ 9223372036854775807) : Calls Tryz.prog 165 #[.int .i64 n] w fun e w' => ∃ v', e = .returned v' ∧ IntC w' w.heap.size v' n ∧ Below w.heap.size w w' := by
  have HA : Hid (n.natAbs < B64) := Lib.hid (by unfold B64; omega)
  by_cases hn : n < 0
  · have hw1 : IntKind.u64.wrap n = n + 18446744073709551616 := by rw [IntKind.wrap_u64]; omega
    have hw2 : IntKind.u64.wrap (-(n + 18446744073709551616)) = ((n.natAbs : Nat) : Int) := by rw [IntKind.wrap_u64]; omega
    have E := Lib.hid (sgn_neg hn)
    obtain ⟨m, hm⟩ : ∃ m, n.natAbs = m := ⟨_, rfl⟩
    rw [hm] at hw2 HA
    have HM := Lib.hid hm
    clear hm
    go_enter Tryz.func165, Tryz.ntmps165
    go_wp2_with fail
    refine (of_own m HA.out _).mono ?_
    rintro e w1 ⟨v1, rfl, ho, hb1⟩
    obtain ⟨a1, k1, c1, rfl⟩ := ho.ow.shape
    have h2 := (hb1.block w.heap.size (by simp)).trans (heap_alloc_new w _)
    obtain ⟨k0, k1', g0, g1, _⟩ := blk2 h2
    have HO := Lib.hid ho.ow
    have HB := Lib.hid (((Below.refl _ _).alloc (Nat.le_refl _) _).trans (hb1.mono (by simp)))
    clear ho
    go_wp2
    refine bodyPost_ret (v := .agg #[.bool true, .slice a1 k1 c1]) ?_ rfl ⟨_, rfl, ⟨_, by rw [E.out], ?_⟩, (HB.out.setCell (p := ⟨w.heap.size, 0, none⟩) (Nat.le_refl _) _).setCell (p := ⟨w.heap.size, 1, none⟩) (Nat.le_refl _) _⟩
    · simp [results, Tryz.results165, go_sem, *]
    · rw [HM.out]
      exact ((HO.out.far (by simp)).far (by simp)).mono (by simp)
  · have hw1 : IntKind.u64.wrap n = ((n.natAbs : Nat) : Int) := by rw [IntKind.wrap_u64]; omega
    have E := Lib.hid (sgn_pos (show 0 ≤ n by omega))
    obtain ⟨m, hm⟩ : ∃ m, n.natAbs = m := ⟨_, rfl⟩
    rw [hm] at hw1 HA
    have hnm : n = (m : Int) := by omega
    subst hnm
    have HM := Lib.hid hm
    clear hm
    go_enter Tryz.func165, Tryz.ntmps165
    go_wp2_with fail
    refine (of_own m HA.out _).mono ?_
    rintro e w1 ⟨v1, rfl, ho, hb1⟩
    obtain ⟨a1, k1, c1, rfl⟩ := ho.ow.shape
    have h2 := (hb1.block w.heap.size (by simp)).trans (heap_alloc_new w _)
    obtain ⟨k0, k1', g0, g1, _⟩ := blk2 h2
    have HO := Lib.hid ho.ow
    have HB := Lib.hid (((Below.refl _ _).alloc (Nat.le_refl _) _).trans (hb1.mono (by simp)))
    clear ho
    go_wp2
    refine bodyPost_ret (v := .agg #[.bool false, .slice a1 k1 c1]) ?_ rfl ⟨_, rfl, ⟨_, by rw [E.out], ?_⟩, (HB.out.setCell (p := ⟨w.heap.size, 0, none⟩) (Nat.le_refl _) _).setCell (p := ⟨w.heap.size, 1, none⟩) (Nat.le_refl _) _⟩
    · simp [results, Tryz.results165, go_sem, *]
    · rw [HM.out]
      exact ((HO.out.far (by simp)).far (by simp)).mono (by simp)
end Go.Proofs.YtccofiakblmkhaaGreat

/- Package whole: Add, Sub. -/
namespace Go.Proofs.YtccofiakblmkhaaGreat
open Go.RowKit Mth

theorem IntV.huge {w : World} {v : Value} {z : Int} (h : IntV w v z) : z.natAbs < HugeN := by
  obtain ⟨n, u, xs, _, _, l, hl, rfl⟩ := h
  rw [natAbs_sg]
  exact huge_len l (by unfold Lm; exact hl)

set_option maxHeartbeats 4000000 in
set_option maxRecDepth 100000 in
theorem addI_any (va vb : Value) (x y : Int) (w : World) (ha : IntV w va x) (hb : IntV w vb y) :
    Calls Tryz.prog 175 #[va, vb] w fun e w' => ∃ v', e = .returned (.tuple #[v', .int .i64 (zE (x + y))]) ∧ IntC w' w.heap.size v' (zN (x + y)) ∧ Below w.heap.size w w' := by
  have HX := Lib.hid ha.huge; have HY := Lib.hid hb.huge
  obtain ⟨n1, a1, k1, c1, t1, rfl, N1, R1⟩ := ha.rd
  obtain ⟨n2, a2, k2, c2, t2, rfl, N2, R2⟩ := hb.rd
  have R1' := Lib.hid R1; have R2' := Lib.hid R2; have N1' := Lib.hid N1; have N2' := Lib.hid N2
  clear ha hb R1 R2 N1 N2
  go_enter Tryz.func175, Tryz.ntmps175
  go_wp2
  obtain ⟨W, eW, h1, h2, h3, bel, hsz⟩ := alloc3 w (Obj.cells #[Value.bool n1, Value.slice a1 k1 c1] 26) (Obj.cells #[Value.bool n2, Value.slice a2 k2 c2] 26) (Obj.cells #[Value.bool false, Value.slice none 0 0] 26)
  rw [eW]
  obtain ⟨p0, p1, _, _, _⟩ := blk2 h1
  obtain ⟨q0, q1, _, _, _⟩ := blk2 h2
  have Z0 := zr_start h3
  have STAY : Hid (∀ w', Zr W w' (w.heap.size + 2) 26 2 → w'.cell? ⟨w.heap.size, 0, none⟩ = some (.bool n1) ∧ w'.cell? ⟨w.heap.size, 1, none⟩ = some (.slice a1 k1 c1) ∧ w'.cell? ⟨w.heap.size + 1, 0, none⟩ = some (.bool n2) ∧ w'.cell? ⟨w.heap.size + 1, 1, none⟩ = some (.slice a2 k2 c2) ∧ Zr W w' (w.heap.size + 2) 26 2) :=
    Lib.hid (fun w' h => ⟨h.cell p0 (by omega), h.cell p1 (by omega), h.cell q0 (by omega), h.cell q1 (by omega), h⟩)
  have ZB : Hid (∀ w', Zr W w' (w.heap.size + 2) 26 2 → Below w.heap.size w w') := Lib.hid (fun w' h => h.below bel (by omega))
  obtain ⟨s0, s1, s2, s3, _⟩ := STAY.out _ Z0
  clear eW h1 h2 h3 p0 p1 q0 q1
  go_region_held3 (fun w' => w'.cell? ⟨w.heap.size, 0, none⟩ = some (.bool n1) ∧ w'.cell? ⟨w.heap.size, 1, none⟩ = some (.slice a1 k1 c1) ∧ w'.cell? ⟨w.heap.size + 1, 0, none⟩ = some (.bool n2) ∧ w'.cell? ⟨w.heap.size + 1, 1, none⟩ = some (.slice a2 k2 c2) ∧ Zr W w' (w.heap.size + 2) 26 2)
    ((try go_split_ands; refine STAY.out _ ?_; first | assumption | exact Zr.call (by assumption) (by assumption) | exact Zr.set (Zr.set (by assumption))))
    (first
    | (go_at_call 45; go_split_ands; first | (refine (R1'.out _ (ZB.out _ (by assumption))).mono ?_; rintro e w1 ⟨rfl, hb1, _⟩) | (refine (R2'.out _ (ZB.out _ (by assumption))).mono ?_; rintro e w1 ⟨rfl, hb1, _⟩))
    | (go_at_call 102; go_split_ands; have hRx := Zr.lt ‹Zr _ _ _ _ _›; refine (sumOf_any _ _ x y _ (N1'.out.below (ZB.out _ (by assumption))) (N2'.out.below (ZB.out _ (by assumption))) HX.out HY.out).mono ?_; rintro e w3 ⟨v3, rfl, hn', hb3⟩; have hn := hn'.mono (base' := w.heap.size + 3) hRx; clear hn'; obtain ⟨a3, k3, c3, n3, rfl⟩ := hn.shape)
    | (go_at_call 104; go_split_ands; refine (answer_number _ _ (x + y) _ (by assumption) (Zr.lt ‹Zr _ _ _ _ _›)).mono ?_; rintro e w4 ⟨v4, rfl, hi, hb4⟩; obtain ⟨b5, a5, k5, c5, rfl⟩ := hi.shape; obtain ⟨_, _, u0, u1, g0, g1, _⟩ := Zr.two (Zr.call ‹Zr _ _ _ _ _› hb4)))
  go_wp2
  refine bodyPost_ret (v := .tuple #[.agg #[.bool b5, .slice a5 k5 c5], .int .i64 (zE (x + y))]) ?_ rfl ⟨_, rfl, (((IntC.far (IntC.far ‹IntC _ _ _ _› (Nat.lt_succ_self _)) (Nat.lt_succ_self _))).mono (by omega)), ZB.out _ (by first | assumption | (go_split_ands; assumption) | exact Zr.set (Zr.set (by assumption)))⟩
  simp [results, Tryz.results175, go_sem, *]
end Go.Proofs.YtccofiakblmkhaaGreat

/- Package whole: Sub. -/
namespace Go.Proofs.YtccofiakblmkhaaGreat
open Go.RowKit Mth

set_option maxHeartbeats 4000000 in
set_option maxRecDepth 100000 in
theorem subI_any (va vb : Value) (x y : Int) (w : World) (ha : IntV w va x) (hb : IntV w vb y) :
    Calls Tryz.prog 71 #[va, vb] w fun e w' => ∃ v', e = .returned (.tuple #[v', .int .i64 (zE (x - y))]) ∧ IntC w' w.heap.size v' (zN (x - y)) ∧ Below w.heap.size w w' := by
  have HX := Lib.hid ha.huge; have HY : Hid ((-y).natAbs < HugeN) := Lib.hid (by rw [Int.natAbs_neg]; exact hb.huge)
  obtain ⟨n1, a1, k1, c1, t1, rfl, N1, R1⟩ := ha.rd
  obtain ⟨n2, a2, k2, c2, t2, rfl, N2, R2⟩ := hb.rd
  have R1' := Lib.hid R1; have R2' := Lib.hid R2; have N1' := Lib.hid N1; have N2' := Lib.hid N2.neg; have Z2 := Lib.hid N2.parts.2.1
  clear ha hb R1 R2 N1 N2
  go_enter Tryz.func71, Tryz.ntmps71
  go_wp2
  obtain ⟨W, eW, h1, h2, h3, bel, hsz⟩ := alloc3 w (Obj.cells #[Value.bool n1, Value.slice a1 k1 c1] 26) (Obj.cells #[Value.bool n2, Value.slice a2 k2 c2] 26) (Obj.cells #[Value.bool false, Value.slice none 0 0] 26)
  rw [eW]
  obtain ⟨p0, p1, _, _, _⟩ := blk2 h1
  obtain ⟨q0, q1, _, _, _⟩ := blk2 h2
  have Z0 := zr_start h3
  have STAY : Hid (∀ w', Zr W w' (w.heap.size + 2) 26 2 → w'.cell? ⟨w.heap.size, 0, none⟩ = some (.bool n1) ∧ w'.cell? ⟨w.heap.size, 1, none⟩ = some (.slice a1 k1 c1) ∧ w'.cell? ⟨w.heap.size + 1, 0, none⟩ = some (.bool n2) ∧ w'.cell? ⟨w.heap.size + 1, 1, none⟩ = some (.slice a2 k2 c2) ∧ Zr W w' (w.heap.size + 2) 26 2) :=
    Lib.hid (fun w' h => ⟨h.cell p0 (by omega), h.cell p1 (by omega), h.cell q0 (by omega), h.cell q1 (by omega), h⟩)
  have ZB : Hid (∀ w', Zr W w' (w.heap.size + 2) 26 2 → Below w.heap.size w w') := Lib.hid (fun w' h => h.below bel (by omega))
  obtain ⟨s0, s1, s2, s3, _⟩ := STAY.out _ Z0
  clear eW h1 h2 h3 p0 p1 q0 q1
  go_region_held3 (fun w' => w'.cell? ⟨w.heap.size, 0, none⟩ = some (.bool n1) ∧ w'.cell? ⟨w.heap.size, 1, none⟩ = some (.slice a1 k1 c1) ∧ w'.cell? ⟨w.heap.size + 1, 0, none⟩ = some (.bool n2) ∧ w'.cell? ⟨w.heap.size + 1, 1, none⟩ = some (.slice a2 k2 c2) ∧ Zr W w' (w.heap.size + 2) 26 2)
    ((try go_split_ands; refine STAY.out _ ?_; first | assumption | exact Zr.call (by assumption) (by assumption) | exact Zr.set (Zr.set (by assumption))))
    (first
    | (go_at_call 45; go_split_ands; first | (refine (R1'.out _ (ZB.out _ (by assumption))).mono ?_; rintro e w1 ⟨rfl, hb1, _⟩) | (refine (R2'.out _ (ZB.out _ (by assumption))).mono ?_; rintro e w1 ⟨rfl, hb1, _⟩))
    | (go_at_call 103; go_split_ands; refine (turned_is _ _ _ y _ Z2.out).mono ?_; rintro e w2 ⟨rfl, hb2⟩)
    | (go_at_call 102; go_split_ands; have hRx := Zr.lt ‹Zr _ _ _ _ _›; refine (sumOf_any _ _ x (-y) _ (N1'.out.below (ZB.out _ (by assumption))) (N2'.out.below (ZB.out _ (by assumption))) HX.out HY.out).mono ?_; rintro e w3 ⟨v3, rfl, hn', hb3⟩; have hn := hn'.mono (base' := w.heap.size + 3) hRx; rw [← Int.sub_eq_add_neg] at hn; clear hn'; obtain ⟨a3, k3, c3, n3, rfl⟩ := hn.shape)
    | (go_at_call 104; go_split_ands; refine (answer_number _ _ (x - y) _ (by assumption) (Zr.lt ‹Zr _ _ _ _ _›)).mono ?_; rintro e w4 ⟨v4, rfl, hi, hb4⟩; obtain ⟨b5, a5, k5, c5, rfl⟩ := hi.shape; obtain ⟨_, _, u0, u1, g0, g1, _⟩ := Zr.two (Zr.call ‹Zr _ _ _ _ _› hb4)))
  go_wp2
  refine bodyPost_ret (v := .tuple #[.agg #[.bool b5, .slice a5 k5 c5], .int .i64 (zE (x - y))]) ?_ rfl ⟨_, rfl, (((IntC.far (IntC.far ‹IntC _ _ _ _› (Nat.lt_succ_self _)) (Nat.lt_succ_self _))).mono (by omega)), ZB.out _ (by first | assumption | (go_split_ands; assumption) | exact Zr.set (Zr.set (by assumption)))⟩
  simp [results, Tryz.results71, go_sem, *]
end Go.Proofs.YtccofiakblmkhaaGreat

/- Package whole: an amount's quotient where neither is long; divide; answers. -/
namespace Go.Proofs.YtccofiakblmkhaaGreat
open Go.RowKit Mth

end Go.Proofs.YtccofiakblmkhaaGreat

/- Package whole: a division's answers; DivMod where nothing is long. -/
namespace Go.Proofs.YtccofiakblmkhaaGreat
open Go.RowKit Mth

theorem NuC.parts {w : World} {base k c : Nat} {ao : Option Addr} {b : Bool} {z : Int} (h : NuC w base (.agg #[.slice ao k c, .bool b]) z) : b = sgn z ∧ Ow w base (.slice ao k c) z.natAbs := by
  obtain ⟨u, e, h1⟩ := h
  simp only [Value.agg.injEq, Array.mk.injEq, List.cons.injEq, Value.bool.injEq, and_true] at e
  obtain ⟨rfl, rfl⟩ := e
  exact ⟨rfl, h1⟩

end Go.Proofs.YtccofiakblmkhaaGreat
