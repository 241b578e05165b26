/- ZM ZN ZN2 ZO ZP. -/
import Derived.Test.YtehdfkafdpfdnaaGreatDoorUZ2
set_option linter.unusedVariables false
set_option linter.unusedSimpArgs false
/- Package whole: turned, Neg, Abs, Sign, Of, unit. -/
namespace Go.Proofs.YtehdfkafdpfdnaaGreatDoor
open Go.RowKit Mth

theorem Num.zero {w : World} {n k c : Nat} {ao : Option Addr} (h : Num w (.slice ao k c) n) : k = 0 ↔ n = 0 := by
  obtain ⟨xs, h1, h2, h3, h4⟩ := h
  obtain ⟨ao', c', e, _⟩ := h1
  simp only [Value.slice.injEq] at e
  obtain ⟨_, rfl, _⟩ := e
  rw [← h4, ← nil_iff, trimL_of_top h3]
theorem NuV.parts {w : World} {ao : Option Addr} {k c : Nat} {b : Bool} {z : Int} (h : NuV w (.agg #[.slice ao k c, .bool b]) z) : b = sgn z ∧ (k = 0 ↔ z = 0) ∧ Num w (.slice ao k c) z.natAbs := by
  obtain ⟨u, e, h1⟩ := h
  simp only [Value.agg.injEq, Array.mk.injEq, List.cons.injEq, Value.bool.injEq, and_true] at e
  obtain ⟨rfl, rfl⟩ := e
  have := h1.zero
  exact ⟨rfl, by rw [this]; omega, h1⟩
theorem neg_bit {k : Nat} {z : Int} (h : k = 0 ↔ z = 0) : (!sgn z && !((k : Int) == 0)) = sgn (-z) := by
  by_cases hz : z = 0
  · have hk := h.2 hz
    subst hz hk; rfl
  · have : ((k : Int) == 0) = false := by rw [beq_eq_false_iff_ne]; intro e; exact hz (h.1 (by omega))
    rw [this]
    by_cases hn : z < 0
    · rw [sgn_neg hn, sgn_pos (by omega)]; rfl
    · rw [sgn_pos (by omega), sgn_neg (by omega)]; rfl
theorem NuV.neg {w : World} {ao : Option Addr} {k c : Nat} {b : Bool} {z : Int} (h : NuV w (.agg #[.slice ao k c, .bool b]) z) : NuV w (.agg #[.slice ao k c, .bool (sgn (-z))]) (-z) := by
  obtain ⟨_, _, h3⟩ := h.parts
  exact ⟨_, rfl, by rw [Int.natAbs_neg]; exact h3⟩

set_option maxRecDepth 100000 in
theorem turned_is (ao : Option Addr) (k c : Nat) (z : Int) (w : World) (hz : k = 0 ↔ z = 0) : Calls Tryz.prog 93 #[.agg #[.slice ao k c, .bool (sgn z)]] w fun e w' => e = .returned (.agg #[.slice ao k c, .bool (sgn (-z))]) ∧ Below w.heap.size w w' := by
  have E := Lib.hid (neg_bit hz)
  clear hz
  go_enter Tryz.func93, Tryz.ntmps93
  go_wp2_with fail
  obtain ⟨W, eW, b1, b2, bel, hsz⟩ := alloc2 w (Obj.cells #[Value.slice ao k c, Value.bool (sgn z)] 104) (Obj.cells #[Value.slice none 0 0, Value.bool false] 104)
  rw [eW]
  have H2 := Lib.hid b2
  clear eW b1 b2
  refine (signed_is _ _ _ _ _).mono ?_
  rintro e w1 ⟨rfl, hb1, _⟩
  have hR := (hb1.block _ hsz).trans H2.out
  obtain ⟨k0, k1, g0, g1, _⟩ := blk2 hR
  rw [E.out]
  go_wp2
  refine bodyPost_ret (v := .agg #[.slice ao k c, .bool (sgn (-z))]) ?_ rfl ⟨rfl, ((below_of bel hb1).setCell (p := ⟨w.heap.size + 1, 0, none⟩) (Nat.le_add_right _ _) _).setCell (p := ⟨w.heap.size + 1, 1, none⟩) (Nat.le_add_right _ _) _⟩
  simp [results, Tryz.results93, go_sem, *]

end Go.Proofs.YtehdfkafdpfdnaaGreatDoor

/- Package whole: Add, Sub. -/
namespace Go.Proofs.YtehdfkafdpfdnaaGreatDoor
open Go.RowKit Mth

theorem IntV.huge {w : World} {v : Value} {z : Int} (h : IntV w v z) : z.natAbs < HugeN := by
  obtain ⟨n, u, xs, _, _, l, hl, rfl⟩ := h
  rw [natAbs_sg]
  exact huge_len l (by unfold Lm; exact hl)

set_option maxHeartbeats 4000000 in
set_option maxRecDepth 100000 in
theorem addI_any (va vb : Value) (x y : Int) (w : World) (ha : IntV w va x) (hb : IntV w vb y) :
    Calls Tryz.prog 183 #[va, vb] w fun e w' => ∃ v', e = .returned (.tuple #[v', .int .i64 (zE (x + y))]) ∧ IntC w' w.heap.size v' (zN (x + y)) ∧ Below w.heap.size w w' := by
  have HX := Lib.hid ha.huge; have HY := Lib.hid hb.huge
  obtain ⟨n1, a1, k1, c1, t1, rfl, N1, R1⟩ := ha.rd
  obtain ⟨n2, a2, k2, c2, t2, rfl, N2, R2⟩ := hb.rd
  have R1' := Lib.hid R1; have R2' := Lib.hid R2; have N1' := Lib.hid N1; have N2' := Lib.hid N2
  clear ha hb R1 R2 N1 N2
  go_enter Tryz.func183, Tryz.ntmps183
  go_wp2
  obtain ⟨W, eW, h1, h2, h3, bel, hsz⟩ := alloc3 w (Obj.cells #[Value.bool n1, Value.slice a1 k1 c1] 37) (Obj.cells #[Value.bool n2, Value.slice a2 k2 c2] 37) (Obj.cells #[Value.bool false, Value.slice none 0 0] 37)
  rw [eW]
  obtain ⟨p0, p1, _, _, _⟩ := blk2 h1
  obtain ⟨q0, q1, _, _, _⟩ := blk2 h2
  have Z0 := zr_start h3
  have STAY : Hid (∀ w', Zr W w' (w.heap.size + 2) 37 2 → w'.cell? ⟨w.heap.size, 0, none⟩ = some (.bool n1) ∧ w'.cell? ⟨w.heap.size, 1, none⟩ = some (.slice a1 k1 c1) ∧ w'.cell? ⟨w.heap.size + 1, 0, none⟩ = some (.bool n2) ∧ w'.cell? ⟨w.heap.size + 1, 1, none⟩ = some (.slice a2 k2 c2) ∧ Zr W w' (w.heap.size + 2) 37 2) :=
    Lib.hid (fun w' h => ⟨h.cell p0 (by omega), h.cell p1 (by omega), h.cell q0 (by omega), h.cell q1 (by omega), h⟩)
  have ZB : Hid (∀ w', Zr W w' (w.heap.size + 2) 37 2 → Below w.heap.size w w') := Lib.hid (fun w' h => h.below bel (by omega))
  obtain ⟨s0, s1, s2, s3, _⟩ := STAY.out _ Z0
  clear eW h1 h2 h3 p0 p1 q0 q1
  go_region_held3 (fun w' => w'.cell? ⟨w.heap.size, 0, none⟩ = some (.bool n1) ∧ w'.cell? ⟨w.heap.size, 1, none⟩ = some (.slice a1 k1 c1) ∧ w'.cell? ⟨w.heap.size + 1, 0, none⟩ = some (.bool n2) ∧ w'.cell? ⟨w.heap.size + 1, 1, none⟩ = some (.slice a2 k2 c2) ∧ Zr W w' (w.heap.size + 2) 37 2)
    ((try go_split_ands; refine STAY.out _ ?_; first | assumption | exact Zr.call (by assumption) (by assumption) | exact Zr.set (Zr.set (by assumption))))
    (first
    | (go_at_call 53; go_split_ands; first | (refine (R1'.out _ (ZB.out _ (by assumption))).mono ?_; rintro e w1 ⟨rfl, hb1, _⟩) | (refine (R2'.out _ (ZB.out _ (by assumption))).mono ?_; rintro e w1 ⟨rfl, hb1, _⟩))
    | (go_at_call 92; go_split_ands; have hRx := Zr.lt ‹Zr _ _ _ _ _›; refine (sumOf_any _ _ x y _ (N1'.out.below (ZB.out _ (by assumption))) (N2'.out.below (ZB.out _ (by assumption))) HX.out HY.out).mono ?_; rintro e w3 ⟨v3, rfl, hn', hb3⟩; have hn := hn'.mono (base' := w.heap.size + 3) hRx; clear hn'; obtain ⟨a3, k3, c3, n3, rfl⟩ := hn.shape)
    | (go_at_call 94; go_split_ands; refine (answer_number _ _ (x + y) _ (by assumption) (Zr.lt ‹Zr _ _ _ _ _›)).mono ?_; rintro e w4 ⟨v4, rfl, hi, hb4⟩; obtain ⟨b5, a5, k5, c5, rfl⟩ := hi.shape; obtain ⟨_, _, u0, u1, g0, g1, _⟩ := Zr.two (Zr.call ‹Zr _ _ _ _ _› hb4)))
  go_wp2
  refine bodyPost_ret (v := .tuple #[.agg #[.bool b5, .slice a5 k5 c5], .int .i64 (zE (x + y))]) ?_ rfl ⟨_, rfl, (((IntC.far (IntC.far ‹IntC _ _ _ _› (Nat.lt_succ_self _)) (Nat.lt_succ_self _))).mono (by omega)), ZB.out _ (by first | assumption | (go_split_ands; assumption) | exact Zr.set (Zr.set (by assumption)))⟩
  simp [results, Tryz.results183, go_sem, *]
end Go.Proofs.YtehdfkafdpfdnaaGreatDoor

/- Package whole: Sub. -/
namespace Go.Proofs.YtehdfkafdpfdnaaGreatDoor
open Go.RowKit Mth

set_option maxHeartbeats 4000000 in
set_option maxRecDepth 100000 in
theorem subI_any (va vb : Value) (x y : Int) (w : World) (ha : IntV w va x) (hb : IntV w vb y) :
    Calls Tryz.prog 56 #[va, vb] w fun e w' => ∃ v', e = .returned (.tuple #[v', .int .i64 (zE (x - y))]) ∧ IntC w' w.heap.size v' (zN (x - y)) ∧ Below w.heap.size w w' := by
  have HX := Lib.hid ha.huge; have HY : Hid ((-y).natAbs < HugeN) := Lib.hid (by rw [Int.natAbs_neg]; exact hb.huge)
  obtain ⟨n1, a1, k1, c1, t1, rfl, N1, R1⟩ := ha.rd
  obtain ⟨n2, a2, k2, c2, t2, rfl, N2, R2⟩ := hb.rd
  have R1' := Lib.hid R1; have R2' := Lib.hid R2; have N1' := Lib.hid N1; have N2' := Lib.hid N2.neg; have Z2 := Lib.hid N2.parts.2.1
  clear ha hb R1 R2 N1 N2
  go_enter Tryz.func56, Tryz.ntmps56
  go_wp2
  obtain ⟨W, eW, h1, h2, h3, bel, hsz⟩ := alloc3 w (Obj.cells #[Value.bool n1, Value.slice a1 k1 c1] 37) (Obj.cells #[Value.bool n2, Value.slice a2 k2 c2] 37) (Obj.cells #[Value.bool false, Value.slice none 0 0] 37)
  rw [eW]
  obtain ⟨p0, p1, _, _, _⟩ := blk2 h1
  obtain ⟨q0, q1, _, _, _⟩ := blk2 h2
  have Z0 := zr_start h3
  have STAY : Hid (∀ w', Zr W w' (w.heap.size + 2) 37 2 → w'.cell? ⟨w.heap.size, 0, none⟩ = some (.bool n1) ∧ w'.cell? ⟨w.heap.size, 1, none⟩ = some (.slice a1 k1 c1) ∧ w'.cell? ⟨w.heap.size + 1, 0, none⟩ = some (.bool n2) ∧ w'.cell? ⟨w.heap.size + 1, 1, none⟩ = some (.slice a2 k2 c2) ∧ Zr W w' (w.heap.size + 2) 37 2) :=
    Lib.hid (fun w' h => ⟨h.cell p0 (by omega), h.cell p1 (by omega), h.cell q0 (by omega), h.cell q1 (by omega), h⟩)
  have ZB : Hid (∀ w', Zr W w' (w.heap.size + 2) 37 2 → Below w.heap.size w w') := Lib.hid (fun w' h => h.below bel (by omega))
  obtain ⟨s0, s1, s2, s3, _⟩ := STAY.out _ Z0
  clear eW h1 h2 h3 p0 p1 q0 q1
  go_region_held3 (fun w' => w'.cell? ⟨w.heap.size, 0, none⟩ = some (.bool n1) ∧ w'.cell? ⟨w.heap.size, 1, none⟩ = some (.slice a1 k1 c1) ∧ w'.cell? ⟨w.heap.size + 1, 0, none⟩ = some (.bool n2) ∧ w'.cell? ⟨w.heap.size + 1, 1, none⟩ = some (.slice a2 k2 c2) ∧ Zr W w' (w.heap.size + 2) 37 2)
    ((try go_split_ands; refine STAY.out _ ?_; first | assumption | exact Zr.call (by assumption) (by assumption) | exact Zr.set (Zr.set (by assumption))))
    (first
    | (go_at_call 53; go_split_ands; first | (refine (R1'.out _ (ZB.out _ (by assumption))).mono ?_; rintro e w1 ⟨rfl, hb1, _⟩) | (refine (R2'.out _ (ZB.out _ (by assumption))).mono ?_; rintro e w1 ⟨rfl, hb1, _⟩))
    | (go_at_call 93; go_split_ands; refine (turned_is _ _ _ y _ Z2.out).mono ?_; rintro e w2 ⟨rfl, hb2⟩)
    | (go_at_call 92; go_split_ands; have hRx := Zr.lt ‹Zr _ _ _ _ _›; refine (sumOf_any _ _ x (-y) _ (N1'.out.below (ZB.out _ (by assumption))) (N2'.out.below (ZB.out _ (by assumption))) HX.out HY.out).mono ?_; rintro e w3 ⟨v3, rfl, hn', hb3⟩; have hn := hn'.mono (base' := w.heap.size + 3) hRx; rw [← Int.sub_eq_add_neg] at hn; clear hn'; obtain ⟨a3, k3, c3, n3, rfl⟩ := hn.shape)
    | (go_at_call 94; go_split_ands; refine (answer_number _ _ (x - y) _ (by assumption) (Zr.lt ‹Zr _ _ _ _ _›)).mono ?_; rintro e w4 ⟨v4, rfl, hi, hb4⟩; obtain ⟨b5, a5, k5, c5, rfl⟩ := hi.shape; obtain ⟨_, _, u0, u1, g0, g1, _⟩ := Zr.two (Zr.call ‹Zr _ _ _ _ _› hb4)))
  go_wp2
  refine bodyPost_ret (v := .tuple #[.agg #[.bool b5, .slice a5 k5 c5], .int .i64 (zE (x - y))]) ?_ rfl ⟨_, rfl, (((IntC.far (IntC.far ‹IntC _ _ _ _› (Nat.lt_succ_self _)) (Nat.lt_succ_self _))).mono (by omega)), ZB.out _ (by first | assumption | (go_split_ands; assumption) | exact Zr.set (Zr.set (by assumption)))⟩
  simp [results, Tryz.results56, go_sem, *]
end Go.Proofs.YtehdfkafdpfdnaaGreatDoor

/- Package whole: an amount's quotient where neither is long; divide; answers. -/
namespace Go.Proofs.YtehdfkafdpfdnaaGreatDoor
open Go.RowKit Mth

theorem Ow.zr {W w1 : World} {base n R k : Nat} {v : Value} {T : TypeId} (h : Ow W base v n) (hz : Zr W w1 R T k) (hne : ∀ b, inBlock v = some b → b ≠ R) : Ow w1 base v n := by
  rcases h with h | ⟨g, cap, cur, xs, rfl, h1, h2⟩
  · exact .inl h
  · exact .inr ⟨g, cap, cur, xs, rfl, (hz.1.block g (Array.getElem?_eq_some_iff.1 h1).1 (fun e => hne g rfl (Option.some.inj e))).trans h1, h2⟩
end Go.Proofs.YtehdfkafdpfdnaaGreatDoor

/- Package whole: a division's answers; DivMod where nothing is long. -/
namespace Go.Proofs.YtehdfkafdpfdnaaGreatDoor
open Go.RowKit Mth

theorem NuC.parts {w : World} {base k c : Nat} {ao : Option Addr} {b : Bool} {z : Int} (h : NuC w base (.agg #[.slice ao k c, .bool b]) z) : b = sgn z ∧ Ow w base (.slice ao k c) z.natAbs := by
  obtain ⟨u, e, h1⟩ := h
  simp only [Value.agg.injEq, Array.mk.injEq, List.cons.injEq, Value.bool.injEq, and_true] at e
  obtain ⟨rfl, rfl⟩ := e
  exact ⟨rfl, h1⟩

end Go.Proofs.YtehdfkafdpfdnaaGreatDoor
