/- Package whole: Sub. -/
import Derived.Test.YtckmpnfadpnaeaaDoorZN
import Derived.Test.YtckmpnfadpnaeaaDoorZM
set_option linter.unusedVariables false
set_option linter.unusedSimpArgs false
namespace Go.Proofs.YtckmpnfadpnaeaaDoor
open Go.RowKit Mth

set_option maxHeartbeats 4000000 in
set_option maxRecDepth 100000 in
theorem subI_any (va vb : Value) (x y : Int) (w : World) (ha : IntV w va x) (hb : IntV w vb y) :
    Calls Tryd.prog 28 #[va, vb] w fun e w' => ∃ v', e = .returned (.tuple #[v', .int .i64 (zE (x - y))]) ∧ IntC w' w.heap.size v' (zN (x - y)) ∧ Below w.heap.size w w' := by
  have HX := Lib.hid ha.huge; have HY : Hid ((-y).natAbs < HugeN) := Lib.hid (by rw [Int.natAbs_neg]; exact hb.huge)
  obtain ⟨n1, a1, k1, c1, t1, rfl, N1, R1⟩ := ha.rd
  obtain ⟨n2, a2, k2, c2, t2, rfl, N2, R2⟩ := hb.rd
  have R1' := Lib.hid R1; have R2' := Lib.hid R2; have N1' := Lib.hid N1; have N2' := Lib.hid N2.neg; have Z2 := Lib.hid N2.parts.2.1
  clear ha hb R1 R2 N1 N2
  go_enter Tryd.func28, Tryd.ntmps28
  go_wp2
  obtain ⟨W, eW, h1, h2, h3, bel, hsz⟩ := alloc3 w (Obj.cells #[Value.bool n1, Value.slice a1 k1 c1] 25) (Obj.cells #[Value.bool n2, Value.slice a2 k2 c2] 25) (Obj.cells #[Value.bool false, Value.slice none 0 0] 25)
  rw [eW]
  obtain ⟨p0, p1, _, _, _⟩ := blk2 h1
  obtain ⟨q0, q1, _, _, _⟩ := blk2 h2
  have Z0 := zr_start h3
  have STAY : Hid (∀ w', Zr W w' (w.heap.size + 2) 25 2 → w'.cell? ⟨w.heap.size, 0, none⟩ = some (.bool n1) ∧ w'.cell? ⟨w.heap.size, 1, none⟩ = some (.slice a1 k1 c1) ∧ w'.cell? ⟨w.heap.size + 1, 0, none⟩ = some (.bool n2) ∧ w'.cell? ⟨w.heap.size + 1, 1, none⟩ = some (.slice a2 k2 c2) ∧ Zr W w' (w.heap.size + 2) 25 2) :=
    Lib.hid (fun w' h => ⟨h.cell p0 (by omega), h.cell p1 (by omega), h.cell q0 (by omega), h.cell q1 (by omega), h⟩)
  have ZB : Hid (∀ w', Zr W w' (w.heap.size + 2) 25 2 → Below w.heap.size w w') := Lib.hid (fun w' h => h.below bel (by omega))
  obtain ⟨s0, s1, s2, s3, _⟩ := STAY.out _ Z0
  clear eW h1 h2 h3 p0 p1 q0 q1
  go_region_held3 (fun w' => w'.cell? ⟨w.heap.size, 0, none⟩ = some (.bool n1) ∧ w'.cell? ⟨w.heap.size, 1, none⟩ = some (.slice a1 k1 c1) ∧ w'.cell? ⟨w.heap.size + 1, 0, none⟩ = some (.bool n2) ∧ w'.cell? ⟨w.heap.size + 1, 1, none⟩ = some (.slice a2 k2 c2) ∧ Zr W w' (w.heap.size + 2) 25 2)
    ((try go_split_ands; refine STAY.out _ ?_; first | assumption | exact Zr.call (by assumption) (by assumption) | exact Zr.set (Zr.set (by assumption))))
    (first
    | (go_at_call 35; go_split_ands; first | (refine (R1'.out _ (ZB.out _ (by assumption))).mono ?_; rintro e w1 ⟨rfl, hb1, _⟩) | (refine (R2'.out _ (ZB.out _ (by assumption))).mono ?_; rintro e w1 ⟨rfl, hb1, _⟩))
    | (go_at_call 58; go_split_ands; refine (turned_is _ _ _ y _ Z2.out).mono ?_; rintro e w2 ⟨rfl, hb2⟩)
    | (go_at_call 53; go_split_ands; have hRx := Zr.lt ‹Zr _ _ _ _ _›; refine (sumOf_any _ _ x (-y) _ (N1'.out.below (ZB.out _ (by assumption))) (N2'.out.below (ZB.out _ (by assumption))) HX.out HY.out).mono ?_; rintro e w3 ⟨v3, rfl, hn', hb3⟩; have hn := hn'.mono (base' := w.heap.size + 3) hRx; rw [← Int.sub_eq_add_neg] at hn; clear hn'; obtain ⟨a3, k3, c3, n3, rfl⟩ := hn.shape)
    | (go_at_call 44; go_split_ands; refine (answer_number _ _ (x - y) _ (by assumption) (Zr.lt ‹Zr _ _ _ _ _›)).mono ?_; rintro e w4 ⟨v4, rfl, hi, hb4⟩; obtain ⟨b5, a5, k5, c5, rfl⟩ := hi.shape; obtain ⟨_, _, u0, u1, g0, g1, _⟩ := Zr.two (Zr.call ‹Zr _ _ _ _ _› hb4)))
  go_wp2
  refine bodyPost_ret (v := .tuple #[.agg #[.bool b5, .slice a5 k5 c5], .int .i64 (zE (x - y))]) ?_ rfl ⟨_, rfl, (((IntC.far (IntC.far ‹IntC _ _ _ _› (Nat.lt_succ_self _)) (Nat.lt_succ_self _))).mono (by omega)), ZB.out _ (by first | assumption | (go_split_ands; assumption) | exact Zr.set (Zr.set (by assumption)))⟩
  simp [results, Tryd.results28, go_sem, *]
end Go.Proofs.YtckmpnfadpnaeaaDoor
