/- tribunalref02: Mul. -/
import Derived.Test.YtckmpnfadpnaeaaDoorYK
set_option linter.unusedVariables false
set_option linter.unusedSimpArgs false
namespace Go.Proofs.YtckmpnfadpnaeaaDoor
open Go.RowKit Mth

/-- a bound of all that the row lets in: numbers of bulk at most 1048576 -/
def Bk : Nat := 1048576
def BkN : Nat := B64 ^ Bk
theorem bkn_b16 {n : Nat} (h : n < BkN) : n < B16 ^ (4 * Bk) := by rw [← b64_b16]; exact h

set_option maxHeartbeats 2000000 in
set_option maxRecDepth 100000 in
theorem rmul_any2 (va vb : Value) (x y : Int) (w : World) (ha : IntV w va x) (hb : IntV w vb y) (hx : x.natAbs < BkN) (hy : y.natAbs < BkN) :
    Calls Tryd.prog 13 #[va, vb] w fun e w' => ∃ v', e = .returned (.tuple #[v', .int .i64 (zE (x * y))]) ∧ IntK w' v' (zN (x * y)) ∧ Below w.heap.size w w' := by
  have HX := Lib.hid (bkn_b16 hx); have HY := Lib.hid (bkn_b16 hy)
  clear hx hy
  obtain ⟨n1, a1, k1, c1, rfl⟩ := ha.shape
  obtain ⟨n2, a2, k2, c2, rfl⟩ := hb.shape
  have HA := Lib.hid ha; have HB := Lib.hid hb
  clear ha hb
  go_enter Tryd.func13, Tryd.ntmps13
  go_wp2
  obtain ⟨W, eW, h1, h2, h3, bel, hsz⟩ := alloc3 w (Obj.cells #[Value.bool n1, Value.slice a1 k1 c1] 25) (Obj.cells #[Value.bool n2, Value.slice a2 k2 c2] 25) (Obj.cells #[Value.bool false, Value.slice none 0 0] 25)
  rw [eW]
  obtain ⟨p0, p1, _, _, _⟩ := blk2 h1
  obtain ⟨q0, q1, _, _, _⟩ := blk2 h2
  have Z0 := zk_start h3
  have STAY : Hid (∀ w', Zk W w' (w.heap.size + 1 + 1) 25 → w'.cell? ⟨w.heap.size, 0, none⟩ = some (.bool n1) ∧ w'.cell? ⟨w.heap.size, 1, none⟩ = some (.slice a1 k1 c1) ∧ w'.cell? ⟨w.heap.size + 1, 0, none⟩ = some (.bool n2) ∧ w'.cell? ⟨w.heap.size + 1, 1, none⟩ = some (.slice a2 k2 c2) ∧ Zk W w' (w.heap.size + 1 + 1) 25) :=
    Lib.hid (fun w' h => ⟨h.cell p0 (by omega), h.cell p1 (by omega), h.cell q0 (by omega), h.cell q1 (by omega), h⟩)
  have ZB : Hid (∀ w', Zk W w' (w.heap.size + 1 + 1) 25 → Below w.heap.size w w') := Lib.hid (fun w' h => h.below bel (by omega))
  obtain ⟨s0, s1, s2, s3, _⟩ := STAY.out _ Z0
  clear eW h1 h2 h3 p0 p1 q0 q1
  go_region_held3 (fun w' => w'.cell? ⟨w.heap.size, 0, none⟩ = some (.bool n1) ∧ w'.cell? ⟨w.heap.size, 1, none⟩ = some (.slice a1 k1 c1) ∧ w'.cell? ⟨w.heap.size + 1, 0, none⟩ = some (.bool n2) ∧ w'.cell? ⟨w.heap.size + 1, 1, none⟩ = some (.slice a2 k2 c2) ∧ Zk W w' (w.heap.size + 1 + 1) 25)
    ((try go_split_ands; refine STAY.out _ ?_; first | assumption | exact Zk.call (by assumption) (by assumption) | exact Zk.set (by assumption)))
    (first
    | (go_at_call 41; go_split_ands; first | (refine Calls.mono (from_any2 _ x _ ?_) ?_; (exact HA.out.below (ZB.out _ (by assumption))); rintro e w1 ⟨v1, rfl, hz1, hb1⟩; obtain ⟨m1, d1, l1, e1, rfl⟩ := hz1.shape) | (refine Calls.mono (from_any2 _ y _ ?_) ?_; (exact HB.out.below (ZB.out _ (by assumption))); rintro e w2 ⟨v2, rfl, hz2, hb2⟩; have hz1' := hz1.below hb2; obtain ⟨m2, d2, l2, e2, rfl⟩ := hz2.shape))
    | (go_at_call 40; go_split_ands; refine (times_any2 _ _ x y _ (by assumption) (by assumption) (4 * Bk) (4 * Bk) HX.out HY.out (by unfold Bk; omega)).mono ?_; rintro e w3 ⟨v3, rfl, hz3, hb3⟩; obtain ⟨m3, d3, l3, e3, rfl⟩ := hz3.shape)
    | (go_at_call 39; go_split_ands; refine (out_any2 _ (x * y) _ (by assumption)).mono ?_; rintro e w4 ⟨v4, rfl, hi, hb4⟩; obtain ⟨_, b6, a6, l6, c6, hR⟩ := Zk.call ‹Zk _ _ _ _› hb4; obtain ⟨b5, a5, k5, c5, rfl⟩ := hi.shape; have hif := hi.far (y0 := .bool b5) (y1 := .slice a5 k5 c5) hR; obtain ⟨u0, u1, g0, g1, _⟩ := blk2 hR))
  go_wp2
  refine bodyPost_ret (v := .tuple #[.agg #[.bool b5, .slice a5 k5 c5], .int .i64 (zE (x * y))]) ?_ rfl ⟨_, rfl, ‹IntK ((World.setCell _ _ _).setCell _ _) _ _›, ZB.out _ (by first | assumption | (go_split_ands; assumption) | exact Zk.set (by assumption))⟩
  simp [results, Tryd.results13, go_sem, *]
end Go.Proofs.YtckmpnfadpnaeaaDoor
