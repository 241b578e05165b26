/- Package whole: a division's answers; DivMod where nothing is long. -/
import Derived.Test.YtckmpnfadpnaeaaDoorZO
import Derived.Test.YtckmpnfadpnaeaaDoorZN
set_option linter.unusedVariables false
set_option linter.unusedSimpArgs false
namespace Go.Proofs.YtckmpnfadpnaeaaDoor
open Go.RowKit Mth

theorem NuC.parts {w : World} {base k c : Nat} {ao : Option Addr} {b : Bool} {z : Int} (h : NuC w base (.agg #[.slice ao k c, .bool b]) z) : b = sgn z ∧ Ow w base (.slice ao k c) z.natAbs := by
  obtain ⟨u, e, h1⟩ := h
  simp only [Value.agg.injEq, Array.mk.injEq, List.cons.injEq, Value.bool.injEq, and_true] at e
  obtain ⟨rfl, rfl⟩ := e
  exact ⟨rfl, h1⟩

theorem intc_four {w : World} {base R S : Nat} {v x0 x1 y0 y1 : Value} {z : Int} {cs ds : Array Value} (h : IntC w base v z) (hR : w.heap[R]? = some (.cells cs 25 (0, 0))) (hS : w.heap[S]? = some (.cells ds 25 (0, 0))) (hne : S ≠ R) :
    IntC ((((w.drew.setCell ⟨R, 0, none⟩ x0).setCell ⟨R, 1, none⟩ x1).setCell ⟨S, 0, none⟩ y0).setCell ⟨S, 1, none⟩ y1) base v z := by
  obtain ⟨u, h0, h1⟩ := h
  refine ⟨u, h0, ?_⟩
  have h2 : Ow w.drew base u z.natAbs := h1.drawn 1
  have hR' : w.drew.heap[R]? = some (.cells cs 25 (0, 0)) := hR
  have hS' : w.drew.heap[S]? = some (.cells ds 25 (0, 0)) := hS
  have h3 := h2.away2 (x := x0) (y := x1) hR' (by decide)
  refine h3.away2 (R := S) (cs := ds) (T := 25) ?_ (by decide)
  rw [heap_setCell_other _ ⟨R, 1, none⟩ S _ hne, heap_setCell_other _ ⟨R, 0, none⟩ S _ hne]
  exact hS'

set_option maxHeartbeats 4000000 in
set_option maxRecDepth 100000 in
theorem answers_fine (base : Nat) (q b r d : Value) (x y : Int) (w : World) (h1 : NuC w base (.agg #[q, b]) x) (h2 : NuC w base (.agg #[r, d]) y) (hx : x.natAbs < Big) (hy : y.natAbs < Big) (hbase : base ≤ w.heap.size) :
    Calls Tryd.prog 47 #[.agg #[q, b, r, d]] w fun e w' => ∃ v1 v2, e = .returned (.tuple #[v1, v2, .int .i64 0]) ∧ IntC w' base v1 x ∧ IntC w' base v2 y ∧ Below w.heap.size w w' := by
  obtain ⟨aq, kq, cq, nq, e1⟩ := h1.shape
  obtain ⟨ar, kr, cr, nr, e2⟩ := h2.shape
  simp only [Value.agg.injEq, Array.mk.injEq, List.cons.injEq, and_true] at e1 e2
  obtain ⟨rfl, rfl⟩ := e1
  obtain ⟨rfl, rfl⟩ := e2
  have EX := Lib.hid (z_fine hx); have EY := Lib.hid (z_fine hy)
  have A1 : Hid (∀ w1, Below w.heap.size w w1 → Calls Tryd.prog 44 #[.agg #[.slice aq kq cq, .bool nq]] w1 fun e w' => ∃ v', e = .returned (.tuple #[v', .int .i64 0]) ∧ IntC w' base v' x ∧ Below w1.heap.size w1 w') :=
    Lib.hid (fun w1 hb => by have := answer_number base _ x w1 (h1.below hb) (Nat.le_trans hbase hb.size); rwa [EX.out.1, EX.out.2] at this)
  have A2 : Hid (∀ w1, Below w.heap.size w w1 → Calls Tryd.prog 44 #[.agg #[.slice ar kr cr, .bool nr]] w1 fun e w' => ∃ v', e = .returned (.tuple #[v', .int .i64 0]) ∧ IntC w' base v' y ∧ Below w1.heap.size w1 w') :=
    Lib.hid (fun w1 hb => by have := answer_number base _ y w1 (h2.below hb) (Nat.le_trans hbase hb.size); rwa [EY.out.1, EY.out.2] at this)
  clear h1 h2 hx hy EX EY
  go_enter Tryd.func47, Tryd.ntmps47
  go_wp2_with fail
  obtain ⟨W, eW, b1, b2, b3, bel, hsz⟩ := alloc3 w (Obj.cells #[Value.slice aq kq cq, Value.bool nq, Value.slice ar kr cr, Value.bool nr] 72) (Obj.cells #[Value.bool false, Value.slice none 0 0] 25) (Obj.cells #[Value.bool false, Value.slice none 0 0] 25)
  rw [eW]
  obtain ⟨⟨p0, p1, p2, p3⟩, _⟩ := blk4 b1
  have P := Lib.hid (show (W.cell? ⟨w.heap.size, 2, none⟩ = some (.slice ar kr cr) ∧ W.cell? ⟨w.heap.size, 3, none⟩ = some (.bool nr)) from ⟨p2, p3⟩)
  have H2 := Lib.hid b2
  have H3 : Hid (W.heap[w.heap.size + 1 + 1]? = some (Obj.cells #[Value.bool false, Value.slice none 0 0] 25)) := Lib.hid b3
  clear eW b1 b2 b3 p0 p1 p2 p3
  refine (A1.out W bel).mono ?_
  rintro e w1 ⟨v1, rfl, i1, hb1⟩
  obtain ⟨m1, a1, k1, c1, rfl⟩ := i1.shape
  have p2 := cell_to hb1 P.out.1 (by omega); have p3 := cell_to hb1 P.out.2 (by omega)
  have B1 := below_of bel hb1
  have I1 := Lib.hid i1
  have hz1 := hb1.size
  have ha1 : w.heap.size < w1.heap.size := by omega
  have ha2 : w.heap.size + 1 < w1.heap.size := by omega
  have ha3 : w.heap.size + 1 + 1 < w1.heap.size := by omega
  clear i1
  go_wp2_with fail
  have hB1 : Below w1.heap.size w1 (w1.alloc (Obj.cells #[Value.bool m1, Value.slice a1 k1 c1] 25)) := (Below.refl _ _).alloc (Nat.le_refl _) _
  refine (A2.out _ (below_of B1 hB1)).mono ?_
  rintro e w2 ⟨v2, rfl, i2, hb2⟩
  obtain ⟨m2, a2, k2, c2, rfl⟩ := i2.shape
  have I2 := Lib.hid i2
  have hN := (hb2.block w1.heap.size (by simp)).trans (heap_alloc_new w1 (Obj.cells #[Value.bool m1, Value.slice a1 k1 c1] 25))
  obtain ⟨n0, n1, _, _, _⟩ := blk2 hN
  have B2 := below_of (below_of B1 hB1) hb2
  have r2 := (hb2.block (w.heap.size + 1) (by simp; omega)).trans ((hB1.block (w.heap.size + 1) (by omega)).trans ((hb1.block _ (by omega)).trans H2.out))
  have r3 : w2.heap[w.heap.size + 1 + 1]? = some (Obj.cells #[Value.bool false, Value.slice none 0 0] 25) := (hb2.block (w.heap.size + 1 + 1) (by simp; omega)).trans ((hB1.block (w.heap.size + 1 + 1) (by omega)).trans ((hb1.block _ (by omega)).trans H3.out))
  have hlt : w1.heap.size < w2.heap.size := (Array.getElem?_eq_some_iff.1 hN).1
  have R2 := Lib.hid r2; have R3 := Lib.hid r3; have HN := Lib.hid hN; have HB2 := Lib.hid B2
  have J1 := Lib.hid ((I1.out.below hB1).below hb2)
  clear i2 hN r2 r3 p2 p3 n0 n1 B2
  go_wp2
  obtain ⟨V, eV, c1', bV, sV⟩ := alloc1 w2 (Obj.cells #[Value.bool m2, Value.slice a2 k2 c2] 25)
  rw [eV]
  have hs2 : w.heap.size + 1 < w2.heap.size := by omega
  have hs3 : w.heap.size + 1 + 1 < w2.heap.size := by omega
  obtain ⟨s0, s1, s2, s3, _⟩ := blk2 ((bV.block _ hs2).trans R2.out)
  obtain ⟨t0, t1, t2, t3, _⟩ := blk2 ((bV.block _ hs3).trans R3.out)
  obtain ⟨n0, n1, _, _, _⟩ := blk2 ((bV.block _ hlt).trans HN.out)
  obtain ⟨u0, u1, _, _, _⟩ := blk2 c1'
  have V2 := Lib.hid ((bV.block _ hs2).trans R2.out); have V3 := Lib.hid ((bV.block _ hs3).trans R3.out)
  have BV := Lib.hid (below_of HB2.out bV)
  have K1 := Lib.hid (J1.out.below bV); have K2 := Lib.hid (I2.out.below bV)
  clear eV c1'
  have l2 : w.heap.size ≤ w.heap.size + 1 := by omega
  have l3 : w.heap.size ≤ w.heap.size + 1 + 1 := by omega
  have d1 : w.heap.size + 1 ≠ w2.heap.size := by omega
  have d2 : w2.heap.size ≠ w.heap.size + 1 := by omega
  go_region_with fail
  go_ways
  all_goals
    go_wp2
    refine bodyPost_ret (v := .tuple #[.agg #[.bool m1, .slice a1 k1 c1], .agg #[.bool m2, .slice a2 k2 c2], .int .i64 0]) ?_ rfl ⟨_, _, rfl, ?_, ?_, ((((BV.out.drew.setCell (p := ⟨w.heap.size + 1, 0, none⟩) l2 _).setCell (p := ⟨w.heap.size + 1, 1, none⟩) l2 _).setCell (p := ⟨w.heap.size + 1 + 1, 0, none⟩) l3 _).setCell (p := ⟨w.heap.size + 1 + 1, 1, none⟩) l3 _)⟩
    · simp [results, Tryd.results47, go_sem, *]
    · exact intc_four K1.out V2.out V3.out (by omega)
    · exact intc_four K2.out V2.out V3.out (by omega)
end Go.Proofs.YtckmpnfadpnaeaaDoor
