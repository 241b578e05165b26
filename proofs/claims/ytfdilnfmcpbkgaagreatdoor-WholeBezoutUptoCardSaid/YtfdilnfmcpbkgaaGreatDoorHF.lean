/- Package whole: divide in general; a division's answers in general. -/
import Derived.Test.YtfdilnfmcpbkgaaGreatDoorHE
import Derived.Test.YtfdilnfmcpbkgaaGreatDoorZQ
set_option linter.unusedVariables false
set_option linter.unusedSimpArgs false
namespace Go.Proofs.YtfdilnfmcpbkgaaGreatDoor
open Go.RowKit Mth

/-- two answers: both, or too long -/
def twE (x y : Int) : Int := if zE x = 0 ∧ zE y = 0 then 0 else 5
def twZ (x y z : Int) : Int := if zE x = 0 ∧ zE y = 0 then z else 0
theorem tw_fine {x y : Int} (hx : zE x = 0) (hy : zE y = 0) (z : Int) : twE x y = 0 ∧ twZ x y z = z := ⟨if_pos ⟨hx, hy⟩, if_pos ⟨hx, hy⟩⟩
theorem tw_big {x y : Int} (h : zE x = 5 ∨ zE y = 5) (z : Int) : twE x y = 5 ∧ twZ x y z = 0 := by
  have hn : ¬ (zE x = 0 ∧ zE y = 0) := by omega
  exact ⟨if_neg hn, if_neg hn⟩

theorem dvc_gen {w : World} {a1 a2 : Option Addr} {t1 c1 t2 c2 : Nat} {x y : Int} (N1 : NuV w (.agg #[.slice a1 t1 c1, .bool (sgn x)]) x) (N2 : NuV w (.agg #[.slice a2 t2 c2, .bool (sgn y)]) y) (hx : x.natAbs < HugeN) (hy : y.natAbs < HugeN) (h0 : y ≠ 0) (hl : t1 ≤ 4096 + t2) : DvC w (.agg #[.slice a1 t1 c1, .bool (sgn x)]) (.agg #[.slice a2 t2 c2, .bool (sgn y)]) x y := by
  intro w1 hB
  refine Calls.mono (divide_fine _ _ x y w1 (N1.below hB) (N2.below hB) h0 ?_ (fun u v w2 _ m n => quo_full u v _ _ w2 m n (by omega) hx hy)) ?_
  rotate_left
  · rintro e w' ⟨q, b, r, d, he, hq, hr, hb⟩
    obtain ⟨aq, kq, cq, bq, e1⟩ := hq.shape
    obtain ⟨ar, kr, cr, br, e2⟩ := hr.shape
    simp only [Value.agg.injEq, Array.mk.injEq, List.cons.injEq, and_true] at e1 e2
    obtain ⟨rfl, rfl⟩ := e1
    obtain ⟨rfl, rfl⟩ := e2
    exact ⟨_, _, _, _, _, _, _, _, he, hq, hr, hb⟩
  intro a1 k1 c1 b1 a2 k2 c2 b2 e1 e2
  simp only [Value.agg.injEq, Array.mk.injEq, List.cons.injEq, Value.slice.injEq, and_true] at e1 e2
  obtain ⟨⟨_, rfl, _⟩, _⟩ := e1
  obtain ⟨⟨_, rfl, _⟩, _⟩ := e2
  exact hl

set_option maxHeartbeats 4000000 in
set_option maxRecDepth 100000 in
theorem divide_far (a1 a2 : Option Addr) (t1 c1 t2 c2 : Nat) (x y : Int) (w : World) (ha : NuV w (.agg #[.slice a1 t1 c1, .bool (sgn x)]) x) (hb : NuV w (.agg #[.slice a2 t2 c2, .bool (sgn y)]) y) (h0 : y ≠ 0) (hl : 4096 + t2 < t1) :
    Calls Tryz.prog 42 #[.agg #[.slice a1 t1 c1, .bool (sgn x)], .agg #[.slice a2 t2 c2, .bool (sgn y)]] w fun e w' => e = .returned (.tuple #[.agg #[.slice none 0 0, .bool false, .slice none 0 0, .bool false], .int .i64 5]) ∧ Below w.heap.size w w' := by
  obtain ⟨_, _, m1⟩ := ha.parts
  obtain ⟨_, z2, m2⟩ := hb.parts
  have hd : ((t2 : Int) == 0) = false := by rw [beq_eq_false_iff_ne]; intro e; exact h0 (z2.1 (by omega))
  have L1 : t1 ≤ 16777216 := by obtain ⟨xs, s, _⟩ := m1; have := s.len; obtain ⟨_, _, e, _⟩ := s; simp only [Value.slice.injEq] at e; omega
  clear ha hb z2 m1 m2 h0
  go_enter Tryz.func42, Tryz.ntmps42
  go_wp2_with fail
  refine (zero_is _ _ _ _).mono ?_
  rintro e w' ⟨rfl, rfl⟩
  obtain ⟨W, eW, h1, h2, h3, bel, hsz⟩ := alloc3 w (Obj.cells #[Value.slice a1 t1 c1, Value.bool (sgn x)] 49) (Obj.cells #[Value.slice a2 t2 c2, Value.bool (sgn y)] 49) (Obj.cells #[Value.slice none 0 0, Value.bool false, Value.slice none 0 0, Value.bool false] 77)
  rw [eW]
  obtain ⟨p0, p1, _, _, _⟩ := blk2 h1
  obtain ⟨q0, q1, _, _, _⟩ := blk2 h2
  have h3' : W.heap[w.heap.size + 1 + 1]? = _ := h3
  obtain ⟨⟨k0, k1', k2', k3⟩, g0, g1, g2, g3⟩ := blk4 h3'
  clear eW h1 h2 h3 h3'
  go_wp2
  have hl : w.heap.size ≤ w.heap.size + 1 + 1 := by omega
  refine bodyPost_ret (v := .tuple #[.agg #[.slice none 0 0, .bool false, .slice none 0 0, .bool false], .int .i64 5]) ?_ rfl ⟨rfl, (((bel.setCell (p := ⟨w.heap.size + 1 + 1, 0, none⟩) hl _).setCell (p := ⟨w.heap.size + 1 + 1, 1, none⟩) hl _).setCell (p := ⟨w.heap.size + 1 + 1, 2, none⟩) hl _).setCell (p := ⟨w.heap.size + 1 + 1, 3, none⟩) hl _⟩
  simp [results, Tryz.results42, go_sem, *]

set_option maxHeartbeats 4000000 in
set_option maxRecDepth 100000 in
theorem answers_any (base : Nat) (q b r d : Value) (x y : Int) (w : World) (h1 : NuC w base (.agg #[q, b]) x) (h2 : NuC w base (.agg #[r, d]) y) (hbase : base ≤ w.heap.size) :
    Calls Tryz.prog 43 #[.agg #[q, b, r, d]] w fun e w' => ∃ v1 v2, e = .returned (.tuple #[v1, v2, .int .i64 (twE x y)]) ∧ IntK w' v1 (twZ x y x) ∧ IntK w' v2 (twZ x y y) ∧ Below w.heap.size w w' := by
  rcases zE_or x with ⟨zx, nx⟩ | ⟨zx, nx⟩
  · -- the quotient is too long
    rw [(tw_big (.inl zx) x).1, (tw_big (.inl zx) x).2, (tw_big (.inl zx) y).2]
    obtain ⟨aq, kq, cq, nq, e1⟩ := h1.shape
    obtain ⟨ar, kr, cr, nr, e2⟩ := h2.shape
    simp only [Value.agg.injEq, Array.mk.injEq, List.cons.injEq, and_true] at e1 e2
    obtain ⟨rfl, rfl⟩ := e1
    obtain ⟨rfl, rfl⟩ := e2
    have A1 : Hid (∀ w1, Below w.heap.size w w1 → Calls Tryz.prog 40 #[.agg #[.slice aq kq cq, .bool nq]] w1 fun e w' => ∃ v', e = .returned (.tuple #[v', .int .i64 5]) ∧ IntC w' base v' (zN x) ∧ Below w1.heap.size w1 w') :=
      Lib.hid (fun w1 hb => by have := answer_number base _ x w1 (h1.below hb) (Nat.le_trans hbase hb.size); rwa [zx] at this)
    clear h1 h2 zx nx
    go_enter Tryz.func43, Tryz.ntmps43
    go_wp2_with fail
    obtain ⟨W, eW, b1, b2, b3, bel, hsz⟩ := alloc3 w (Obj.cells #[Value.slice aq kq cq, Value.bool nq, Value.slice ar kr cr, Value.bool nr] 77) (Obj.cells #[Value.bool false, Value.slice none 0 0] 25) (Obj.cells #[Value.bool false, Value.slice none 0 0] 25)
    rw [eW]
    have H2 := Lib.hid b2
    have H3 : Hid (W.heap[w.heap.size + 1 + 1]? = some (Obj.cells #[Value.bool false, Value.slice none 0 0] 25)) := Lib.hid b3
    clear eW b1 b2 b3
    refine (A1.out W bel).mono ?_
    rintro e w1 ⟨v1, rfl, i1, hb1⟩
    obtain ⟨m1, a1, k1, c1, rfl⟩ := i1.shape
    have hz1 := hb1.size
    have hN := nuc_new w1 (Obj.cells #[Value.bool m1, Value.slice a1 k1 c1] 25)
    have B1 := Lib.hid (below_of (below_of bel hb1) hN)
    obtain ⟨k0, k1', g0, g1, _⟩ := blk2 ((hN.block _ (by omega)).trans ((hb1.block _ (by omega)).trans H2.out))
    obtain ⟨k3, k4, g3, g4, _⟩ := blk2 ((hN.block _ (by omega)).trans ((hb1.block _ (by omega)).trans H3.out))
    have l2 : w.heap.size ≤ w.heap.size + 1 := by omega
    have l3 : w.heap.size ≤ w.heap.size + 1 + 1 := by omega
    clear i1 hN
    go_wp2
    refine bodyPost_ret (v := .tuple #[.agg #[.bool false, .slice none 0 0], .agg #[.bool false, .slice none 0 0], .int .i64 5]) ?_ rfl ⟨_, _, rfl, intk_zero _, intk_zero _, set_below (set_below (set_below (set_below B1.out l2) l2) l3) l3⟩
    simp [results, Tryz.results43, go_sem, *]
  rcases zE_or y with ⟨zy, ny⟩ | ⟨zy, ny⟩
  · -- what is left is too long
    rw [(tw_big (.inr zy) x).1, (tw_big (.inr zy) x).2, (tw_big (.inr zy) y).2]
    obtain ⟨aq, kq, cq, nq, e1⟩ := h1.shape
    obtain ⟨ar, kr, cr, nr, e2⟩ := h2.shape
    simp only [Value.agg.injEq, Array.mk.injEq, List.cons.injEq, and_true] at e1 e2
    obtain ⟨rfl, rfl⟩ := e1
    obtain ⟨rfl, rfl⟩ := e2
    have A1 : Hid (∀ w1, Below w.heap.size w w1 → Calls Tryz.prog 40 #[.agg #[.slice aq kq cq, .bool nq]] w1 fun e w' => ∃ v', e = .returned (.tuple #[v', .int .i64 0]) ∧ IntC w' base v' (zN x) ∧ Below w1.heap.size w1 w') :=
      Lib.hid (fun w1 hb => by have := answer_number base _ x w1 (h1.below hb) (Nat.le_trans hbase hb.size); rwa [zx] at this)
    have A2 : Hid (∀ w1, Below w.heap.size w w1 → Calls Tryz.prog 40 #[.agg #[.slice ar kr cr, .bool nr]] w1 fun e w' => ∃ v', e = .returned (.tuple #[v', .int .i64 5]) ∧ IntC w' base v' (zN y) ∧ Below w1.heap.size w1 w') :=
      Lib.hid (fun w1 hb => by have := answer_number base _ y w1 (h2.below hb) (Nat.le_trans hbase hb.size); rwa [zy] at this)
    clear h1 h2 zx nx zy ny
    go_enter Tryz.func43, Tryz.ntmps43
    go_wp2_with fail
    obtain ⟨W, eW, b1, b2, b3, bel, hsz⟩ := alloc3 w (Obj.cells #[Value.slice aq kq cq, Value.bool nq, Value.slice ar kr cr, Value.bool nr] 77) (Obj.cells #[Value.bool false, Value.slice none 0 0] 25) (Obj.cells #[Value.bool false, Value.slice none 0 0] 25)
    rw [eW]
    obtain ⟨⟨p0, p1, p2, p3⟩, _⟩ := blk4 b1
    have P := Lib.hid (show (W.cell? ⟨w.heap.size, 2, none⟩ = some (.slice ar kr cr) ∧ W.cell? ⟨w.heap.size, 3, none⟩ = some (.bool nr)) from ⟨p2, p3⟩)
    have H2 := Lib.hid b2
    have H3 : Hid (W.heap[w.heap.size + 1 + 1]? = some (Obj.cells #[Value.bool false, Value.slice none 0 0] 25)) := Lib.hid b3
    clear eW b1 b2 b3 p0 p1 p2 p3
    refine (A1.out W bel).mono ?_
    rintro e w1 ⟨v1, rfl, i1, hb1⟩
    obtain ⟨m1, a1, k1, c1, rfl⟩ := i1.shape
    have p2 := cell_to hb1 P.out.1 (by omega); have p3 := cell_to hb1 P.out.2 (by omega)
    have B1 := below_of bel hb1
    have hz1 := hb1.size
    have ha1 : w.heap.size < w1.heap.size := by omega
    have ha2 : w.heap.size + 1 < w1.heap.size := by omega
    have ha3 : w.heap.size + 1 + 1 < w1.heap.size := by omega
    clear i1
    go_wp2_with fail
    have hB1 : Below w1.heap.size w1 (w1.alloc (Obj.cells #[Value.bool m1, Value.slice a1 k1 c1] 25)) := (Below.refl _ _).alloc (Nat.le_refl _) _
    refine (A2.out _ (below_of B1 hB1)).mono ?_
    rintro e w2 ⟨v2, rfl, i2, hb2⟩
    obtain ⟨m2, a2, k2, c2, rfl⟩ := i2.shape
    have hN := nuc_new w2 (Obj.cells #[Value.bool m2, Value.slice a2 k2 c2] 25)
    have B2 := Lib.hid (below_of (below_of (below_of B1 hB1) hb2) hN)
    have hz2 := hb2.size
    simp at hz2
    obtain ⟨k0, k1', g0, g1, _⟩ := blk2 ((hN.block (w.heap.size + 1) (by omega)).trans ((hb2.block (w.heap.size + 1) (by simp; omega)).trans ((hB1.block (w.heap.size + 1) (by omega)).trans ((hb1.block _ (by omega)).trans H2.out))))
    obtain ⟨k3, k4, g3, g4, _⟩ := blk2 ((hN.block (w.heap.size + 1 + 1) (by omega)).trans ((hb2.block (w.heap.size + 1 + 1) (by simp; omega)).trans ((hB1.block (w.heap.size + 1 + 1) (by omega)).trans ((hb1.block _ (by omega)).trans H3.out))))
    have l2 : w.heap.size ≤ w.heap.size + 1 := by omega
    have l3 : w.heap.size ≤ w.heap.size + 1 + 1 := by omega
    clear i2 hN p2 p3
    go_wp2
    refine bodyPost_ret (v := .tuple #[.agg #[.bool false, .slice none 0 0], .agg #[.bool false, .slice none 0 0], .int .i64 5]) ?_ rfl ⟨_, _, rfl, intk_zero _, intk_zero _, set_below (set_below (set_below (set_below B2.out l2) l2) l3) l3⟩
    simp [results, Tryz.results43, go_sem, *]
  · have hx : x.natAbs < Big := by
      rcases Nat.lt_or_ge x.natAbs Big with h | h
      · exact h
      · have := (z_big h).2; omega
    have hy : y.natAbs < Big := by
      rcases Nat.lt_or_ge y.natAbs Big with h | h
      · exact h
      · have := (z_big h).2; omega
    rw [(tw_fine zx zy x).1, (tw_fine zx zy x).2, (tw_fine zx zy y).2]
    refine (answers_fine base q b r d x y w h1 h2 hx hy hbase).mono ?_
    rintro e w' ⟨v1, v2, he, i1, i2, hb⟩
    exact ⟨v1, v2, he, i1.k, i2.k, hb⟩
end Go.Proofs.YtfdilnfmcpbkgaaGreatDoor
