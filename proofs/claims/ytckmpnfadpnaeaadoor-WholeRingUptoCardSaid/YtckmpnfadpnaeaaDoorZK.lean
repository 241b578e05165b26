/- Package whole: sumOf, answer, Add, Sub. -/
import Derived.Test.YtckmpnfadpnaeaaDoorZJ
set_option linter.unusedVariables false
set_option linter.unusedSimpArgs false
namespace Go.Proofs.YtckmpnfadpnaeaaDoor
open Go.RowKit Mth

theorem size_to' {W w1 : World} {B k : Nat} (hb : Below B W w1) (h : k < W.heap.size) : k < w1.heap.size := Nat.lt_of_lt_of_le h hb.size
set_option maxHeartbeats 1000000 in
set_option maxRecDepth 100000 in
theorem sumOf_any (va vb : Value) (x y : Int) (w : World) (ha : NuV w va x) (hb : NuV w vb y) (hx : x.natAbs < HugeN) (hy : y.natAbs < HugeN) :
    Calls Tryd.prog 53 #[va, vb] w fun e w' => ∃ v', e = .returned v' ∧ NuC w' w.heap.size v' (x + y) ∧ Below w.heap.size w w' := by
  have HA := Lib.hid ha; have HB := Lib.hid hb; have HX := Lib.hid hx; have HY := Lib.hid hy
  have OA := Lib.hid ha.hold; have OB := Lib.hid hb.hold
  obtain ⟨a1, k1, c1, n1, rfl⟩ := ha.shape
  obtain ⟨a2, k2, c2, n2, rfl⟩ := hb.shape
  clear ha hb hx hy
  go_enter Tryd.func53, Tryd.ntmps53
  go_wp2_with fail
  obtain ⟨W, eW, h1, h2, h3, h4, bel, hsz⟩ := alloc4 w (Obj.cells #[Value.slice a1 k1 c1, Value.bool n1] 54) (Obj.cells #[Value.slice a2 k2 c2, Value.bool n2] 54) (Obj.cells #[Value.slice none 0 0, Value.bool false] 54) (Obj.cells #[Value.slice none 0 0, Value.slice none 0 0] 67)
  rw [eW]
  have T0 := tal_zero (base := w.heap.size + 3) h4
  have H2 := Lib.hid h2; have H3 := Lib.hid h3
  clear eW h1 h2 h3 h4
  refine (tally_add _ _ 0 0 0 _ x W T0 (HA.out.below bel) (fun hz u b k e hk => by have := OA.out hz u b k e hk; omega) HX.out (by omega) (Nat.le_refl _) (by omega)).mono ?_
  rintro e w1 ⟨rfl, T1, hb1⟩
  have B1 : Below w.heap.size w w1 := bel.trans (hb1.mono (by omega))
  have HT1 := Lib.hid T1
  have h2 := (hb1.block (w.heap.size + 1) (by omega)).trans H2.out
  obtain ⟨q0, q1, _, _, _⟩ := blk2 h2
  have hs1 : w.heap.size + 3 < w1.heap.size := size_to' hb1 hsz
  clear T0 T1 h2
  go_wp2_with fail
  refine (tally_add _ _ 1 _ _ _ y w1 HT1.out (HB.out.below B1) (fun hz u b k e hk => by have := OB.out hz u b k e hk; omega) HY.out (by omega) (Nat.le_refl _) (by omega)).mono ?_
  rintro e w2 ⟨rfl, T2, hb2⟩
  have HT2 := Lib.hid T2
  have hs2 : w.heap.size + 3 < w2.heap.size := size_to' hb2 hs1
  clear T2 q0 q1
  go_wp2_with fail
  refine (tally_total _ _ 2 _ _ w2 HT2.out (by omega) (by omega)).mono ?_
  rintro e w3 ⟨v3, rfl, hn, hb3⟩
  have HN := Lib.hid hn
  obtain ⟨a3, k3, c3, n3, rfl⟩ := hn.shape
  have hR := (hb3.block (w.heap.size + 2) (by omega)).trans ((hb2.block (w.heap.size + 2) (by omega)).trans ((hb1.block (w.heap.size + 2) (by omega)).trans H3.out))
  obtain ⟨k0, k1', g0, g1, hlt⟩ := blk2 hR
  have BB := Lib.hid ((B1.trans (hb2.mono (by omega))).trans (hb3.mono (by omega)))
  clear hn hR
  go_wp2
  refine bodyPost_ret (v := .agg #[.slice a3 k3 c3, .bool n3]) ?_ rfl ⟨_, rfl, ?_, (BB.out.setCell (p := ⟨w.heap.size + 2, 0, none⟩) (Nat.le_add_right _ _) _).setCell (p := ⟨w.heap.size + 2, 1, none⟩) (Nat.le_add_right _ _) _⟩
  · simp [results, Tryd.results53, go_sem, *]
  · have := (HN.out.far (j := 0) (x := .slice a3 k3 c3) (show w.heap.size + 2 < w.heap.size + 3 by omega)).far (j := 1) (x := .bool n3) (show w.heap.size + 2 < w.heap.size + 3 by omega)
    have e : ((0 + (if sgn x = true then 0 else x.natAbs) + (if sgn y = true then 0 else y.natAbs) : Nat) : Int) - ((0 + (if sgn x = true then x.natAbs else 0) + (if sgn y = true then y.natAbs else 0) : Nat) : Int) = x + y := by
      cases hx : sgn x <;> cases hy : sgn y <;> simp <;> (first | have := of_sgn_true hx | have := of_sgn_false hx) <;> (first | have := of_sgn_true hy | have := of_sgn_false hy) <;> omega
    rw [e] at this
    exact this.mono (by omega)
end Go.Proofs.YtckmpnfadpnaeaaDoor
