/- Package whole: Norm; tribunalref02: Of, Norm, Neg, Abs, Cmp1, Cmp, Sign. -/
import Derived.Test.YtccofiakblmkhaaGreatP9YJ
import Derived.Test.YtccofiakblmkhaaGreatP9ZB4
import Derived.Deep.RegionHeld3
set_option linter.unusedVariables false
set_option linter.unusedSimpArgs false
namespace Go.Proofs.YtccofiakblmkhaaGreat
open Go.RowKit Mth

set_option maxHeartbeats 1000000 in
set_option maxRecDepth 100000 in
theorem rnorm_any (v : Value) (z : Int) (w : World) (h : IntV w v z) : Calls Tryz.prog 86 #[v] w fun e w' => ∃ v', e = .returned v' ∧ IntK w' v' z ∧ Below w.heap.size w w' := by
  obtain ⟨n, ao, k, c, rfl⟩ := h.shape
  have H := Lib.hid h; clear h
  go_enter Tryz.func86, Tryz.ntmps86
  go_wp2_with fail
  obtain ⟨W, eW, h1, h2, bel, hsz⟩ := alloc2 w (Obj.cells #[Value.bool n, Value.slice ao k c] 26) (Obj.cells #[Value.bool false, Value.slice none 0 0] 26)
  rw [eW]
  have H2 := Lib.hid h2; have HSZ := Lib.hid hsz; have B := Lib.hid bel
  clear eW h1 h2 hsz bel
  refine (from_any2 _ z W (H.out.below B.out)).mono ?_
  rintro e w1 ⟨v0, rfl, hz, hb⟩
  obtain ⟨n0, a0, k0, c0, rfl⟩ := hz.shape
  have Z0 := Lib.hid hz
  have H2' := Lib.hid ((hb.block _ HSZ.out).trans H2.out); have HSZ' := Lib.hid (size_to hb HSZ.out); have B' := Lib.hid (below_of B.out hb)
  clear hz hb H2 HSZ B
  have H2 := H2'; have HSZ := HSZ'; have B := B'
  clear H2' HSZ' B'
  go_wp2_with fail
  refine (to_any2 _ z w1 Z0.out).mono ?_
  rintro e w9 ⟨v9, rfl, hi, hb9⟩
  have hR := (hb9.block _ HSZ.out).trans H2.out
  obtain ⟨n9, a9, k9, c9, rfl⟩ := hi.shape
  obtain ⟨x0, x1, g0, g1, hlt⟩ := blk2 hR
  have HF := Lib.hid (hi.far (y0 := .bool n9) (y1 := .slice a9 k9 c9) hR)
  have B9 := Lib.hid (below_of B.out hb9)
  clear hi hb9 hR hlt
  go_wp2
  refine bodyPost_ret (v := .agg #[.bool n9, .slice a9 k9 c9]) ?_ rfl ⟨_, rfl, HF.out, (B9.out.setCell (p := ⟨w.heap.size + 1, 0, none⟩) (Nat.le_add_right _ _) _).setCell (p := ⟨w.heap.size + 1, 1, none⟩) (Nat.le_add_right _ _) _⟩
  simp [results, Tryz.results86, go_sem, *]

end Go.Proofs.YtccofiakblmkhaaGreat
