/- Package whole: Norm; tribunalref02: Of, Norm, Neg, Abs, Cmp1, Cmp, Sign. -/
import Derived.Test.YtehdfkafdpfdnaaGreatDoorUYJ
import Derived.Test.YtehdfkafdpfdnaaGreatDoorUZB4
import Derived.Deep.RegionHeld3
set_option linter.unusedVariables false
set_option linter.unusedSimpArgs false
namespace Go.Proofs.YtehdfkafdpfdnaaGreatDoor
open Go.RowKit Mth

set_option maxRecDepth 100000 in
theorem normI_any (v : Value) (z : Int) (w : World) (h : IntV w v z) : Calls Tryz.prog 26 #[v] w fun e w' => ∃ v', e = .returned v' ∧ IntC w' w.heap.size v' z ∧ Below w.heap.size w w' := by
  obtain ⟨n, ao, k, c, t, rfl, N, R⟩ := h.rd
  have N := Lib.hid N; have R := Lib.hid R
  clear h
  go_enter Tryz.func26, Tryz.ntmps26
  go_wp2_with fail
  obtain ⟨W, eW, h1, h2, bel, hsz⟩ := alloc2 w (Obj.cells #[Value.bool n, Value.slice ao k c] 37) (Obj.cells #[Value.bool false, Value.slice none 0 0] 37)
  rw [eW]
  have H2 := Lib.hid h2
  clear eW h1 h2
  refine (R.out W bel).mono ?_
  rintro e w1 ⟨rfl, hb1, hs1⟩
  clear hs1
  have B2 := below_of bel hb1
  go_wp2_with fail
  refine (copied_any _ z w1 (N.out.below B2)).mono ?_
  rintro e w3 ⟨v3, rfl, hi, hb3⟩
  have hR := (hb3.block _ (size_to hb1 hsz)).trans ((hb1.block _ hsz).trans H2.out)
  obtain ⟨n2, a2, k2, c2, rfl⟩ := hi.shape
  obtain ⟨k0, k1, g0, g1, hlt⟩ := blk2 hR
  have hs2 : w.heap.size + 1 < w1.heap.size := size_to hb1 hsz
  go_wp2
  refine bodyPost_ret (v := .agg #[.bool n2, .slice a2 k2 c2]) ?_ rfl ⟨_, rfl, ((hi.far hs2).far hs2).mono B2.size, ((below_of B2 hb3).setCell (p := ⟨w.heap.size + 1, 0, none⟩) (Nat.le_add_right _ _) _).setCell (p := ⟨w.heap.size + 1, 1, none⟩) (Nat.le_add_right _ _) _⟩
  simp [results, Tryz.results26, go_sem, *]

end Go.Proofs.YtehdfkafdpfdnaaGreatDoor
