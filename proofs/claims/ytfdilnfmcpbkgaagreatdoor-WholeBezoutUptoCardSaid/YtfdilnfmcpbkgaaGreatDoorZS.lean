/- Package whole: Abs, Sum. -/
import Derived.Test.YtfdilnfmcpbkgaaGreatDoorZ3
import Derived.Test.YtfdilnfmcpbkgaaGreatDoorY1
set_option linter.unusedVariables false
set_option linter.unusedSimpArgs false
namespace Go.Proofs.YtfdilnfmcpbkgaaGreatDoor
open Go.RowKit Mth

theorem field_amount (ao : Option Addr) (k c : Nat) (b : Bool) (w : World) : (Instr.field 49 (.agg #[.slice ao k c, .bool b]) 0).run Tryz.prog w = .ok (.slice ao k c) w := by kernel_rfl
set_option maxRecDepth 100000 in
theorem absI_any (v : Value) (z : Int) (w : World) (h : IntV w v z) : Calls Tryz.prog 16 #[v] w fun e w' => ∃ v', e = .returned v' ∧ IntC w' w.heap.size v' (z.natAbs : Int) ∧ Below w.heap.size w w' := by
  obtain ⟨n, ao, k, c, t, rfl, N, R⟩ := h.rd
  have N := Lib.hid (show NuV w (.agg #[.slice ao t c, .bool false]) (z.natAbs : Int) from ⟨_, by rw [sgn_nat], by rw [Int.natAbs_natCast]; exact N.parts.2.2⟩); have R := Lib.hid R
  clear h
  have hfd := field_amount
  go_enter Tryz.func16, Tryz.ntmps16
  go_wp2_with fail
  obtain ⟨W, eW, h1, h2, bel, hsz⟩ := alloc2 w (Obj.cells #[Value.bool n, Value.slice ao k c] 25) (Obj.cells #[Value.bool false, Value.slice none 0 0] 25)
  rw [eW]
  have H2 := Lib.hid h2
  clear eW h1 h2
  refine (R.out W bel).mono ?_
  rintro e w1 ⟨rfl, hb1, hs1⟩
  clear hs1
  go_wp2_with fail
  refine (signed_is _ _ _ _ w1).mono ?_
  rintro e w2 ⟨rfl, hb2, hs2⟩
  clear hs2
  have B2 := below_of (below_of bel hb1) hb2
  try simp only [Bool.false_and]
  go_wp2_with fail
  refine (copied_any _ (z.natAbs : Int) w2 (N.out.below B2)).mono ?_
  rintro e w3 ⟨v3, rfl, hi, hb3⟩
  have hR := (hb3.block _ (size_to hb2 (size_to hb1 hsz))).trans ((hb2.block _ (size_to hb1 hsz)).trans ((hb1.block _ hsz).trans H2.out))
  obtain ⟨n2, a2, k2, c2, rfl⟩ := hi.shape
  obtain ⟨k0, k1, g0, g1, hlt⟩ := blk2 hR
  have hs2 : w.heap.size + 1 < w2.heap.size := size_to hb2 (size_to hb1 hsz)
  go_wp2
  refine bodyPost_ret (v := .agg #[.bool n2, .slice a2 k2 c2]) ?_ rfl ⟨_, rfl, ((hi.far hs2).far hs2).mono B2.size, ((below_of B2 hb3).setCell (p := ⟨w.heap.size + 1, 0, none⟩) (Nat.le_add_right _ _) _).setCell (p := ⟨w.heap.size + 1, 1, none⟩) (Nat.le_add_right _ _) _⟩
  simp [results, Tryz.results16, go_sem, *]
end Go.Proofs.YtfdilnfmcpbkgaaGreatDoor
