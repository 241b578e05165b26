/- WholeGcds: the law's own walk. -/
import Derived.Test.YtkccjddmmjdceaaGreatDoorGB
import Derived.Test.YtkccjddmmjdceaaGreatDoorZU
import Derived.Test.YtkccjddmmjdceaaGreatDoorY2
set_option linter.unusedVariables false
set_option linter.unusedSimpArgs false
namespace Go.Proofs.YtkccjddmmjdceaaGreatDoor
open Go.RowKit Mth

theorem gE_or (zs : List Int) : gE zs = 0 ∨ gE zs = 5 := by
  unfold gE
  split
  · exact .inl rfl
  · exact .inr rfl

set_option maxHeartbeats 4000000 in
set_option maxRecDepth 100000 in
theorem gcds_walk (w : World) (v0 : Value) (zs : List Int) (hz : TZ10 w) (h0 : IntL w v0 zs) :
    Calls Tryz.prog 5 #[v0] w fun e w' => e = .returned (.bool true) ∧ Below w.heap.size w w' := by
  have HZ := Lib.hid hz; have H0 := Lib.hid h0
  obtain ⟨ao, c, rfl⟩ := h0.shape
  clear hz h0
  go_enter Tryz.func5, Tryz.ntmps5
  go_wp2_with fail
  refine (gcdI_any _ zs w H0.out).mono ?_
  rintro e w1 ⟨v1, rfl, i1, b1⟩
  obtain ⟨n1, a1, k1, c1, rfl⟩ := i1.shape
  have I1 := Lib.hid i1; have B1 := Lib.hid b1
  clear i1 b1
  go_wp2_with fail
  obtain ⟨V, eV, hV, belV, hszV⟩ := alloc1 w1 (Obj.cells #[Value.bool n1, Value.slice a1 k1 c1] 25)
  rw [eV]
  have BV := Lib.hid (below_of B1.out belV)
  have J1 := Lib.hid (I1.out.below belV)
  clear eV I1
  refine (rgcdL_any _ zs V (H0.out.below BV.out)).mono ?_
  rintro e w2 ⟨v2, rfl, i2, b2⟩
  obtain ⟨n2, a2, k2, c2, rfl⟩ := i2.shape
  have HG := (b2.block _ hszV).trans hV
  have B2 := Lib.hid (below_of BV.out b2)
  have hlt := size_to b2 hszV
  have K1 := Lib.hid (J1.out.below b2); have I2 := Lib.hid i2
  have hg := blk_below' (nuc_new w2 (Obj.cells #[Value.bool n2, Value.slice a2 k2 c2] 25)) HG
  obtain ⟨p0, p1, _, _, _⟩ := blk2 hg
  clear hV b2 i2 J1 HG hg
  go_wp2_with fail
  obtain ⟨U, eU, hU, belU, hszU⟩ := alloc1 w2 (Obj.cells #[Value.bool n2, Value.slice a2 k2 c2] 25)
  rw [eU]
  have BU := Lib.hid (below_of B2.out belU)
  clear eU hU p0 p1
  refine (same_any _ _ (gZ zs) U (K1.out.below belU) (I2.out.below belU)).mono ?_
  rintro e w3 ⟨rfl, b3⟩
  have B3 := Lib.hid (below_of BU.out b3)
  clear b3
  rcases gE_or zs with z1 | z1
  all_goals
    rw [z1]
    clear z1
    go_wp2_with fail
    refine (awake_any _ (HZ.out.below B3.out)).mono ?_
    rintro e w4 ⟨rfl, b4⟩
    have B4 := Lib.hid (below_of B3.out b4)
    clear b4
    go_wp2
    go_ret
    exact ⟨rfl, B4.out⟩
end Go.Proofs.YtkccjddmmjdceaaGreatDoor
