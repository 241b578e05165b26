/- WholeRounds: the law's own walk. -/
import Derived.Test.YtkccjddmmjdceaaGreatDoorYW
import Derived.Test.YtkccjddmmjdceaaGreatDoorZU
import Derived.Test.YtkccjddmmjdceaaGreatDoorY2
set_option linter.unusedVariables false
set_option linter.unusedSimpArgs false
namespace Go.Proofs.YtkccjddmmjdceaaGreatDoor
open Go.RowKit Mth

set_option maxHeartbeats 16000000 in
set_option maxRecDepth 100000 in
theorem rounds_walk (w : World) (v0 v1 : Value) (x y : Int) (hz : TZ10 w) (h0 : IntV w v0 x) (h1 : IntV w v1 y) :
    Calls Tryz.prog 4 #[v0, v1] w fun e w' => e = .returned (.bool true) ∧ Below w.heap.size w w' := by
  have HZ := Lib.hid hz
  obtain ⟨n0, a0, k0, c0, rfl⟩ := h0.shape
  obtain ⟨n1, a1, k1, c1, rfl⟩ := h1.shape
  have IA_0 := Lib.hid h0; have IB_0 := Lib.hid h1
  clear hz h0 h1
  go_enter Tryz.func4, Tryz.ntmps4
  have B_0 := Lib.hid (Below.refl w.heap.size w)
  obtain ⟨V_1, eV, hV0, hV1, belV, hszV⟩ := alloc2 w (Obj.cells #[Value.bool n0, Value.slice a0 k0 c0] 25) (Obj.cells #[Value.bool n1, Value.slice a1 k1 c1] 25)
  have IA_2 := Lib.hid (IA_0.out.below belV)
  have IB_2 := Lib.hid (IB_0.out.below belV)
  have B_2 := Lib.hid (below_of B_0.out belV)
  clear IA_0 IB_0 B_0
  have GA_2 : Hid (V_1.heap[w.heap.size]? = some (Obj.cells #[Value.bool n0, Value.slice a0 k0 c0] 25)) := Lib.hid hV0
  have GB_2 : Hid (V_1.heap[w.heap.size + 1]? = some (Obj.cells #[Value.bool n1, Value.slice a1 k1 c1] 25)) := Lib.hid hV1
  clear belV hszV hV0 hV1
  obtain ⟨cA0, cA1, dA0, dA1, eA⟩ := blk2 GA_2.out
  obtain ⟨cB0, cB1, dB0, dB1, eB⟩ := blk2 GB_2.out
  go_wp2_with fail
  clear eV
  refine (floor_all _ _ x y _ IA_2.out IB_2.out).mono ?_
  rintro e w_3 ⟨vC, rfl, iC, hb⟩
  clear cA0 cA1 dA0 dA1 eA cB0 cB1 dB0 dB1 eB
  obtain ⟨nC, aC, kC, cC, rfl⟩ := iC.shape
  have GA_3 := Lib.hid (blk_below' hb GA_2.out)
  have GB_3 := Lib.hid (blk_below' hb GB_2.out)
  have IA_3 := Lib.hid (IA_2.out.below hb)
  have IB_3 := Lib.hid (IB_2.out.below hb)
  have B_3 := Lib.hid (below_of B_2.out hb)
  clear GA_2 GB_2 IA_2 IB_2 B_2
  have JC_3 := Lib.hid iC
  clear hb iC
  obtain ⟨V_4, eV, hV0, belV, hszV⟩ := alloc1 w_3 (Obj.cells #[Value.bool nC, Value.slice aC kC cC] 25)
  have GA_5 := Lib.hid (blk_below' belV GA_3.out)
  have GB_5 := Lib.hid (blk_below' belV GB_3.out)
  have IA_5 := Lib.hid (IA_3.out.below belV)
  have IB_5 := Lib.hid (IB_3.out.below belV)
  have JC_5 := Lib.hid (JC_3.out.below belV)
  have B_5 := Lib.hid (below_of B_3.out belV)
  clear GA_3 GB_3 IA_3 IB_3 JC_3 B_3
  have GC_5 : Hid (V_4.heap[w_3.heap.size]? = some (Obj.cells #[Value.bool nC, Value.slice aC kC cC] 25)) := Lib.hid hV0
  clear belV hszV hV0
  obtain ⟨cA0, cA1, dA0, dA1, eA⟩ := blk2 GA_5.out
  obtain ⟨cB0, cB1, dB0, dB1, eB⟩ := blk2 GB_5.out
  go_wp2_with fail
  clear eV
  refine (rround_all _ _ x y false _ IA_5.out IB_5.out).mono ?_
  rintro e w_6 ⟨vD, rfl, iD, hb⟩
  clear cA0 cA1 dA0 dA1 eA cB0 cB1 dB0 dB1 eB
  obtain ⟨nD, aD, kD, cD, rfl⟩ := iD.shape
  have GA_6 := Lib.hid (blk_below' hb GA_5.out)
  have GB_6 := Lib.hid (blk_below' hb GB_5.out)
  have GC_6 := Lib.hid (blk_below' hb GC_5.out)
  have IA_6 := Lib.hid (IA_5.out.below hb)
  have IB_6 := Lib.hid (IB_5.out.below hb)
  have JC_6 := Lib.hid (JC_5.out.below hb)
  have B_6 := Lib.hid (below_of B_5.out hb)
  clear GA_5 GB_5 GC_5 IA_5 IB_5 JC_5 B_5
  have JD_6 := Lib.hid iD
  clear hb iD
  obtain ⟨V_7, eV, hV0, belV, hszV⟩ := alloc1 w_6 (Obj.cells #[Value.bool nD, Value.slice aD kD cD] 25)
  have GA_8 := Lib.hid (blk_below' belV GA_6.out)
  have GB_8 := Lib.hid (blk_below' belV GB_6.out)
  have GC_8 := Lib.hid (blk_below' belV GC_6.out)
  have IA_8 := Lib.hid (IA_6.out.below belV)
  have IB_8 := Lib.hid (IB_6.out.below belV)
  have JC_8 := Lib.hid (JC_6.out.below belV)
  have JD_8 := Lib.hid (JD_6.out.below belV)
  have B_8 := Lib.hid (below_of B_6.out belV)
  clear GA_6 GB_6 GC_6 IA_6 IB_6 JC_6 JD_6 B_6
  have GD_8 : Hid (V_7.heap[w_6.heap.size]? = some (Obj.cells #[Value.bool nD, Value.slice aD kD cD] 25)) := Lib.hid hV0
  clear belV hszV hV0
  obtain ⟨cA0, cA1, dA0, dA1, eA⟩ := blk2 GA_8.out
  obtain ⟨cB0, cB1, dB0, dB1, eB⟩ := blk2 GB_8.out
  go_wp2_with fail
  clear eV
  refine (ceil_all _ _ x y _ IA_8.out IB_8.out).mono ?_
  rintro e w_9 ⟨vX, rfl, iX, hb⟩
  clear cA0 cA1 dA0 dA1 eA cB0 cB1 dB0 dB1 eB
  obtain ⟨nX, aX, kX, cX, rfl⟩ := iX.shape
  have GA_9 := Lib.hid (blk_below' hb GA_8.out)
  have GB_9 := Lib.hid (blk_below' hb GB_8.out)
  have GC_9 := Lib.hid (blk_below' hb GC_8.out)
  have GD_9 := Lib.hid (blk_below' hb GD_8.out)
  have IA_9 := Lib.hid (IA_8.out.below hb)
  have IB_9 := Lib.hid (IB_8.out.below hb)
  have JC_9 := Lib.hid (JC_8.out.below hb)
  have JD_9 := Lib.hid (JD_8.out.below hb)
  have B_9 := Lib.hid (below_of B_8.out hb)
  clear GA_8 GB_8 GC_8 GD_8 IA_8 IB_8 JC_8 JD_8 B_8
  have JX_9 := Lib.hid iX
  clear hb iX
  obtain ⟨V_10, eV, hV0, belV, hszV⟩ := alloc1 w_9 (Obj.cells #[Value.bool nX, Value.slice aX kX cX] 25)
  have GA_11 := Lib.hid (blk_below' belV GA_9.out)
  have GB_11 := Lib.hid (blk_below' belV GB_9.out)
  have GC_11 := Lib.hid (blk_below' belV GC_9.out)
  have GD_11 := Lib.hid (blk_below' belV GD_9.out)
  have IA_11 := Lib.hid (IA_9.out.below belV)
  have IB_11 := Lib.hid (IB_9.out.below belV)
  have JC_11 := Lib.hid (JC_9.out.below belV)
  have JD_11 := Lib.hid (JD_9.out.below belV)
  have JX_11 := Lib.hid (JX_9.out.below belV)
  have B_11 := Lib.hid (below_of B_9.out belV)
  clear GA_9 GB_9 GC_9 GD_9 IA_9 IB_9 JC_9 JD_9 JX_9 B_9
  have GX_11 : Hid (V_10.heap[w_9.heap.size]? = some (Obj.cells #[Value.bool nX, Value.slice aX kX cX] 25)) := Lib.hid hV0
  clear belV hszV hV0
  obtain ⟨cA0, cA1, dA0, dA1, eA⟩ := blk2 GA_11.out
  obtain ⟨cB0, cB1, dB0, dB1, eB⟩ := blk2 GB_11.out
  go_wp2_with fail
  clear eV
  refine (rround_all _ _ x y true _ IA_11.out IB_11.out).mono ?_
  rintro e w_12 ⟨vY, rfl, iY, hb⟩
  clear cA0 cA1 dA0 dA1 eA cB0 cB1 dB0 dB1 eB
  obtain ⟨nY, aY, kY, cY, rfl⟩ := iY.shape
  have GA_12 := Lib.hid (blk_below' hb GA_11.out)
  have GB_12 := Lib.hid (blk_below' hb GB_11.out)
  have GC_12 := Lib.hid (blk_below' hb GC_11.out)
  have GD_12 := Lib.hid (blk_below' hb GD_11.out)
  have GX_12 := Lib.hid (blk_below' hb GX_11.out)
  have IA_12 := Lib.hid (IA_11.out.below hb)
  have IB_12 := Lib.hid (IB_11.out.below hb)
  have JC_12 := Lib.hid (JC_11.out.below hb)
  have JD_12 := Lib.hid (JD_11.out.below hb)
  have JX_12 := Lib.hid (JX_11.out.below hb)
  have B_12 := Lib.hid (below_of B_11.out hb)
  clear GA_11 GB_11 GC_11 GD_11 GX_11 IA_11 IB_11 JC_11 JD_11 JX_11 B_11
  have JY_12 := Lib.hid iY
  clear hb iY
  obtain ⟨V_13, eV, hV0, belV, hszV⟩ := alloc1 w_12 (Obj.cells #[Value.bool nY, Value.slice aY kY cY] 25)
  have GA_14 := Lib.hid (blk_below' belV GA_12.out)
  have GB_14 := Lib.hid (blk_below' belV GB_12.out)
  have GC_14 := Lib.hid (blk_below' belV GC_12.out)
  have GD_14 := Lib.hid (blk_below' belV GD_12.out)
  have GX_14 := Lib.hid (blk_below' belV GX_12.out)
  have IA_14 := Lib.hid (IA_12.out.below belV)
  have IB_14 := Lib.hid (IB_12.out.below belV)
  have JC_14 := Lib.hid (JC_12.out.below belV)
  have JD_14 := Lib.hid (JD_12.out.below belV)
  have JX_14 := Lib.hid (JX_12.out.below belV)
  have JY_14 := Lib.hid (JY_12.out.below belV)
  have B_14 := Lib.hid (below_of B_12.out belV)
  clear GA_12 GB_12 GC_12 GD_12 GX_12 IA_12 IB_12 JC_12 JD_12 JX_12 JY_12 B_12
  have GY_14 : Hid (V_13.heap[w_12.heap.size]? = some (Obj.cells #[Value.bool nY, Value.slice aY kY cY] 25)) := Lib.hid hV0
  clear belV hszV hV0
  obtain ⟨cC0, cC1, dC0, dC1, eC⟩ := blk2 GC_14.out
  obtain ⟨cD0, cD1, dD0, dD1, eD⟩ := blk2 GD_14.out
  go_wp2_with fail
  clear eV
  refine (same_any _ _ (roN y (rUF false x y)) _ JC_14.out JD_14.out).mono ?_
  rintro e w_15 ⟨rfl, hb⟩
  clear cC0 cC1 dC0 dC1 eC cD0 cD1 dD0 dD1 eD
  have GA_15 := Lib.hid (blk_below' hb GA_14.out)
  have GB_15 := Lib.hid (blk_below' hb GB_14.out)
  have GC_15 := Lib.hid (blk_below' hb GC_14.out)
  have GD_15 := Lib.hid (blk_below' hb GD_14.out)
  have GX_15 := Lib.hid (blk_below' hb GX_14.out)
  have GY_15 := Lib.hid (blk_below' hb GY_14.out)
  have IA_15 := Lib.hid (IA_14.out.below hb)
  have IB_15 := Lib.hid (IB_14.out.below hb)
  have JC_15 := Lib.hid (JC_14.out.below hb)
  have JD_15 := Lib.hid (JD_14.out.below hb)
  have JX_15 := Lib.hid (JX_14.out.below hb)
  have JY_15 := Lib.hid (JY_14.out.below hb)
  have B_15 := Lib.hid (below_of B_14.out hb)
  clear GA_14 GB_14 GC_14 GD_14 GX_14 GY_14 IA_14 IB_14 JC_14 JD_14 JX_14 JY_14 B_14
  clear hb 
  obtain ⟨cX0, cX1, dX0, dX1, eX⟩ := blk2 GX_15.out
  obtain ⟨cY0, cY1, dY0, dY1, eY⟩ := blk2 GY_15.out
  go_wp2_with fail
  refine (same_any _ _ (roN y (rUF true x y)) _ JX_15.out JY_15.out).mono ?_
  rintro e w_16 ⟨rfl, hb⟩
  clear cX0 cX1 dX0 dX1 eX cY0 cY1 dY0 dY1 eY
  have GA_16 := Lib.hid (blk_below' hb GA_15.out)
  have GB_16 := Lib.hid (blk_below' hb GB_15.out)
  have GC_16 := Lib.hid (blk_below' hb GC_15.out)
  have GD_16 := Lib.hid (blk_below' hb GD_15.out)
  have GX_16 := Lib.hid (blk_below' hb GX_15.out)
  have GY_16 := Lib.hid (blk_below' hb GY_15.out)
  have IA_16 := Lib.hid (IA_15.out.below hb)
  have IB_16 := Lib.hid (IB_15.out.below hb)
  have JC_16 := Lib.hid (JC_15.out.below hb)
  have JD_16 := Lib.hid (JD_15.out.below hb)
  have JX_16 := Lib.hid (JX_15.out.below hb)
  have JY_16 := Lib.hid (JY_15.out.below hb)
  have B_16 := Lib.hid (below_of B_15.out hb)
  clear GA_15 GB_15 GC_15 GD_15 GX_15 GY_15 IA_15 IB_15 JC_15 JD_15 JX_15 JY_15 B_15
  clear hb 
  go_wp2_with fail
  refine (awake_any _ (HZ.out.below B_16.out)).mono ?_
  rintro e w_17 ⟨rfl, hb⟩
  have GA_17 := Lib.hid (blk_below' hb GA_16.out)
  have GB_17 := Lib.hid (blk_below' hb GB_16.out)
  have GC_17 := Lib.hid (blk_below' hb GC_16.out)
  have GD_17 := Lib.hid (blk_below' hb GD_16.out)
  have GX_17 := Lib.hid (blk_below' hb GX_16.out)
  have GY_17 := Lib.hid (blk_below' hb GY_16.out)
  have IA_17 := Lib.hid (IA_16.out.below hb)
  have IB_17 := Lib.hid (IB_16.out.below hb)
  have JC_17 := Lib.hid (JC_16.out.below hb)
  have JD_17 := Lib.hid (JD_16.out.below hb)
  have JX_17 := Lib.hid (JX_16.out.below hb)
  have JY_17 := Lib.hid (JY_16.out.below hb)
  have B_17 := Lib.hid (below_of B_16.out hb)
  clear GA_16 GB_16 GC_16 GD_16 GX_16 GY_16 IA_16 IB_16 JC_16 JD_16 JX_16 JY_16 B_16
  clear hb 
  go_wp2
  go_ret
  exact ⟨rfl, B_17.out⟩
end Go.Proofs.YtkccjddmmjdceaaGreatDoor
