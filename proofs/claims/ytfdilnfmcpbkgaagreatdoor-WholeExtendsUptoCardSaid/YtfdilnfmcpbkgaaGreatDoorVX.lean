/- Both Extendeds of any two numbers; WholeExtends: the law's own walk. -/
import Derived.Test.YtfdilnfmcpbkgaaGreatDoorE1
import Derived.Test.YtfdilnfmcpbkgaaGreatDoorE2
import Derived.Test.YtfdilnfmcpbkgaaGreatDoorZU
import Derived.Test.YtfdilnfmcpbkgaaGreatDoorY2
set_option linter.unusedVariables false
set_option linter.unusedSimpArgs false
namespace Go.Proofs.YtfdilnfmcpbkgaaGreatDoor
open Go.RowKit Mth

/-- what Extended answers: nothing and error 5, if a number is too long -/
def exZ (x y z : Int) : Int := if Big ≤ x.natAbs ∨ Big ≤ y.natAbs then 0 else z
def exE (x y : Int) : Int := if Big ≤ x.natAbs ∨ Big ≤ y.natAbs then 5 else 0
theorem extI_all (va vb : Value) (x y : Int) (w : World) (ha : IntV w va x) (hb : IntV w vb y) :
    Calls Tryz.prog 6 #[va, vb] w fun e w' => ∃ v1 v2 v3, e = .returned (.tuple #[v1, v2, v3, .int .i64 (exE x y)]) ∧ IntK w' v1 (exZ x y (xG x y)) ∧ IntK w' v2 (exZ x y (xX x y)) ∧ IntK w' v3 (exZ x y (xY x y)) ∧ Below w.heap.size w w' := by
  by_cases h : Big ≤ x.natAbs ∨ Big ≤ y.natAbs
  · refine (extI_big va vb x y w ha hb h).mono ?_
    rintro e w' ⟨rfl, hb⟩
    unfold exE exZ
    rw [if_pos h, if_pos h, if_pos h, if_pos h]
    exact ⟨_, _, _, rfl, intk_zero _, intk_zero _, intk_zero _, hb⟩
  · refine (extI_fine va vb x y w ha hb (by omega) (by omega)).mono ?_
    rintro e w' ⟨v1, v2, v3, rfl, h1, h2, h3, hb⟩
    unfold exE exZ
    rw [if_neg h, if_neg h, if_neg h, if_neg h]
    exact ⟨_, _, _, rfl, h1.1, h2.1, h3.1, hb⟩
theorem rext_all (va vb : Value) (x y : Int) (w : World) (ha : IntV w va x) (hb : IntV w vb y) :
    Calls Tryz.prog 7 #[va, vb] w fun e w' => ∃ v1 v2 v3, e = .returned (.tuple #[v1, v2, v3, .int .i64 (exE x y)]) ∧ IntK w' v1 (exZ x y (xG x y)) ∧ IntK w' v2 (exZ x y (xX x y)) ∧ IntK w' v3 (exZ x y (xY x y)) ∧ Below w.heap.size w w' := by
  by_cases h : Big ≤ x.natAbs ∨ Big ≤ y.natAbs
  · refine (rext_big va vb x y w ha hb h).mono ?_
    rintro e w' ⟨rfl, hb⟩
    unfold exE exZ
    rw [if_pos h, if_pos h, if_pos h, if_pos h]
    exact ⟨_, _, _, rfl, intk_zero _, intk_zero _, intk_zero _, hb⟩
  · refine (rext_fine va vb x y w ha hb (by omega) (by omega)).mono ?_
    rintro e w' ⟨v1, v2, v3, rfl, h1, h2, h3, hb⟩
    unfold exE exZ
    rw [if_neg h, if_neg h, if_neg h, if_neg h]
    exact ⟨_, _, _, rfl, h1, h2, h3, hb⟩

set_option maxHeartbeats 16000000 in
set_option maxRecDepth 100000 in
theorem extends_walk (w : World) (v0 v1 : Value) (x y : Int) (hz : TZ10 w) (h0 : IntV w v0 x) (h1 : IntV w v1 y) :
    Calls Tryz.prog 3 #[v0, v1] w fun e w' => e = .returned (.bool true) ∧ Below w.heap.size w w' := by
  have HZ := Lib.hid hz
  obtain ⟨n0, a0, k0, c0, rfl⟩ := h0.shape
  obtain ⟨n1, a1, k1, c1, rfl⟩ := h1.shape
  have IA_0 := Lib.hid h0; have IB_0 := Lib.hid h1
  clear hz h0 h1
  go_enter Tryz.func3, Tryz.ntmps3
  have B_0 := Lib.hid (Below.refl w.heap.size w)
  obtain ⟨V_1, eV, hV0, hV1, belV, hszV⟩ := alloc2 w (Obj.cells #[Value.bool n0, Value.slice a0 k0 c0] 25) (Obj.cells #[Value.bool n1, Value.slice a1 k1 c1] 25)
  have IA_2 := Lib.hid (IA_0.out.below belV)
  have IB_2 := Lib.hid (IB_0.out.below belV)
  have B_2 := Lib.hid (below_of B_0.out belV)
  clear IA_0 IB_0 B_0
  have GA_2 : Hid (V_1.heap[w.heap.size]? = some (Obj.cells #[Value.bool n0, Value.slice a0 k0 c0] 25)) := Lib.hid hV0
  have GB_2 : Hid (V_1.heap[w.heap.size + 1]? = some (Obj.cells #[Value.bool n1, Value.slice a1 k1 c1] 25)) := Lib.hid hV1
  clear belV hszV hV0 hV1
  obtain ⟨cA0, cA1, dA0, dA1, eA⟩ := blk2 GA_2.out
  obtain ⟨cB0, cB1, dB0, dB1, eB⟩ := blk2 GB_2.out
  go_wp2_with fail
  clear eV
  refine (extI_all _ _ x y _ IA_2.out IB_2.out).mono ?_
  rintro e w_3 ⟨vC, vD, vE, rfl, iC, iD, iE, hb⟩
  clear cA0 cA1 dA0 dA1 eA cB0 cB1 dB0 dB1 eB
  obtain ⟨nC, aC, kC, cC, rfl⟩ := iC.shape
  obtain ⟨nD, aD, kD, cD, rfl⟩ := iD.shape
  obtain ⟨nE, aE, kE, cE, rfl⟩ := iE.shape
  have GA_3 := Lib.hid (blk_below' hb GA_2.out)
  have GB_3 := Lib.hid (blk_below' hb GB_2.out)
  have IA_3 := Lib.hid (IA_2.out.below hb)
  have IB_3 := Lib.hid (IB_2.out.below hb)
  have B_3 := Lib.hid (below_of B_2.out hb)
  clear GA_2 GB_2 IA_2 IB_2 B_2
  have JC_3 := Lib.hid iC
  have JD_3 := Lib.hid iD
  have JE_3 := Lib.hid iE
  clear hb iC iD iE
  obtain ⟨V_4, eV, hV0, hV1, hV2, belV, hszV⟩ := alloc3 w_3 (Obj.cells #[Value.bool nC, Value.slice aC kC cC] 25) (Obj.cells #[Value.bool nD, Value.slice aD kD cD] 25) (Obj.cells #[Value.bool nE, Value.slice aE kE cE] 25)
  have GA_5 := Lib.hid (blk_below' belV GA_3.out)
  have GB_5 := Lib.hid (blk_below' belV GB_3.out)
  have IA_5 := Lib.hid (IA_3.out.below belV)
  have IB_5 := Lib.hid (IB_3.out.below belV)
  have JC_5 := Lib.hid (JC_3.out.below belV)
  have JD_5 := Lib.hid (JD_3.out.below belV)
  have JE_5 := Lib.hid (JE_3.out.below belV)
  have B_5 := Lib.hid (below_of B_3.out belV)
  clear GA_3 GB_3 IA_3 IB_3 JC_3 JD_3 JE_3 B_3
  have GC_5 : Hid (V_4.heap[w_3.heap.size]? = some (Obj.cells #[Value.bool nC, Value.slice aC kC cC] 25)) := Lib.hid hV0
  have GD_5 : Hid (V_4.heap[w_3.heap.size + 1]? = some (Obj.cells #[Value.bool nD, Value.slice aD kD cD] 25)) := Lib.hid hV1
  have GE_5 : Hid (V_4.heap[w_3.heap.size + 1 + 1]? = some (Obj.cells #[Value.bool nE, Value.slice aE kE cE] 25)) := Lib.hid hV2
  clear belV hszV hV0 hV1 hV2
  obtain ⟨cA0, cA1, dA0, dA1, eA⟩ := blk2 GA_5.out
  obtain ⟨cB0, cB1, dB0, dB1, eB⟩ := blk2 GB_5.out
  go_wp2_with fail
  clear eV
  refine (rext_all _ _ x y _ IA_5.out IB_5.out).mono ?_
  rintro e w_6 ⟨vP, vS, vT, rfl, iP, iS, iT, hb⟩
  clear cA0 cA1 dA0 dA1 eA cB0 cB1 dB0 dB1 eB
  obtain ⟨nP, aP, kP, cP, rfl⟩ := iP.shape
  obtain ⟨nS, aS, kS, cS, rfl⟩ := iS.shape
  obtain ⟨nT, aT, kT, cT, rfl⟩ := iT.shape
  have GA_6 := Lib.hid (blk_below' hb GA_5.out)
  have GB_6 := Lib.hid (blk_below' hb GB_5.out)
  have GC_6 := Lib.hid (blk_below' hb GC_5.out)
  have GD_6 := Lib.hid (blk_below' hb GD_5.out)
  have GE_6 := Lib.hid (blk_below' hb GE_5.out)
  have IA_6 := Lib.hid (IA_5.out.below hb)
  have IB_6 := Lib.hid (IB_5.out.below hb)
  have JC_6 := Lib.hid (JC_5.out.below hb)
  have JD_6 := Lib.hid (JD_5.out.below hb)
  have JE_6 := Lib.hid (JE_5.out.below hb)
  have B_6 := Lib.hid (below_of B_5.out hb)
  clear GA_5 GB_5 GC_5 GD_5 GE_5 IA_5 IB_5 JC_5 JD_5 JE_5 B_5
  have JP_6 := Lib.hid iP
  have JS_6 := Lib.hid iS
  have JT_6 := Lib.hid iT
  clear hb iP iS iT
  obtain ⟨V_7, eV, hV0, hV1, hV2, belV, hszV⟩ := alloc3 w_6 (Obj.cells #[Value.bool nP, Value.slice aP kP cP] 25) (Obj.cells #[Value.bool nS, Value.slice aS kS cS] 25) (Obj.cells #[Value.bool nT, Value.slice aT kT cT] 25)
  have GA_8 := Lib.hid (blk_below' belV GA_6.out)
  have GB_8 := Lib.hid (blk_below' belV GB_6.out)
  have GC_8 := Lib.hid (blk_below' belV GC_6.out)
  have GD_8 := Lib.hid (blk_below' belV GD_6.out)
  have GE_8 := Lib.hid (blk_below' belV GE_6.out)
  have IA_8 := Lib.hid (IA_6.out.below belV)
  have IB_8 := Lib.hid (IB_6.out.below belV)
  have JC_8 := Lib.hid (JC_6.out.below belV)
  have JD_8 := Lib.hid (JD_6.out.below belV)
  have JE_8 := Lib.hid (JE_6.out.below belV)
  have JP_8 := Lib.hid (JP_6.out.below belV)
  have JS_8 := Lib.hid (JS_6.out.below belV)
  have JT_8 := Lib.hid (JT_6.out.below belV)
  have B_8 := Lib.hid (below_of B_6.out belV)
  clear GA_6 GB_6 GC_6 GD_6 GE_6 IA_6 IB_6 JC_6 JD_6 JE_6 JP_6 JS_6 JT_6 B_6
  have GP_8 : Hid (V_7.heap[w_6.heap.size]? = some (Obj.cells #[Value.bool nP, Value.slice aP kP cP] 25)) := Lib.hid hV0
  have GS_8 : Hid (V_7.heap[w_6.heap.size + 1]? = some (Obj.cells #[Value.bool nS, Value.slice aS kS cS] 25)) := Lib.hid hV1
  have GT_8 : Hid (V_7.heap[w_6.heap.size + 1 + 1]? = some (Obj.cells #[Value.bool nT, Value.slice aT kT cT] 25)) := Lib.hid hV2
  clear belV hszV hV0 hV1 hV2
  obtain ⟨cC0, cC1, dC0, dC1, eC⟩ := blk2 GC_8.out
  obtain ⟨cP0, cP1, dP0, dP1, eP⟩ := blk2 GP_8.out
  go_wp2_with fail
  clear eV
  refine (same_any _ _ (exZ x y (xG x y)) _ JC_8.out JP_8.out).mono ?_
  rintro e w_9 ⟨rfl, hb⟩
  clear cC0 cC1 dC0 dC1 eC cP0 cP1 dP0 dP1 eP
  have GA_9 := Lib.hid (blk_below' hb GA_8.out)
  have GB_9 := Lib.hid (blk_below' hb GB_8.out)
  have GC_9 := Lib.hid (blk_below' hb GC_8.out)
  have GD_9 := Lib.hid (blk_below' hb GD_8.out)
  have GE_9 := Lib.hid (blk_below' hb GE_8.out)
  have GP_9 := Lib.hid (blk_below' hb GP_8.out)
  have GS_9 := Lib.hid (blk_below' hb GS_8.out)
  have GT_9 := Lib.hid (blk_below' hb GT_8.out)
  have IA_9 := Lib.hid (IA_8.out.below hb)
  have IB_9 := Lib.hid (IB_8.out.below hb)
  have JC_9 := Lib.hid (JC_8.out.below hb)
  have JD_9 := Lib.hid (JD_8.out.below hb)
  have JE_9 := Lib.hid (JE_8.out.below hb)
  have JP_9 := Lib.hid (JP_8.out.below hb)
  have JS_9 := Lib.hid (JS_8.out.below hb)
  have JT_9 := Lib.hid (JT_8.out.below hb)
  have B_9 := Lib.hid (below_of B_8.out hb)
  clear GA_8 GB_8 GC_8 GD_8 GE_8 GP_8 GS_8 GT_8 IA_8 IB_8 JC_8 JD_8 JE_8 JP_8 JS_8 JT_8 B_8
  clear hb 
  obtain ⟨cD0, cD1, dD0, dD1, eD⟩ := blk2 GD_9.out
  obtain ⟨cS0, cS1, dS0, dS1, eS⟩ := blk2 GS_9.out
  go_wp2_with fail
  refine (same_any _ _ (exZ x y (xX x y)) _ JD_9.out JS_9.out).mono ?_
  rintro e w_10 ⟨rfl, hb⟩
  clear cD0 cD1 dD0 dD1 eD cS0 cS1 dS0 dS1 eS
  have GA_10 := Lib.hid (blk_below' hb GA_9.out)
  have GB_10 := Lib.hid (blk_below' hb GB_9.out)
  have GC_10 := Lib.hid (blk_below' hb GC_9.out)
  have GD_10 := Lib.hid (blk_below' hb GD_9.out)
  have GE_10 := Lib.hid (blk_below' hb GE_9.out)
  have GP_10 := Lib.hid (blk_below' hb GP_9.out)
  have GS_10 := Lib.hid (blk_below' hb GS_9.out)
  have GT_10 := Lib.hid (blk_below' hb GT_9.out)
  have IA_10 := Lib.hid (IA_9.out.below hb)
  have IB_10 := Lib.hid (IB_9.out.below hb)
  have JC_10 := Lib.hid (JC_9.out.below hb)
  have JD_10 := Lib.hid (JD_9.out.below hb)
  have JE_10 := Lib.hid (JE_9.out.below hb)
  have JP_10 := Lib.hid (JP_9.out.below hb)
  have JS_10 := Lib.hid (JS_9.out.below hb)
  have JT_10 := Lib.hid (JT_9.out.below hb)
  have B_10 := Lib.hid (below_of B_9.out hb)
  clear GA_9 GB_9 GC_9 GD_9 GE_9 GP_9 GS_9 GT_9 IA_9 IB_9 JC_9 JD_9 JE_9 JP_9 JS_9 JT_9 B_9
  clear hb 
  obtain ⟨cE0, cE1, dE0, dE1, eE⟩ := blk2 GE_10.out
  obtain ⟨cT0, cT1, dT0, dT1, eT⟩ := blk2 GT_10.out
  go_wp2_with fail
  refine (same_any _ _ (exZ x y (xY x y)) _ JE_10.out JT_10.out).mono ?_
  rintro e w_11 ⟨rfl, hb⟩
  clear cE0 cE1 dE0 dE1 eE cT0 cT1 dT0 dT1 eT
  have GA_11 := Lib.hid (blk_below' hb GA_10.out)
  have GB_11 := Lib.hid (blk_below' hb GB_10.out)
  have GC_11 := Lib.hid (blk_below' hb GC_10.out)
  have GD_11 := Lib.hid (blk_below' hb GD_10.out)
  have GE_11 := Lib.hid (blk_below' hb GE_10.out)
  have GP_11 := Lib.hid (blk_below' hb GP_10.out)
  have GS_11 := Lib.hid (blk_below' hb GS_10.out)
  have GT_11 := Lib.hid (blk_below' hb GT_10.out)
  have IA_11 := Lib.hid (IA_10.out.below hb)
  have IB_11 := Lib.hid (IB_10.out.below hb)
  have JC_11 := Lib.hid (JC_10.out.below hb)
  have JD_11 := Lib.hid (JD_10.out.below hb)
  have JE_11 := Lib.hid (JE_10.out.below hb)
  have JP_11 := Lib.hid (JP_10.out.below hb)
  have JS_11 := Lib.hid (JS_10.out.below hb)
  have JT_11 := Lib.hid (JT_10.out.below hb)
  have B_11 := Lib.hid (below_of B_10.out hb)
  clear GA_10 GB_10 GC_10 GD_10 GE_10 GP_10 GS_10 GT_10 IA_10 IB_10 JC_10 JD_10 JE_10 JP_10 JS_10 JT_10 B_10
  clear hb 
  go_wp2_with fail
  refine (awake_any _ (HZ.out.below B_11.out)).mono ?_
  rintro e w_12 ⟨rfl, hb⟩
  have GA_12 := Lib.hid (blk_below' hb GA_11.out)
  have GB_12 := Lib.hid (blk_below' hb GB_11.out)
  have GC_12 := Lib.hid (blk_below' hb GC_11.out)
  have GD_12 := Lib.hid (blk_below' hb GD_11.out)
  have GE_12 := Lib.hid (blk_below' hb GE_11.out)
  have GP_12 := Lib.hid (blk_below' hb GP_11.out)
  have GS_12 := Lib.hid (blk_below' hb GS_11.out)
  have GT_12 := Lib.hid (blk_below' hb GT_11.out)
  have IA_12 := Lib.hid (IA_11.out.below hb)
  have IB_12 := Lib.hid (IB_11.out.below hb)
  have JC_12 := Lib.hid (JC_11.out.below hb)
  have JD_12 := Lib.hid (JD_11.out.below hb)
  have JE_12 := Lib.hid (JE_11.out.below hb)
  have JP_12 := Lib.hid (JP_11.out.below hb)
  have JS_12 := Lib.hid (JS_11.out.below hb)
  have JT_12 := Lib.hid (JT_11.out.below hb)
  have B_12 := Lib.hid (below_of B_11.out hb)
  clear GA_11 GB_11 GC_11 GD_11 GE_11 GP_11 GS_11 GT_11 IA_11 IB_11 JC_11 JD_11 JE_11 JP_11 JS_11 JT_11 B_11
  clear hb 
  go_wp2
  go_ret
  exact ⟨rfl, B_12.out⟩
end Go.Proofs.YtfdilnfmcpbkgaaGreatDoor
