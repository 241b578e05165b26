/- WholeDivides: where more than nought is left -/
import Derived.Test.YtkccjddmmjdceaaDoorVDa
import Derived.Deep.RegionHeld3
import Derived.Deep.RegionWith
set_option linter.unusedVariables false
set_option linter.unusedSimpArgs false
namespace Go.Proofs.YtkccjddmmjdceaaDoor
open Go.RowKit Mth

set_option maxHeartbeats 16000000 in
set_option maxRecDepth 100000 in
theorem wdiv_gt (w : World) (v0 v1 : Value) (x y : Int) (hz : TZ10 w) (h0 : IntV w v0 x) (h1 : IntV w v1 y) (hy0 : y ≠ 0) (h1' : zcmp (rC x y) 0 = 1) (h2' : zcmp x 0 = 1) (h3' : zcmp (rE x y) 0 = 1) (h4' : zcmp ((rC x y).natAbs : Int) (y.natAbs : Int) = -1) (h5' : zcmp (rE x y) (y.natAbs : Int) = -1) (h6' : zcmp ((qC x y - qE x y).natAbs : Int) 1 = -1) :
    Calls Tryd.prog 4 #[v0, v1] w fun e w' => e = .returned (.bool true) ∧ Below w.heap.size w w' := by
  have HZ := Lib.hid hz
  have HY0 := Lib.hid hy0
  have SR := Lib.hid h1'; have SA := Lib.hid h2'; have SS := Lib.hid h3'; have CR := Lib.hid h4'; have CS := Lib.hid h5'; have CD := Lib.hid h6'
  clear hy0 h1' h2' h3' h4' h5' h6'
  obtain ⟨n0, a0, k0, c0, rfl⟩ := h0.shape
  obtain ⟨n1, a1, k1, c1, rfl⟩ := h1.shape
  have IA_0 := Lib.hid h0; have IB_0 := Lib.hid h1
  clear hz h0 h1
  go_enter Tryd.func4, Tryd.ntmps4
  have B_0 := Lib.hid (Below.refl w.heap.size w)
  obtain ⟨V_1, eV, hV0, hV1, belV, hszV⟩ := alloc2 w (Obj.cells #[Value.bool n0, Value.slice a0 k0 c0] 25) (Obj.cells #[Value.bool n1, Value.slice a1 k1 c1] 25)
  have IA_2 := Lib.hid (IA_0.out.below belV)
  have IB_2 := Lib.hid (IB_0.out.below belV)
  have B_2 := Lib.hid (below_of B_0.out belV)
  clear IA_0 IB_0 B_0
  have GA_2 : Hid (V_1.heap[w.heap.size]? = some (Obj.cells #[Value.bool n0, Value.slice a0 k0 c0] 25)) := Lib.hid hV0
  have GB_2 : Hid (V_1.heap[w.heap.size + 1]? = some (Obj.cells #[Value.bool n1, Value.slice a1 k1 c1] 25)) := Lib.hid hV1
  clear belV hszV hV0 hV1
  go_wp2_with fail
  clear eV
  refine (awake_any _ (HZ.out.below B_2.out)).mono ?_
  rintro e w_3 ⟨rfl, hb⟩
  have GA_3 := Lib.hid (blk_below' hb GA_2.out)
  have GB_3 := Lib.hid (blk_below' hb GB_2.out)
  have IA_3 := Lib.hid (IA_2.out.below hb)
  have IB_3 := Lib.hid (IB_2.out.below hb)
  have B_3 := Lib.hid (below_of B_2.out hb)
  clear GA_2 GB_2 IA_2 IB_2 B_2
  clear hb 
  by_cases hk0 : k0 ≤ 1000
  rotate_left
  · have hd : decide ((k0 : Int) ≤ 1000) = false := decide_eq_false (by omega)
    obtain ⟨cA0, cA1, dA0, dA1, eA⟩ := blk2 GA_3.out
    go_wp2_with fail
    refine (shortF _ _ _ _ _ false hd).mono ?_
    rintro e w_4 ⟨rfl, hb⟩
    clear cA0 cA1 dA0 dA1 eA
    have GA_4 := Lib.hid (blk_below' hb GA_3.out)
    have GB_4 := Lib.hid (blk_below' hb GB_3.out)
    have IA_4 := Lib.hid (IA_3.out.below hb)
    have IB_4 := Lib.hid (IB_3.out.below hb)
    have B_4 := Lib.hid (below_of B_3.out hb)
    clear GA_3 GB_3 IA_3 IB_3 B_3
    clear hb 
    clear hd
    go_wp2
    go_ret
    exact ⟨rfl, B_4.out⟩
  have hd0 : decide ((k0 : Int) ≤ 1000) = true := decide_eq_true (by omega)
  have SH0 := Lib.hid (IA_3.out.short hk0)
  obtain ⟨cA0, cA1, dA0, dA1, eA⟩ := blk2 GA_3.out
  go_wp2_with fail
  refine (shortF _ _ _ _ _ true hd0).mono ?_
  rintro e w_4 ⟨rfl, hb⟩
  clear cA0 cA1 dA0 dA1 eA
  have GA_4 := Lib.hid (blk_below' hb GA_3.out)
  have GB_4 := Lib.hid (blk_below' hb GB_3.out)
  have IA_4 := Lib.hid (IA_3.out.below hb)
  have IB_4 := Lib.hid (IB_3.out.below hb)
  have B_4 := Lib.hid (below_of B_3.out hb)
  clear GA_3 GB_3 IA_3 IB_3 B_3
  clear hb 
  clear hd0 hk0
  by_cases hk1 : k1 ≤ 1000
  rotate_left
  · have hd : decide ((k1 : Int) ≤ 1000) = false := decide_eq_false (by omega)
    obtain ⟨cB0, cB1, dB0, dB1, eB⟩ := blk2 GB_4.out
    go_wp2_with fail
    refine (shortF _ _ _ _ _ false hd).mono ?_
    rintro e w_5 ⟨rfl, hb⟩
    clear cB0 cB1 dB0 dB1 eB
    have GA_5 := Lib.hid (blk_below' hb GA_4.out)
    have GB_5 := Lib.hid (blk_below' hb GB_4.out)
    have IA_5 := Lib.hid (IA_4.out.below hb)
    have IB_5 := Lib.hid (IB_4.out.below hb)
    have B_5 := Lib.hid (below_of B_4.out hb)
    clear GA_4 GB_4 IA_4 IB_4 B_4
    clear hb 
    clear hd
    go_wp2
    go_ret
    exact ⟨rfl, B_5.out⟩
  have hd1 : decide ((k1 : Int) ≤ 1000) = true := decide_eq_true (by omega)
  have SH1 := Lib.hid (IB_4.out.short hk1)
  obtain ⟨cB0, cB1, dB0, dB1, eB⟩ := blk2 GB_4.out
  go_wp2_with fail
  refine (shortF _ _ _ _ _ true hd1).mono ?_
  rintro e w_5 ⟨rfl, hb⟩
  clear cB0 cB1 dB0 dB1 eB
  have GA_5 := Lib.hid (blk_below' hb GA_4.out)
  have GB_5 := Lib.hid (blk_below' hb GB_4.out)
  have IA_5 := Lib.hid (IA_4.out.below hb)
  have IB_5 := Lib.hid (IB_4.out.below hb)
  have B_5 := Lib.hid (below_of B_4.out hb)
  clear GA_4 GB_4 IA_4 IB_4 B_4
  clear hb 
  clear hd1 hk1
  have hy0 := HY0.out
  have DB := Lib.hid (div_bounds SH0.out SH1.out hy0)
  have DN := Lib.hid (dvs_bounds (div_bounds SH0.out SH1.out hy0).1 (div_bounds SH0.out SH1.out hy0).2.1 hy0)
  have CA := Lib.hid (cut_again x y); have EA := Lib.hid (e_again x y)
  have BA : Hid ((qC x y * y + rC x y).natAbs < Big) := Lib.hid (by rw [CA.out]; exact DB.out.1)
  have BE : Hid ((qE x y * y + rE x y).natAbs < Big) := Lib.hid (by rw [EA.out]; exact DB.out.1)
  have ZA : Hid (zcmp (qC x y * y + rC x y) x = 0) := Lib.hid (zcmp_eq CA.out)
  have ZE : Hid (zcmp (qE x y * y + rE x y) x = 0) := Lib.hid (zcmp_eq EA.out)
  have OY0 := zcmp_ne' hy0
  obtain ⟨oy, hoy⟩ : ∃ o, zcmp y 0 = o := ⟨_, rfl⟩
  rw [hoy] at OY0
  have SY := Lib.hid hoy
  clear SH0 SH1 hoy hy0
  obtain ⟨cA0, cA1, dA0, dA1, eA⟩ := blk2 GA_5.out
  obtain ⟨cB0, cB1, dB0, dB1, eB⟩ := blk2 GB_5.out
  go_wp2_with fail
  refine (quoF _ _ x y _ IA_5.out IB_5.out DB.out.1 DB.out.2.1 HY0.out).mono ?_
  rintro e w_6 ⟨nQ, aQ, kQ, cQ, nR, aR, kR, cR, rfl, iQ, iR, hb⟩
  clear cA0 cA1 dA0 dA1 eA cB0 cB1 dB0 dB1 eB
  have GA_6 := Lib.hid (blk_below' hb GA_5.out)
  have GB_6 := Lib.hid (blk_below' hb GB_5.out)
  have IA_6 := Lib.hid (IA_5.out.below hb)
  have IB_6 := Lib.hid (IB_5.out.below hb)
  have B_6 := Lib.hid (below_of B_5.out hb)
  clear GA_5 GB_5 IA_5 IB_5 B_5
  have JQ_6 := Lib.hid iQ
  have JR_6 := Lib.hid iR
  clear hb iQ iR
  obtain ⟨V_7, eV, hV0, hV1, belV, hszV⟩ := alloc2 w_6 (Obj.cells #[Value.bool nQ, Value.slice aQ kQ cQ] 25) (Obj.cells #[Value.bool nR, Value.slice aR kR cR] 25)
  have GA_8 := Lib.hid (blk_below' belV GA_6.out)
  have GB_8 := Lib.hid (blk_below' belV GB_6.out)
  have IA_8 := Lib.hid (IA_6.out.below belV)
  have IB_8 := Lib.hid (IB_6.out.below belV)
  have JQ_8 := Lib.hid (JQ_6.out.below belV)
  have JR_8 := Lib.hid (JR_6.out.below belV)
  have B_8 := Lib.hid (below_of B_6.out belV)
  clear GA_6 GB_6 IA_6 IB_6 JQ_6 JR_6 B_6
  have GQ_8 : Hid (V_7.heap[w_6.heap.size]? = some (Obj.cells #[Value.bool nQ, Value.slice aQ kQ cQ] 25)) := Lib.hid hV0
  have GR_8 : Hid (V_7.heap[w_6.heap.size + 1]? = some (Obj.cells #[Value.bool nR, Value.slice aR kR cR] 25)) := Lib.hid hV1
  clear belV hszV hV0 hV1
  obtain ⟨cA0, cA1, dA0, dA1, eA⟩ := blk2 GA_8.out
  obtain ⟨cB0, cB1, dB0, dB1, eB⟩ := blk2 GB_8.out
  go_wp2_with fail
  clear eV
  refine (divF _ _ x y _ IA_8.out IB_8.out DB.out.1 DB.out.2.1 HY0.out).mono ?_
  rintro e w_9 ⟨nP, aP, kP, cP, nS, aS, kS, cS, rfl, iP, iS, hb⟩
  clear cA0 cA1 dA0 dA1 eA cB0 cB1 dB0 dB1 eB
  have GA_9 := Lib.hid (blk_below' hb GA_8.out)
  have GB_9 := Lib.hid (blk_below' hb GB_8.out)
  have GQ_9 := Lib.hid (blk_below' hb GQ_8.out)
  have GR_9 := Lib.hid (blk_below' hb GR_8.out)
  have IA_9 := Lib.hid (IA_8.out.below hb)
  have IB_9 := Lib.hid (IB_8.out.below hb)
  have JQ_9 := Lib.hid (JQ_8.out.below hb)
  have JR_9 := Lib.hid (JR_8.out.below hb)
  have B_9 := Lib.hid (below_of B_8.out hb)
  clear GA_8 GB_8 GQ_8 GR_8 IA_8 IB_8 JQ_8 JR_8 B_8
  have JP_9 := Lib.hid iP
  have JS_9 := Lib.hid iS
  clear hb iP iS
  obtain ⟨V_10, eV, hV0, hV1, belV, hszV⟩ := alloc2 w_9 (Obj.cells #[Value.bool nP, Value.slice aP kP cP] 25) (Obj.cells #[Value.bool nS, Value.slice aS kS cS] 25)
  have GA_11 := Lib.hid (blk_below' belV GA_9.out)
  have GB_11 := Lib.hid (blk_below' belV GB_9.out)
  have GQ_11 := Lib.hid (blk_below' belV GQ_9.out)
  have GR_11 := Lib.hid (blk_below' belV GR_9.out)
  have IA_11 := Lib.hid (IA_9.out.below belV)
  have IB_11 := Lib.hid (IB_9.out.below belV)
  have JQ_11 := Lib.hid (JQ_9.out.below belV)
  have JR_11 := Lib.hid (JR_9.out.below belV)
  have JP_11 := Lib.hid (JP_9.out.below belV)
  have JS_11 := Lib.hid (JS_9.out.below belV)
  have B_11 := Lib.hid (below_of B_9.out belV)
  clear GA_9 GB_9 GQ_9 GR_9 IA_9 IB_9 JQ_9 JR_9 JP_9 JS_9 B_9
  have GP_11 : Hid (V_10.heap[w_9.heap.size]? = some (Obj.cells #[Value.bool nP, Value.slice aP kP cP] 25)) := Lib.hid hV0
  have GS_11 : Hid (V_10.heap[w_9.heap.size + 1]? = some (Obj.cells #[Value.bool nS, Value.slice aS kS cS] 25)) := Lib.hid hV1
  clear belV hszV hV0 hV1
  obtain ⟨cB0, cB1, dB0, dB1, eB⟩ := blk2 GB_11.out
  go_wp2_with fail
  clear eV
  refine (signF _ y _ _ IB_11.out SY.out).mono ?_
  rintro e w_12 ⟨rfl, hb⟩
  clear cB0 cB1 dB0 dB1 eB
  have GA_12 := Lib.hid (blk_below' hb GA_11.out)
  have GB_12 := Lib.hid (blk_below' hb GB_11.out)
  have GQ_12 := Lib.hid (blk_below' hb GQ_11.out)
  have GR_12 := Lib.hid (blk_below' hb GR_11.out)
  have GP_12 := Lib.hid (blk_below' hb GP_11.out)
  have GS_12 := Lib.hid (blk_below' hb GS_11.out)
  have IA_12 := Lib.hid (IA_11.out.below hb)
  have IB_12 := Lib.hid (IB_11.out.below hb)
  have JQ_12 := Lib.hid (JQ_11.out.below hb)
  have JR_12 := Lib.hid (JR_11.out.below hb)
  have JP_12 := Lib.hid (JP_11.out.below hb)
  have JS_12 := Lib.hid (JS_11.out.below hb)
  have B_12 := Lib.hid (below_of B_11.out hb)
  clear GA_11 GB_11 GQ_11 GR_11 GP_11 GS_11 IA_11 IB_11 JQ_11 JR_11 JP_11 JS_11 B_11
  clear hb 
  obtain ⟨cQ0, cQ1, dQ0, dQ1, eQ⟩ := blk2 GQ_12.out
  obtain ⟨cB0, cB1, dB0, dB1, eB⟩ := blk2 GB_12.out
  go_wp2_with fail
  refine (mulF _ _ (qC x y) y _ JQ_12.out.2 IB_12.out DB.out.2.2.1).mono ?_
  rintro e w_13 ⟨nX, aX, kX, cX, rfl, iX, hb⟩
  clear cQ0 cQ1 dQ0 dQ1 eQ cB0 cB1 dB0 dB1 eB
  have GA_13 := Lib.hid (blk_below' hb GA_12.out)
  have GB_13 := Lib.hid (blk_below' hb GB_12.out)
  have GQ_13 := Lib.hid (blk_below' hb GQ_12.out)
  have GR_13 := Lib.hid (blk_below' hb GR_12.out)
  have GP_13 := Lib.hid (blk_below' hb GP_12.out)
  have GS_13 := Lib.hid (blk_below' hb GS_12.out)
  have IA_13 := Lib.hid (IA_12.out.below hb)
  have IB_13 := Lib.hid (IB_12.out.below hb)
  have JQ_13 := Lib.hid (JQ_12.out.below hb)
  have JR_13 := Lib.hid (JR_12.out.below hb)
  have JP_13 := Lib.hid (JP_12.out.below hb)
  have JS_13 := Lib.hid (JS_12.out.below hb)
  have B_13 := Lib.hid (below_of B_12.out hb)
  clear GA_12 GB_12 GQ_12 GR_12 GP_12 GS_12 IA_12 IB_12 JQ_12 JR_12 JP_12 JS_12 B_12
  have JX_13 := Lib.hid iX
  clear hb iX
  have NEAX : Hid (w.heap.size ≠ w_13.heap.size) := Lib.hid (Nat.ne_of_lt (Array.getElem?_eq_some_iff.1 GA_13.out).1)
  have NEBX : Hid (w.heap.size + 1 ≠ w_13.heap.size) := Lib.hid (Nat.ne_of_lt (Array.getElem?_eq_some_iff.1 GB_13.out).1)
  have NEQX : Hid (w_6.heap.size ≠ w_13.heap.size) := Lib.hid (Nat.ne_of_lt (Array.getElem?_eq_some_iff.1 GQ_13.out).1)
  have NERX : Hid (w_6.heap.size + 1 ≠ w_13.heap.size) := Lib.hid (Nat.ne_of_lt (Array.getElem?_eq_some_iff.1 GR_13.out).1)
  have NEPX : Hid (w_9.heap.size ≠ w_13.heap.size) := Lib.hid (Nat.ne_of_lt (Array.getElem?_eq_some_iff.1 GP_13.out).1)
  have NESX : Hid (w_9.heap.size + 1 ≠ w_13.heap.size) := Lib.hid (Nat.ne_of_lt (Array.getElem?_eq_some_iff.1 GS_13.out).1)
  have GEX : Hid (w.heap.size ≤ w_13.heap.size) := Lib.hid B_13.out.size
  obtain ⟨V_14, eV, hV0, belV, hszV⟩ := alloc1 w_13 (Obj.cells #[Value.bool nX, Value.slice aX kX cX] 25)
  have GA_15 := Lib.hid (blk_below' belV GA_13.out)
  have GB_15 := Lib.hid (blk_below' belV GB_13.out)
  have GQ_15 := Lib.hid (blk_below' belV GQ_13.out)
  have GR_15 := Lib.hid (blk_below' belV GR_13.out)
  have GP_15 := Lib.hid (blk_below' belV GP_13.out)
  have GS_15 := Lib.hid (blk_below' belV GS_13.out)
  have IA_15 := Lib.hid (IA_13.out.below belV)
  have IB_15 := Lib.hid (IB_13.out.below belV)
  have JQ_15 := Lib.hid (JQ_13.out.below belV)
  have JR_15 := Lib.hid (JR_13.out.below belV)
  have JP_15 := Lib.hid (JP_13.out.below belV)
  have JS_15 := Lib.hid (JS_13.out.below belV)
  have JX_15 := Lib.hid (JX_13.out.below belV)
  have B_15 := Lib.hid (below_of B_13.out belV)
  clear GA_13 GB_13 GQ_13 GR_13 GP_13 GS_13 IA_13 IB_13 JQ_13 JR_13 JP_13 JS_13 JX_13 B_13
  have GX_15 : Hid (V_14.heap[w_13.heap.size]? = some (Obj.cells #[Value.bool nX, Value.slice aX kX cX] 25)) := Lib.hid hV0
  clear belV hszV hV0
  obtain ⟨cX0, cX1, dX0, dX1, eX⟩ := blk2 GX_15.out
  obtain ⟨cR0, cR1, dR0, dR1, eR⟩ := blk2 GR_15.out
  go_wp2_with fail
  clear eV
  refine (addF _ _ (qC x y * y) (rC x y) _ JX_15.out.2 JR_15.out.2 BA.out).mono ?_
  rintro e w_16 ⟨nV, aV, kV, cV, rfl, iV, hb⟩
  clear cX0 cX1 dX0 dX1 eX cR0 cR1 dR0 dR1 eR
  have GA_16 := Lib.hid (blk_below' hb GA_15.out)
  have GB_16 := Lib.hid (blk_below' hb GB_15.out)
  have GQ_16 := Lib.hid (blk_below' hb GQ_15.out)
  have GR_16 := Lib.hid (blk_below' hb GR_15.out)
  have GP_16 := Lib.hid (blk_below' hb GP_15.out)
  have GS_16 := Lib.hid (blk_below' hb GS_15.out)
  have GX_16 := Lib.hid (blk_below' hb GX_15.out)
  have IA_16 := Lib.hid (IA_15.out.below hb)
  have IB_16 := Lib.hid (IB_15.out.below hb)
  have JQ_16 := Lib.hid (JQ_15.out.below hb)
  have JR_16 := Lib.hid (JR_15.out.below hb)
  have JP_16 := Lib.hid (JP_15.out.below hb)
  have JS_16 := Lib.hid (JS_15.out.below hb)
  have B_16 := Lib.hid (below_of B_15.out hb)
  clear GA_15 GB_15 GQ_15 GR_15 GP_15 GS_15 GX_15 IA_15 IB_15 JQ_15 JR_15 JP_15 JS_15 JX_15 B_15
  have JV_16 := Lib.hid iV
  clear hb iV
  obtain ⟨y0, y1, z0, z1, ye⟩ := blk2 GX_16.out
  obtain ⟨V_17, eV⟩ : ∃ V, (w_16.setCell ⟨w_13.heap.size, 0, none⟩ (.bool nV)).setCell ⟨w_13.heap.size, 1, none⟩ (.slice aV kV cV) = V := ⟨_, rfl⟩
  have GA_17 : Hid (V_17.heap[w.heap.size]? = some (Obj.cells #[Value.bool n0, Value.slice a0 k0 c0] 25)) := Lib.hid (by rw [← eV]; exact blk_far2 GA_16.out NEAX.out)
  have GB_17 : Hid (V_17.heap[w.heap.size + 1]? = some (Obj.cells #[Value.bool n1, Value.slice a1 k1 c1] 25)) := Lib.hid (by rw [← eV]; exact blk_far2 GB_16.out NEBX.out)
  have GQ_17 : Hid (V_17.heap[w_6.heap.size]? = some (Obj.cells #[Value.bool nQ, Value.slice aQ kQ cQ] 25)) := Lib.hid (by rw [← eV]; exact blk_far2 GQ_16.out NEQX.out)
  have GR_17 : Hid (V_17.heap[w_6.heap.size + 1]? = some (Obj.cells #[Value.bool nR, Value.slice aR kR cR] 25)) := Lib.hid (by rw [← eV]; exact blk_far2 GR_16.out NERX.out)
  have GP_17 : Hid (V_17.heap[w_9.heap.size]? = some (Obj.cells #[Value.bool nP, Value.slice aP kP cP] 25)) := Lib.hid (by rw [← eV]; exact blk_far2 GP_16.out NEPX.out)
  have GS_17 : Hid (V_17.heap[w_9.heap.size + 1]? = some (Obj.cells #[Value.bool nS, Value.slice aS kS cS] 25)) := Lib.hid (by rw [← eV]; exact blk_far2 GS_16.out NESX.out)
  have GX_17 : Hid (V_17.heap[w_13.heap.size]? = some (Obj.cells #[Value.bool nV, Value.slice aV kV cV] 25)) := Lib.hid (by rw [← eV]; exact blk_set (blk_set GX_16.out rfl) rfl)
  have IA_17 := Lib.hid (eV ▸ (IA_16.out.far (y0 := .bool nV) (y1 := .slice aV kV cV) GX_16.out))
  have IB_17 := Lib.hid (eV ▸ (IB_16.out.far (y0 := .bool nV) (y1 := .slice aV kV cV) GX_16.out))
  have JQ_17 := Lib.hid (eV ▸ (JQ_16.out.far (y0 := .bool nV) (y1 := .slice aV kV cV) GX_16.out))
  have JR_17 := Lib.hid (eV ▸ (JR_16.out.far (y0 := .bool nV) (y1 := .slice aV kV cV) GX_16.out))
  have JP_17 := Lib.hid (eV ▸ (JP_16.out.far (y0 := .bool nV) (y1 := .slice aV kV cV) GX_16.out))
  have JS_17 := Lib.hid (eV ▸ (JS_16.out.far (y0 := .bool nV) (y1 := .slice aV kV cV) GX_16.out))
  have JV_17 := Lib.hid (eV ▸ (JV_16.out.far (y0 := .bool nV) (y1 := .slice aV kV cV) GX_16.out))
  have B_17 : Hid (Below w.heap.size w V_17) := Lib.hid (by rw [← eV]; exact set_below (set_below B_16.out GEX.out) GEX.out)
  clear GA_16 GB_16 GQ_16 GR_16 GP_16 GS_16 GX_16 IA_16 IB_16 JQ_16 JR_16 JP_16 JS_16 JV_16 B_16
  obtain ⟨cP0, cP1, dP0, dP1, eP⟩ := blk2 GP_17.out
  obtain ⟨cB0, cB1, dB0, dB1, eB⟩ := blk2 GB_17.out
  obtain ⟨cX0, cX1, dX0, dX1, eX⟩ := blk2 GX_17.out
  go_wp2_with fail
  clear eV y0 y1 z0 z1 ye
  refine (mulF _ _ (qE x y) y _ JP_17.out.2 IB_17.out DB.out.2.2.2.1).mono ?_
  rintro e w_18 ⟨nY, aY, kY, cY, rfl, iY, hb⟩
  clear cP0 cP1 dP0 dP1 eP cB0 cB1 dB0 dB1 eB cX0 cX1 dX0 dX1 eX
  have GA_18 := Lib.hid (blk_below' hb GA_17.out)
  have GB_18 := Lib.hid (blk_below' hb GB_17.out)
  have GQ_18 := Lib.hid (blk_below' hb GQ_17.out)
  have GR_18 := Lib.hid (blk_below' hb GR_17.out)
  have GP_18 := Lib.hid (blk_below' hb GP_17.out)
  have GS_18 := Lib.hid (blk_below' hb GS_17.out)
  have GX_18 := Lib.hid (blk_below' hb GX_17.out)
  have IA_18 := Lib.hid (IA_17.out.below hb)
  have IB_18 := Lib.hid (IB_17.out.below hb)
  have JQ_18 := Lib.hid (JQ_17.out.below hb)
  have JR_18 := Lib.hid (JR_17.out.below hb)
  have JP_18 := Lib.hid (JP_17.out.below hb)
  have JS_18 := Lib.hid (JS_17.out.below hb)
  have JV_18 := Lib.hid (JV_17.out.below hb)
  have B_18 := Lib.hid (below_of B_17.out hb)
  clear GA_17 GB_17 GQ_17 GR_17 GP_17 GS_17 GX_17 IA_17 IB_17 JQ_17 JR_17 JP_17 JS_17 JV_17 B_17
  have JY_18 := Lib.hid iY
  clear hb iY
  have NEAY : Hid (w.heap.size ≠ w_18.heap.size) := Lib.hid (Nat.ne_of_lt (Array.getElem?_eq_some_iff.1 GA_18.out).1)
  have NEBY : Hid (w.heap.size + 1 ≠ w_18.heap.size) := Lib.hid (Nat.ne_of_lt (Array.getElem?_eq_some_iff.1 GB_18.out).1)
  have NEQY : Hid (w_6.heap.size ≠ w_18.heap.size) := Lib.hid (Nat.ne_of_lt (Array.getElem?_eq_some_iff.1 GQ_18.out).1)
  have NERY : Hid (w_6.heap.size + 1 ≠ w_18.heap.size) := Lib.hid (Nat.ne_of_lt (Array.getElem?_eq_some_iff.1 GR_18.out).1)
  have NEPY : Hid (w_9.heap.size ≠ w_18.heap.size) := Lib.hid (Nat.ne_of_lt (Array.getElem?_eq_some_iff.1 GP_18.out).1)
  have NESY : Hid (w_9.heap.size + 1 ≠ w_18.heap.size) := Lib.hid (Nat.ne_of_lt (Array.getElem?_eq_some_iff.1 GS_18.out).1)
  have NEXY : Hid (w_13.heap.size ≠ w_18.heap.size) := Lib.hid (Nat.ne_of_lt (Array.getElem?_eq_some_iff.1 GX_18.out).1)
  have GEY : Hid (w.heap.size ≤ w_18.heap.size) := Lib.hid B_18.out.size
  obtain ⟨V_19, eV, hV0, belV, hszV⟩ := alloc1 w_18 (Obj.cells #[Value.bool nY, Value.slice aY kY cY] 25)
  have GA_20 := Lib.hid (blk_below' belV GA_18.out)
  have GB_20 := Lib.hid (blk_below' belV GB_18.out)
  have GQ_20 := Lib.hid (blk_below' belV GQ_18.out)
  have GR_20 := Lib.hid (blk_below' belV GR_18.out)
  have GP_20 := Lib.hid (blk_below' belV GP_18.out)
  have GS_20 := Lib.hid (blk_below' belV GS_18.out)
  have GX_20 := Lib.hid (blk_below' belV GX_18.out)
  have IA_20 := Lib.hid (IA_18.out.below belV)
  have IB_20 := Lib.hid (IB_18.out.below belV)
  have JQ_20 := Lib.hid (JQ_18.out.below belV)
  have JR_20 := Lib.hid (JR_18.out.below belV)
  have JP_20 := Lib.hid (JP_18.out.below belV)
  have JS_20 := Lib.hid (JS_18.out.below belV)
  have JV_20 := Lib.hid (JV_18.out.below belV)
  have JY_20 := Lib.hid (JY_18.out.below belV)
  have B_20 := Lib.hid (below_of B_18.out belV)
  clear GA_18 GB_18 GQ_18 GR_18 GP_18 GS_18 GX_18 IA_18 IB_18 JQ_18 JR_18 JP_18 JS_18 JV_18 JY_18 B_18
  have GY_20 : Hid (V_19.heap[w_18.heap.size]? = some (Obj.cells #[Value.bool nY, Value.slice aY kY cY] 25)) := Lib.hid hV0
  clear belV hszV hV0
  obtain ⟨cY0, cY1, dY0, dY1, eY⟩ := blk2 GY_20.out
  obtain ⟨cS0, cS1, dS0, dS1, eS⟩ := blk2 GS_20.out
  go_wp2_with fail
  clear eV
  refine (addF _ _ (qE x y * y) (rE x y) _ JY_20.out.2 JS_20.out.2 BE.out).mono ?_
  rintro e w_21 ⟨nW, aW, kW, cW, rfl, iW, hb⟩
  clear cY0 cY1 dY0 dY1 eY cS0 cS1 dS0 dS1 eS
  have GA_21 := Lib.hid (blk_below' hb GA_20.out)
  have GB_21 := Lib.hid (blk_below' hb GB_20.out)
  have GQ_21 := Lib.hid (blk_below' hb GQ_20.out)
  have GR_21 := Lib.hid (blk_below' hb GR_20.out)
  have GP_21 := Lib.hid (blk_below' hb GP_20.out)
  have GS_21 := Lib.hid (blk_below' hb GS_20.out)
  have GX_21 := Lib.hid (blk_below' hb GX_20.out)
  have GY_21 := Lib.hid (blk_below' hb GY_20.out)
  have IA_21 := Lib.hid (IA_20.out.below hb)
  have IB_21 := Lib.hid (IB_20.out.below hb)
  have JQ_21 := Lib.hid (JQ_20.out.below hb)
  have JR_21 := Lib.hid (JR_20.out.below hb)
  have JP_21 := Lib.hid (JP_20.out.below hb)
  have JS_21 := Lib.hid (JS_20.out.below hb)
  have JV_21 := Lib.hid (JV_20.out.below hb)
  have B_21 := Lib.hid (below_of B_20.out hb)
  clear GA_20 GB_20 GQ_20 GR_20 GP_20 GS_20 GX_20 GY_20 IA_20 IB_20 JQ_20 JR_20 JP_20 JS_20 JV_20 JY_20 B_20
  have JW_21 := Lib.hid iW
  clear hb iW
  obtain ⟨y0, y1, z0, z1, ye⟩ := blk2 GY_21.out
  obtain ⟨V_22, eV⟩ : ∃ V, (w_21.setCell ⟨w_18.heap.size, 0, none⟩ (.bool nW)).setCell ⟨w_18.heap.size, 1, none⟩ (.slice aW kW cW) = V := ⟨_, rfl⟩
  have GA_22 : Hid (V_22.heap[w.heap.size]? = some (Obj.cells #[Value.bool n0, Value.slice a0 k0 c0] 25)) := Lib.hid (by rw [← eV]; exact blk_far2 GA_21.out NEAY.out)
  have GB_22 : Hid (V_22.heap[w.heap.size + 1]? = some (Obj.cells #[Value.bool n1, Value.slice a1 k1 c1] 25)) := Lib.hid (by rw [← eV]; exact blk_far2 GB_21.out NEBY.out)
  have GQ_22 : Hid (V_22.heap[w_6.heap.size]? = some (Obj.cells #[Value.bool nQ, Value.slice aQ kQ cQ] 25)) := Lib.hid (by rw [← eV]; exact blk_far2 GQ_21.out NEQY.out)
  have GR_22 : Hid (V_22.heap[w_6.heap.size + 1]? = some (Obj.cells #[Value.bool nR, Value.slice aR kR cR] 25)) := Lib.hid (by rw [← eV]; exact blk_far2 GR_21.out NERY.out)
  have GP_22 : Hid (V_22.heap[w_9.heap.size]? = some (Obj.cells #[Value.bool nP, Value.slice aP kP cP] 25)) := Lib.hid (by rw [← eV]; exact blk_far2 GP_21.out NEPY.out)
  have GS_22 : Hid (V_22.heap[w_9.heap.size + 1]? = some (Obj.cells #[Value.bool nS, Value.slice aS kS cS] 25)) := Lib.hid (by rw [← eV]; exact blk_far2 GS_21.out NESY.out)
  have GX_22 : Hid (V_22.heap[w_13.heap.size]? = some (Obj.cells #[Value.bool nV, Value.slice aV kV cV] 25)) := Lib.hid (by rw [← eV]; exact blk_far2 GX_21.out NEXY.out)
  have GY_22 : Hid (V_22.heap[w_18.heap.size]? = some (Obj.cells #[Value.bool nW, Value.slice aW kW cW] 25)) := Lib.hid (by rw [← eV]; exact blk_set (blk_set GY_21.out rfl) rfl)
  have IA_22 := Lib.hid (eV ▸ (IA_21.out.far (y0 := .bool nW) (y1 := .slice aW kW cW) GY_21.out))
  have IB_22 := Lib.hid (eV ▸ (IB_21.out.far (y0 := .bool nW) (y1 := .slice aW kW cW) GY_21.out))
  have JQ_22 := Lib.hid (eV ▸ (JQ_21.out.far (y0 := .bool nW) (y1 := .slice aW kW cW) GY_21.out))
  have JR_22 := Lib.hid (eV ▸ (JR_21.out.far (y0 := .bool nW) (y1 := .slice aW kW cW) GY_21.out))
  have JP_22 := Lib.hid (eV ▸ (JP_21.out.far (y0 := .bool nW) (y1 := .slice aW kW cW) GY_21.out))
  have JS_22 := Lib.hid (eV ▸ (JS_21.out.far (y0 := .bool nW) (y1 := .slice aW kW cW) GY_21.out))
  have JV_22 := Lib.hid (eV ▸ (JV_21.out.far (y0 := .bool nW) (y1 := .slice aW kW cW) GY_21.out))
  have JW_22 := Lib.hid (eV ▸ (JW_21.out.far (y0 := .bool nW) (y1 := .slice aW kW cW) GY_21.out))
  have B_22 : Hid (Below w.heap.size w V_22) := Lib.hid (by rw [← eV]; exact set_below (set_below B_21.out GEY.out) GEY.out)
  clear GA_21 GB_21 GQ_21 GR_21 GP_21 GS_21 GX_21 GY_21 IA_21 IB_21 JQ_21 JR_21 JP_21 JS_21 JV_21 JW_21 B_21
  obtain ⟨cX0, cX1, dX0, dX1, eX⟩ := blk2 GX_22.out
  obtain ⟨cA0, cA1, dA0, dA1, eA⟩ := blk2 GA_22.out
  go_wp2_with fail
  clear eV y0 y1 z0 z1 ye
  refine (cmpF _ _ (qC x y * y + rC x y) x 0 _ JV_22.out.2 IA_22.out ZA.out).mono ?_
  rintro e w_23 ⟨rfl, hb⟩
  clear cX0 cX1 dX0 dX1 eX cA0 cA1 dA0 dA1 eA
  have GA_23 := Lib.hid (blk_below' hb GA_22.out)
  have GB_23 := Lib.hid (blk_below' hb GB_22.out)
  have GQ_23 := Lib.hid (blk_below' hb GQ_22.out)
  have GR_23 := Lib.hid (blk_below' hb GR_22.out)
  have GP_23 := Lib.hid (blk_below' hb GP_22.out)
  have GS_23 := Lib.hid (blk_below' hb GS_22.out)
  have GX_23 := Lib.hid (blk_below' hb GX_22.out)
  have GY_23 := Lib.hid (blk_below' hb GY_22.out)
  have IA_23 := Lib.hid (IA_22.out.below hb)
  have IB_23 := Lib.hid (IB_22.out.below hb)
  have JQ_23 := Lib.hid (JQ_22.out.below hb)
  have JR_23 := Lib.hid (JR_22.out.below hb)
  have JP_23 := Lib.hid (JP_22.out.below hb)
  have JS_23 := Lib.hid (JS_22.out.below hb)
  have JV_23 := Lib.hid (JV_22.out.below hb)
  have JW_23 := Lib.hid (JW_22.out.below hb)
  have B_23 := Lib.hid (below_of B_22.out hb)
  clear GA_22 GB_22 GQ_22 GR_22 GP_22 GS_22 GX_22 GY_22 IA_22 IB_22 JQ_22 JR_22 JP_22 JS_22 JV_22 JW_22 B_22
  clear hb 
  obtain ⟨cY0, cY1, dY0, dY1, eY⟩ := blk2 GY_23.out
  obtain ⟨cA0, cA1, dA0, dA1, eA⟩ := blk2 GA_23.out
  go_wp2_with fail
  refine (cmpF _ _ (qE x y * y + rE x y) x 0 _ JW_23.out.2 IA_23.out ZE.out).mono ?_
  rintro e w_24 ⟨rfl, hb⟩
  clear cY0 cY1 dY0 dY1 eY cA0 cA1 dA0 dA1 eA
  have GA_24 := Lib.hid (blk_below' hb GA_23.out)
  have GB_24 := Lib.hid (blk_below' hb GB_23.out)
  have GQ_24 := Lib.hid (blk_below' hb GQ_23.out)
  have GR_24 := Lib.hid (blk_below' hb GR_23.out)
  have GP_24 := Lib.hid (blk_below' hb GP_23.out)
  have GS_24 := Lib.hid (blk_below' hb GS_23.out)
  have IA_24 := Lib.hid (IA_23.out.below hb)
  have IB_24 := Lib.hid (IB_23.out.below hb)
  have JQ_24 := Lib.hid (JQ_23.out.below hb)
  have JR_24 := Lib.hid (JR_23.out.below hb)
  have JP_24 := Lib.hid (JP_23.out.below hb)
  have JS_24 := Lib.hid (JS_23.out.below hb)
  have B_24 := Lib.hid (below_of B_23.out hb)
  clear GA_23 GB_23 GQ_23 GR_23 GP_23 GS_23 GX_23 GY_23 IA_23 IB_23 JQ_23 JR_23 JP_23 JS_23 JV_23 JW_23 B_23
  clear hb 
  clear GEX GEY NEAX NEAY NEBX NEBY NEPX NEPY NEQX NEQY NERX NERY NESX NESY NEXY
  obtain ⟨cR0, cR1, dR0, dR1, eR⟩ := blk2 GR_24.out
  obtain ⟨cA0, cA1, dA0, dA1, eA⟩ := blk2 GA_24.out
  obtain ⟨cB0, cB1, dB0, dB1, eB⟩ := blk2 GB_24.out
  obtain ⟨cS0, cS1, dS0, dS1, eS⟩ := blk2 GS_24.out
  go_wp2_with fail
  have STAY : Hid (∀ w', Below w_24.heap.size w_24 w' → w'.cell? ⟨w_6.heap.size + 1, 0, none⟩ = some (.bool nR) ∧ w'.cell? ⟨w_6.heap.size + 1, 1, none⟩ = some (.slice aR kR cR) ∧ w'.cell? ⟨w.heap.size, 0, none⟩ = some (.bool n0) ∧ w'.cell? ⟨w.heap.size, 1, none⟩ = some (.slice a0 k0 c0) ∧ w'.cell? ⟨w.heap.size + 1, 0, none⟩ = some (.bool n1) ∧ w'.cell? ⟨w.heap.size + 1, 1, none⟩ = some (.slice a1 k1 c1) ∧ w'.cell? ⟨w_9.heap.size + 1, 0, none⟩ = some (.bool nS) ∧ w'.cell? ⟨w_9.heap.size + 1, 1, none⟩ = some (.slice aS kS cS) ∧ Below w_24.heap.size w_24 w') :=
    Lib.hid (fun w' h => ⟨cell_to h cR0 eR, cell_to h cR1 eR, cell_to h cA0 eA, cell_to h cA1 eA, cell_to h cB0 eB, cell_to h cB1 eB, cell_to h cS0 eS, cell_to h cS1 eS, h⟩)
  have hB0 := (Below.refl w_24.heap.size w_24).drew
  clear cR0 cR1 dR0 dR1 cA0 cA1 dA0 dA1 cB0 cB1 dB0 dB1 cS0 cS1 dS0 dS1
  go_cut [159] (fun s wx => s = .bool false ∧ Below w_24.heap.size w_24 wx)
  case first =>
    clear GQ_24 GP_24 JQ_24 JP_24
    go_region_held3 (fun w' => w'.cell? ⟨w_6.heap.size + 1, 0, none⟩ = some (.bool nR) ∧ w'.cell? ⟨w_6.heap.size + 1, 1, none⟩ = some (.slice aR kR cR) ∧ w'.cell? ⟨w.heap.size, 0, none⟩ = some (.bool n0) ∧ w'.cell? ⟨w.heap.size, 1, none⟩ = some (.slice a0 k0 c0) ∧ w'.cell? ⟨w.heap.size + 1, 0, none⟩ = some (.bool n1) ∧ w'.cell? ⟨w.heap.size + 1, 1, none⟩ = some (.slice a1 k1 c1) ∧ w'.cell? ⟨w_9.heap.size + 1, 0, none⟩ = some (.bool nS) ∧ w'.cell? ⟨w_9.heap.size + 1, 1, none⟩ = some (.slice aS kS cS) ∧ Below w_24.heap.size w_24 w')
      ((try go_split_ands; refine STAY.out _ ?_; first | assumption | exact below_to (by assumption) (by assumption)))
      (first
      | (go_at_call 15; go_split_ands; first
        | ((with_reducible refine Calls.mono (absF (.agg #[.bool nR, .slice aR kR cR]) (rC x y) _ ?_ DN.out.2.1) ?_); (exact JR_24.out.2.below (by assumption)); rintro e w7 ⟨q7n, q7a, q7k, q7c, rfl, i7, b7⟩)
        | ((with_reducible refine Calls.mono (absF (.agg #[.bool n1, .slice a1 k1 c1]) y _ ?_ DB.out.2.1) ?_); (exact IB_24.out.below (by assumption)); rintro e w8 ⟨q8n, q8a, q8k, q8c, rfl, i8, b8⟩; (try have i7' := i7.below b8)))
      | (go_at_call 14; go_split_ands; first
        | ((with_reducible refine Calls.mono (cmpF (.agg #[.bool nS, .slice aS kS cS]) _ (rE x y) (y.natAbs : Int) (-1) _ ?_ ?_ CS.out) ?_); (exact JS_24.out.2.below (by assumption)); (exact i8.2); rintro e w10 ⟨rfl, b10⟩)
        | (refine Calls.mono (cmpF _ _ ((rC x y).natAbs : Int) (y.natAbs : Int) (-1) _ ?_ ?_ CR.out) ?_; (exact i7'.2); (exact i8.2); rintro e w9 ⟨rfl, b9⟩; clear i7 i7' i8))
      | (go_at_call 11; go_split_ands; first
        | ((with_reducible refine Calls.mono (signF (.agg #[.bool nR, .slice aR kR cR]) (rC x y) _ _ ?_ SR.out) ?_); (exact JR_24.out.2.below (by assumption)); rintro e w11 ⟨rfl, b11⟩)
        | ((with_reducible refine Calls.mono (signF (.agg #[.bool n0, .slice a0 k0 c0]) x _ _ ?_ SA.out) ?_); (exact IA_24.out.below (by assumption)); rintro e w12 ⟨rfl, b12⟩)
        | ((with_reducible refine Calls.mono (signF (.agg #[.bool nS, .slice aS kS cS]) (rE x y) _ _ ?_ SS.out) ?_); (exact JS_24.out.2.below (by assumption)); rintro e w13 ⟨rfl, b13⟩)))
    all_goals
      (go_wp2_with fail
       go_meet
       exact ⟨rfl, by first | assumption | (go_split_ands; assumption)⟩)
  case rest =>
    obtain ⟨rfl, hBT⟩ := hcut
    clear STAY hB0 eR eA eB eS
    clear GR_24
    clear GS_24
    clear GA_24
    clear GB_24
    clear JR_24
    clear JS_24
    clear IA_24
    clear IB_24
    have GQ_25 := Lib.hid (blk_below' hBT GQ_24.out)
    have GP_25 := Lib.hid (blk_below' hBT GP_24.out)
    have JQ_25 := Lib.hid (JQ_24.out.below hBT)
    have JP_25 := Lib.hid (JP_24.out.below hBT)
    have B_25 := Lib.hid (below_of B_24.out hBT)
    clear GQ_24 GP_24 JQ_24 JP_24 B_24
    clear hBT
    obtain ⟨cQ0, cQ1, dQ0, dQ1, eQ⟩ := blk2 GQ_25.out
    obtain ⟨cP0, cP1, dP0, dP1, eP⟩ := blk2 GP_25.out
    go_wp2_with fail
    refine (subF _ _ (qC x y) (qE x y) _ JQ_25.out.2 JP_25.out.2 DB.out.2.2.2.2).mono ?_
    rintro e w_26 ⟨nD, aD, kD, cD, rfl, iD, hb⟩
    clear cQ0 cQ1 dQ0 dQ1 eQ cP0 cP1 dP0 dP1 eP
    have GQ_26 := Lib.hid (blk_below' hb GQ_25.out)
    have GP_26 := Lib.hid (blk_below' hb GP_25.out)
    have JQ_26 := Lib.hid (JQ_25.out.below hb)
    have JP_26 := Lib.hid (JP_25.out.below hb)
    have B_26 := Lib.hid (below_of B_25.out hb)
    clear GQ_25 GP_25 JQ_25 JP_25 B_25
    have JD_26 := Lib.hid iD
    clear hb iD
    obtain ⟨V_27, eV, hV0, belV, hszV⟩ := alloc1 w_26 (Obj.cells #[Value.bool nD, Value.slice aD kD cD] 25)
    have GQ_28 := Lib.hid (blk_below' belV GQ_26.out)
    have GP_28 := Lib.hid (blk_below' belV GP_26.out)
    have JQ_28 := Lib.hid (JQ_26.out.below belV)
    have JP_28 := Lib.hid (JP_26.out.below belV)
    have JD_28 := Lib.hid (JD_26.out.below belV)
    have B_28 := Lib.hid (below_of B_26.out belV)
    clear GQ_26 GP_26 JQ_26 JP_26 JD_26 B_26
    have GD_28 : Hid (V_27.heap[w_26.heap.size]? = some (Obj.cells #[Value.bool nD, Value.slice aD kD cD] 25)) := Lib.hid hV0
    clear belV hszV hV0
    obtain ⟨cD0, cD1, dD0, dD1, eD⟩ := blk2 GD_28.out
    go_wp2_with fail
    clear eV
    refine (absF _ (qC x y - qE x y) _ JD_28.out.2 DB.out.2.2.2.2).mono ?_
    rintro e w_29 ⟨nE, aE, kE, cE, rfl, iE, hb⟩
    clear cD0 cD1 dD0 dD1 eD
    have GQ_29 := Lib.hid (blk_below' hb GQ_28.out)
    have GP_29 := Lib.hid (blk_below' hb GP_28.out)
    have GD_29 := Lib.hid (blk_below' hb GD_28.out)
    have JQ_29 := Lib.hid (JQ_28.out.below hb)
    have JP_29 := Lib.hid (JP_28.out.below hb)
    have JD_29 := Lib.hid (JD_28.out.below hb)
    have B_29 := Lib.hid (below_of B_28.out hb)
    clear GQ_28 GP_28 GD_28 JQ_28 JP_28 JD_28 B_28
    have JE_29 := Lib.hid iE
    clear hb iE
    go_wp2_with fail
    refine (ofF 1 _ (by omega) (by omega)).mono ?_
    rintro e w_30 ⟨nF, aF, kF, cF, rfl, iF, hb⟩
    have GQ_30 := Lib.hid (blk_below' hb GQ_29.out)
    have GP_30 := Lib.hid (blk_below' hb GP_29.out)
    have GD_30 := Lib.hid (blk_below' hb GD_29.out)
    have JQ_30 := Lib.hid (JQ_29.out.below hb)
    have JP_30 := Lib.hid (JP_29.out.below hb)
    have JD_30 := Lib.hid (JD_29.out.below hb)
    have JE_30 := Lib.hid (JE_29.out.below hb)
    have B_30 := Lib.hid (below_of B_29.out hb)
    clear GQ_29 GP_29 GD_29 JQ_29 JP_29 JD_29 JE_29 B_29
    have JF_30 := Lib.hid iF
    clear hb iF
    go_wp2_with fail
    refine (cmpF _ _ ((qC x y - qE x y).natAbs : Int) 1 _ _ JE_30.out.2 JF_30.out.2 CD.out).mono ?_
    rintro e w_31 ⟨rfl, hb⟩
    have GQ_31 := Lib.hid (blk_below' hb GQ_30.out)
    have GP_31 := Lib.hid (blk_below' hb GP_30.out)
    have GD_31 := Lib.hid (blk_below' hb GD_30.out)
    have JQ_31 := Lib.hid (JQ_30.out.below hb)
    have JP_31 := Lib.hid (JP_30.out.below hb)
    have JD_31 := Lib.hid (JD_30.out.below hb)
    have JE_31 := Lib.hid (JE_30.out.below hb)
    have JF_31 := Lib.hid (JF_30.out.below hb)
    have B_31 := Lib.hid (below_of B_30.out hb)
    clear GQ_30 GP_30 GD_30 JQ_30 JP_30 JD_30 JE_30 JF_30 B_30
    clear hb 
    go_wp2
    go_ret
    exact ⟨rfl, B_31.out⟩
end Go.Proofs.YtkccjddmmjdceaaDoor
