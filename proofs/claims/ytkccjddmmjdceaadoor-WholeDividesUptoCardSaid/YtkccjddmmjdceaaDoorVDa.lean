/- WholeDivides: by nought -/
import Derived.Test.YtkccjddmmjdceaaDoorVA
import Derived.Deep.RegionHeld3
import Derived.Deep.RegionWith
set_option linter.unusedVariables false
set_option linter.unusedSimpArgs false
namespace Go.Proofs.YtkccjddmmjdceaaDoor
open Go.RowKit Mth

/-- what lies behind two allocs -/
theorem alloc_snd (w : World) (o o' : Obj) : ((w.alloc o).alloc o').heap[w.heap.size + 1]? = some o' := by
  have h := heap_alloc_new (w.alloc o) o'
  rwa [show (w.alloc o).heap.size = w.heap.size + 1 by simp] at h
theorem zcmp_ne' {y : Int} (h : y ≠ 0) : ((zcmp y 0 : Int) == 0) = false := by
  rcases (show y < 0 ∨ 0 < y by omega) with h | h
  · rw [zcmp_lt h]; rfl
  · rw [zcmp_gt h]; rfl
/-- how what is left lies: nothing, above 0, below 0 -/
theorem div_way (x : Int) {y : Int} (h0 : y ≠ 0) :
    (zcmp (rC x y) 0 = 0 ∧ zcmp x 0 = zcmp x 0 ∧ zcmp (rE x y) 0 = 0 ∧ zcmp ((rC x y).natAbs : Int) (y.natAbs : Int) = -1 ∧ zcmp (rE x y) (y.natAbs : Int) = -1 ∧ zcmp ((qC x y - qE x y).natAbs : Int) 1 = -1) ∨
    (zcmp (rC x y) 0 = 1 ∧ zcmp x 0 = 1 ∧ zcmp (rE x y) 0 = 1 ∧ zcmp ((rC x y).natAbs : Int) (y.natAbs : Int) = -1 ∧ zcmp (rE x y) (y.natAbs : Int) = -1 ∧ zcmp ((qC x y - qE x y).natAbs : Int) 1 = -1) ∨
    (zcmp (rC x y) 0 = -1 ∧ zcmp x 0 = -1 ∧ zcmp (rE x y) 0 = 1 ∧ zcmp ((rC x y).natAbs : Int) (y.natAbs : Int) = -1 ∧ zcmp (rE x y) (y.natAbs : Int) = -1 ∧ zcmp ((qC x y - qE x y).natAbs : Int) 1 = 0) := by
  have hb := rC_bounds (a := x) h0
  have he := rE_bounds (a := x) h0
  have hc := cut_again x y
  rcases (show rC x y = 0 ∨ 0 < rC x y ∨ rC x y < 0 by omega) with h | h | h
  · have e1 : qE x y = qC x y := by unfold qE; rw [if_neg (by omega)]
    have e2 : rE x y = rC x y := by unfold rE; rw [if_neg (by omega)]
    exact .inl ⟨zcmp_eq h, rfl, zcmp_eq (by omega), zcmp_lt (by omega), zcmp_lt he.2, zcmp_lt (by omega)⟩
  · have e1 : qE x y = qC x y := by unfold qE; rw [if_neg (by omega)]
    have e2 : rE x y = rC x y := by unfold rE; rw [if_neg (by omega)]
    have hx := rC_pos h
    have hx0 : x ≠ 0 := by
      rintro rfl
      have : rC 0 y = 0 := by unfold rC sg; simp
      omega
    exact .inr (.inl ⟨zcmp_gt h, zcmp_gt (by omega), zcmp_gt (by omega), zcmp_lt (by omega), zcmp_lt he.2, zcmp_lt (by omega)⟩)
  · have e1 : (qC x y - qE x y).natAbs = 1 := by unfold qE; rw [if_pos h]; split <;> omega
    have e2 : rE x y = rC x y + (y.natAbs : Int) := by unfold rE; rw [if_pos h]
    exact .inr (.inr ⟨zcmp_lt h, zcmp_lt (rC_neg h), zcmp_gt (by omega), zcmp_lt (by omega), zcmp_lt he.2, zcmp_eq (by omega)⟩)

set_option maxHeartbeats 16000000 in
set_option maxRecDepth 100000 in
theorem wdiv_zero (w : World) (v0 v1 : Value) (x : Int) (hz : TZ10 w) (h0 : IntV w v0 x) (h1 : IntV w v1 0) :
    Calls Tryd.prog 4 #[v0, v1] w fun e w' => e = .returned (.bool true) ∧ Below w.heap.size w w' := by
  have HZ := Lib.hid hz
  obtain ⟨n0, a0, k0, c0, rfl⟩ := h0.shape
  obtain ⟨n1, a1, k1, c1, rfl⟩ := h1.shape
  have IA_0 := Lib.hid h0; have IB_0 := Lib.hid h1
  clear hz h0 h1
  go_enter Tryd.func4, Tryd.ntmps4
  have B_0 := Lib.hid (Below.refl w.heap.size w)
  obtain ⟨V_1, eV, hV0, hV1, belV, hszV⟩ := alloc2 w (Obj.cells #[Value.bool n0, Value.slice a0 k0 c0] 25) (Obj.cells #[Value.bool n1, Value.slice a1 k1 c1] 25)
  have IA_2 := Lib.hid (IA_0.out.below belV)
  have IB_2 := Lib.hid (IB_0.out.below belV)
  have B_2 := Lib.hid (below_of B_0.out belV)
  clear IA_0 IB_0 B_0
  have GA_2 : Hid (V_1.heap[w.heap.size]? = some (Obj.cells #[Value.bool n0, Value.slice a0 k0 c0] 25)) := Lib.hid hV0
  have GB_2 : Hid (V_1.heap[w.heap.size + 1]? = some (Obj.cells #[Value.bool n1, Value.slice a1 k1 c1] 25)) := Lib.hid hV1
  clear belV hszV hV0 hV1
  go_wp2_with fail
  clear eV
  refine (awake_any _ (HZ.out.below B_2.out)).mono ?_
  rintro e w_3 ⟨rfl, hb⟩
  have GA_3 := Lib.hid (blk_below' hb GA_2.out)
  have GB_3 := Lib.hid (blk_below' hb GB_2.out)
  have IA_3 := Lib.hid (IA_2.out.below hb)
  have IB_3 := Lib.hid (IB_2.out.below hb)
  have B_3 := Lib.hid (below_of B_2.out hb)
  clear GA_2 GB_2 IA_2 IB_2 B_2
  clear hb 
  by_cases hk0 : k0 ≤ 1000
  rotate_left
  · have hd : decide ((k0 : Int) ≤ 1000) = false := decide_eq_false (by omega)
    obtain ⟨cA0, cA1, dA0, dA1, eA⟩ := blk2 GA_3.out
    go_wp2_with fail
    refine (shortF _ _ _ _ _ false hd).mono ?_
    rintro e w_4 ⟨rfl, hb⟩
    clear cA0 cA1 dA0 dA1 eA
    have GA_4 := Lib.hid (blk_below' hb GA_3.out)
    have GB_4 := Lib.hid (blk_below' hb GB_3.out)
    have IA_4 := Lib.hid (IA_3.out.below hb)
    have IB_4 := Lib.hid (IB_3.out.below hb)
    have B_4 := Lib.hid (below_of B_3.out hb)
    clear GA_3 GB_3 IA_3 IB_3 B_3
    clear hb 
    clear hd
    go_wp2
    go_ret
    exact ⟨rfl, B_4.out⟩
  have hd0 : decide ((k0 : Int) ≤ 1000) = true := decide_eq_true (by omega)
  have SH0 := Lib.hid (IA_3.out.short hk0)
  obtain ⟨cA0, cA1, dA0, dA1, eA⟩ := blk2 GA_3.out
  go_wp2_with fail
  refine (shortF _ _ _ _ _ true hd0).mono ?_
  rintro e w_4 ⟨rfl, hb⟩
  clear cA0 cA1 dA0 dA1 eA
  have GA_4 := Lib.hid (blk_below' hb GA_3.out)
  have GB_4 := Lib.hid (blk_below' hb GB_3.out)
  have IA_4 := Lib.hid (IA_3.out.below hb)
  have IB_4 := Lib.hid (IB_3.out.below hb)
  have B_4 := Lib.hid (below_of B_3.out hb)
  clear GA_3 GB_3 IA_3 IB_3 B_3
  clear hb 
  clear hd0 hk0
  by_cases hk1 : k1 ≤ 1000
  rotate_left
  · have hd : decide ((k1 : Int) ≤ 1000) = false := decide_eq_false (by omega)
    obtain ⟨cB0, cB1, dB0, dB1, eB⟩ := blk2 GB_4.out
    go_wp2_with fail
    refine (shortF _ _ _ _ _ false hd).mono ?_
    rintro e w_5 ⟨rfl, hb⟩
    clear cB0 cB1 dB0 dB1 eB
    have GA_5 := Lib.hid (blk_below' hb GA_4.out)
    have GB_5 := Lib.hid (blk_below' hb GB_4.out)
    have IA_5 := Lib.hid (IA_4.out.below hb)
    have IB_5 := Lib.hid (IB_4.out.below hb)
    have B_5 := Lib.hid (below_of B_4.out hb)
    clear GA_4 GB_4 IA_4 IB_4 B_4
    clear hb 
    clear hd
    go_wp2
    go_ret
    exact ⟨rfl, B_5.out⟩
  have hd1 : decide ((k1 : Int) ≤ 1000) = true := decide_eq_true (by omega)
  have SH1 := Lib.hid (IB_4.out.short hk1)
  obtain ⟨cB0, cB1, dB0, dB1, eB⟩ := blk2 GB_4.out
  go_wp2_with fail
  refine (shortF _ _ _ _ _ true hd1).mono ?_
  rintro e w_5 ⟨rfl, hb⟩
  clear cB0 cB1 dB0 dB1 eB
  have GA_5 := Lib.hid (blk_below' hb GA_4.out)
  have GB_5 := Lib.hid (blk_below' hb GB_4.out)
  have IA_5 := Lib.hid (IA_4.out.below hb)
  have IB_5 := Lib.hid (IB_4.out.below hb)
  have B_5 := Lib.hid (below_of B_4.out hb)
  clear GA_4 GB_4 IA_4 IB_4 B_4
  clear hb 
  clear hd1 hk1
  clear SH0 SH1
  obtain ⟨cA0, cA1, dA0, dA1, eA⟩ := blk2 GA_5.out
  obtain ⟨cB0, cB1, dB0, dB1, eB⟩ := blk2 GB_5.out
  go_wp2_with fail
  refine (quoI_zero _ _ x _ IA_5.out IB_5.out).mono ?_
  rintro e w_6 ⟨rfl, hb⟩
  clear cA0 cA1 dA0 dA1 eA cB0 cB1 dB0 dB1 eB
  have GA_6 := Lib.hid (blk_below' hb GA_5.out)
  have GB_6 := Lib.hid (blk_below' hb GB_5.out)
  have IA_6 := Lib.hid (IA_5.out.below hb)
  have IB_6 := Lib.hid (IB_5.out.below hb)
  have B_6 := Lib.hid (below_of B_5.out hb)
  clear GA_5 GB_5 IA_5 IB_5 B_5
  clear hb 
  have hbl7 := nuc_new w_6 (Obj.cells #[Value.bool false, Value.slice none 0 0] 25)
  have GA_8 := Lib.hid (blk_below' hbl7 GA_6.out)
  have GB_8 := Lib.hid (blk_below' hbl7 GB_6.out)
  have IA_8 := Lib.hid (IA_6.out.below hbl7)
  have IB_8 := Lib.hid (IB_6.out.below hbl7)
  have B_8 := Lib.hid (below_of B_6.out hbl7)
  clear GA_6 GB_6 IA_6 IB_6 B_6
  have GQ_8 := Lib.hid (heap_alloc_new w_6 (Obj.cells #[Value.bool false, Value.slice none 0 0] 25))
  clear hbl7
  have hbl9 := nuc_new (w_6.alloc (Obj.cells #[Value.bool false, Value.slice none 0 0] 25)) (Obj.cells #[Value.bool false, Value.slice none 0 0] 25)
  have GA_10 := Lib.hid (blk_below' hbl9 GA_8.out)
  have GB_10 := Lib.hid (blk_below' hbl9 GB_8.out)
  have GQ_10 := Lib.hid (blk_below' hbl9 GQ_8.out)
  have IA_10 := Lib.hid (IA_8.out.below hbl9)
  have IB_10 := Lib.hid (IB_8.out.below hbl9)
  have B_10 := Lib.hid (below_of B_8.out hbl9)
  clear GA_8 GB_8 GQ_8 IA_8 IB_8 B_8
  have GR_10 := Lib.hid (alloc_snd w_6 (Obj.cells #[Value.bool false, Value.slice none 0 0] 25) (Obj.cells #[Value.bool false, Value.slice none 0 0] 25))
  clear hbl9
  obtain ⟨cA0, cA1, dA0, dA1, eA⟩ := blk2 GA_10.out
  obtain ⟨cB0, cB1, dB0, dB1, eB⟩ := blk2 GB_10.out
  go_wp2_with fail
  refine (divmodI_zero _ _ x _ IA_10.out IB_10.out).mono ?_
  rintro e w_11 ⟨rfl, hb⟩
  clear cA0 cA1 dA0 dA1 eA cB0 cB1 dB0 dB1 eB
  have GA_11 := Lib.hid (blk_below' hb GA_10.out)
  have GB_11 := Lib.hid (blk_below' hb GB_10.out)
  have GQ_11 := Lib.hid (blk_below' hb GQ_10.out)
  have GR_11 := Lib.hid (blk_below' hb GR_10.out)
  have IA_11 := Lib.hid (IA_10.out.below hb)
  have IB_11 := Lib.hid (IB_10.out.below hb)
  have B_11 := Lib.hid (below_of B_10.out hb)
  clear GA_10 GB_10 GQ_10 GR_10 IA_10 IB_10 B_10
  clear hb 
  have hbl12 := nuc_new w_11 (Obj.cells #[Value.bool false, Value.slice none 0 0] 25)
  have GA_13 := Lib.hid (blk_below' hbl12 GA_11.out)
  have GB_13 := Lib.hid (blk_below' hbl12 GB_11.out)
  have GQ_13 := Lib.hid (blk_below' hbl12 GQ_11.out)
  have GR_13 := Lib.hid (blk_below' hbl12 GR_11.out)
  have IA_13 := Lib.hid (IA_11.out.below hbl12)
  have IB_13 := Lib.hid (IB_11.out.below hbl12)
  have B_13 := Lib.hid (below_of B_11.out hbl12)
  clear GA_11 GB_11 GQ_11 GR_11 IA_11 IB_11 B_11
  have GP_13 := Lib.hid (heap_alloc_new w_11 (Obj.cells #[Value.bool false, Value.slice none 0 0] 25))
  clear hbl12
  have hbl14 := nuc_new (w_11.alloc (Obj.cells #[Value.bool false, Value.slice none 0 0] 25)) (Obj.cells #[Value.bool false, Value.slice none 0 0] 25)
  have GA_15 := Lib.hid (blk_below' hbl14 GA_13.out)
  have GB_15 := Lib.hid (blk_below' hbl14 GB_13.out)
  have GQ_15 := Lib.hid (blk_below' hbl14 GQ_13.out)
  have GR_15 := Lib.hid (blk_below' hbl14 GR_13.out)
  have GP_15 := Lib.hid (blk_below' hbl14 GP_13.out)
  have IA_15 := Lib.hid (IA_13.out.below hbl14)
  have IB_15 := Lib.hid (IB_13.out.below hbl14)
  have B_15 := Lib.hid (below_of B_13.out hbl14)
  clear GA_13 GB_13 GQ_13 GR_13 GP_13 IA_13 IB_13 B_13
  have GS_15 := Lib.hid (alloc_snd w_11 (Obj.cells #[Value.bool false, Value.slice none 0 0] 25) (Obj.cells #[Value.bool false, Value.slice none 0 0] 25))
  clear hbl14
  obtain ⟨cB0, cB1, dB0, dB1, eB⟩ := blk2 GB_15.out
  go_wp2_with fail
  refine (signF _ 0 0 _ IB_15.out rfl).mono ?_
  rintro e w_16 ⟨rfl, hb⟩
  clear cB0 cB1 dB0 dB1 eB
  have GA_16 := Lib.hid (blk_below' hb GA_15.out)
  have GB_16 := Lib.hid (blk_below' hb GB_15.out)
  have GQ_16 := Lib.hid (blk_below' hb GQ_15.out)
  have GR_16 := Lib.hid (blk_below' hb GR_15.out)
  have GP_16 := Lib.hid (blk_below' hb GP_15.out)
  have GS_16 := Lib.hid (blk_below' hb GS_15.out)
  have IA_16 := Lib.hid (IA_15.out.below hb)
  have IB_16 := Lib.hid (IB_15.out.below hb)
  have B_16 := Lib.hid (below_of B_15.out hb)
  clear GA_15 GB_15 GQ_15 GR_15 GP_15 GS_15 IA_15 IB_15 B_15
  clear hb 
  obtain ⟨cQ0, cQ1, dQ0, dQ1, eQ⟩ := blk2 GQ_16.out
  go_wp2_with fail
  refine (same_any _ _ 0 _ (intk_zero _) (intk_zero _)).mono ?_
  rintro e w_17 ⟨rfl, hb⟩
  clear cQ0 cQ1 dQ0 dQ1 eQ
  have GA_17 := Lib.hid (blk_below' hb GA_16.out)
  have GB_17 := Lib.hid (blk_below' hb GB_16.out)
  have GQ_17 := Lib.hid (blk_below' hb GQ_16.out)
  have GR_17 := Lib.hid (blk_below' hb GR_16.out)
  have GP_17 := Lib.hid (blk_below' hb GP_16.out)
  have GS_17 := Lib.hid (blk_below' hb GS_16.out)
  have IA_17 := Lib.hid (IA_16.out.below hb)
  have IB_17 := Lib.hid (IB_16.out.below hb)
  have B_17 := Lib.hid (below_of B_16.out hb)
  clear GA_16 GB_16 GQ_16 GR_16 GP_16 GS_16 IA_16 IB_16 B_16
  clear hb 
  obtain ⟨cR0, cR1, dR0, dR1, eR⟩ := blk2 GR_17.out
  go_wp2_with fail
  refine (same_any _ _ 0 _ (intk_zero _) (intk_zero _)).mono ?_
  rintro e w_18 ⟨rfl, hb⟩
  clear cR0 cR1 dR0 dR1 eR
  have GA_18 := Lib.hid (blk_below' hb GA_17.out)
  have GB_18 := Lib.hid (blk_below' hb GB_17.out)
  have GQ_18 := Lib.hid (blk_below' hb GQ_17.out)
  have GR_18 := Lib.hid (blk_below' hb GR_17.out)
  have GP_18 := Lib.hid (blk_below' hb GP_17.out)
  have GS_18 := Lib.hid (blk_below' hb GS_17.out)
  have IA_18 := Lib.hid (IA_17.out.below hb)
  have IB_18 := Lib.hid (IB_17.out.below hb)
  have B_18 := Lib.hid (below_of B_17.out hb)
  clear GA_17 GB_17 GQ_17 GR_17 GP_17 GS_17 IA_17 IB_17 B_17
  clear hb 
  obtain ⟨cP0, cP1, dP0, dP1, eP⟩ := blk2 GP_18.out
  go_wp2_with fail
  refine (same_any _ _ 0 _ (intk_zero _) (intk_zero _)).mono ?_
  rintro e w_19 ⟨rfl, hb⟩
  clear cP0 cP1 dP0 dP1 eP
  have GA_19 := Lib.hid (blk_below' hb GA_18.out)
  have GB_19 := Lib.hid (blk_below' hb GB_18.out)
  have GQ_19 := Lib.hid (blk_below' hb GQ_18.out)
  have GR_19 := Lib.hid (blk_below' hb GR_18.out)
  have GP_19 := Lib.hid (blk_below' hb GP_18.out)
  have GS_19 := Lib.hid (blk_below' hb GS_18.out)
  have IA_19 := Lib.hid (IA_18.out.below hb)
  have IB_19 := Lib.hid (IB_18.out.below hb)
  have B_19 := Lib.hid (below_of B_18.out hb)
  clear GA_18 GB_18 GQ_18 GR_18 GP_18 GS_18 IA_18 IB_18 B_18
  clear hb 
  obtain ⟨cS0, cS1, dS0, dS1, eS⟩ := blk2 GS_19.out
  go_wp2_with fail
  refine (same_any _ _ 0 _ (intk_zero _) (intk_zero _)).mono ?_
  rintro e w_20 ⟨rfl, hb⟩
  clear cS0 cS1 dS0 dS1 eS
  have GA_20 := Lib.hid (blk_below' hb GA_19.out)
  have GB_20 := Lib.hid (blk_below' hb GB_19.out)
  have GQ_20 := Lib.hid (blk_below' hb GQ_19.out)
  have GR_20 := Lib.hid (blk_below' hb GR_19.out)
  have GP_20 := Lib.hid (blk_below' hb GP_19.out)
  have GS_20 := Lib.hid (blk_below' hb GS_19.out)
  have IA_20 := Lib.hid (IA_19.out.below hb)
  have IB_20 := Lib.hid (IB_19.out.below hb)
  have B_20 := Lib.hid (below_of B_19.out hb)
  clear GA_19 GB_19 GQ_19 GR_19 GP_19 GS_19 IA_19 IB_19 B_19
  clear hb 
  go_wp2
  go_ret
  exact ⟨rfl, B_20.out⟩
end Go.Proofs.YtkccjddmmjdceaaDoor
