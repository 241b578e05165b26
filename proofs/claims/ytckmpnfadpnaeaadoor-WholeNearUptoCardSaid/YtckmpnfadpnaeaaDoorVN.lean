/- WholeNear: the law's own walk. -/
import Derived.Test.YtckmpnfadpnaeaaDoorVA
import Derived.Deep.RegionHeld3
import Derived.Deep.RegionWith
set_option linter.unusedVariables false
set_option linter.unusedSimpArgs false
namespace Go.Proofs.YtckmpnfadpnaeaaDoor
open Go.RowKit Mth

theorem zcmp_ne {y : Int} (h : y ≠ 0) : zcmp y 0 = -1 ∨ zcmp y 0 = 1 := by
  rcases (show y < 0 ∨ 0 < y by omega) with h | h
  · exact .inl (zcmp_lt h)
  · exact .inr (zcmp_gt h)
/-- the sign of what is left of a rounding down -/
theorem near_sign (x : Int) {y : Int} (h0 : y ≠ 0) : (rC x y = 0 → zcmp (x - qF x y * y) 0 = 0) ∧ (rC x y ≠ 0 → zcmp (x - qF x y * y) 0 = zcmp y 0) ∧ zcmp ((x - qF x y * y).natAbs : Int) (y.natAbs : Int) = -1 := by
  obtain ⟨h1, h2⟩ := near_rest (a := x) h0
  have hc := cut_again x y
  have hb := rC_bounds (a := x) h0
  refine ⟨fun hr => ?_, fun hr => ?_, zcmp_lt (by omega)⟩
  · rcases f_cases x y with ⟨_, e, _⟩ | ⟨h, _⟩ | ⟨h, _⟩
    · rw [e]; exact zcmp_eq (by omega)
    · exact absurd hr h
    · exact absurd hr h
  · have hne : x - qF x y * y ≠ 0 := by
      rcases f_cases x y with ⟨h, _⟩ | ⟨_, _, e, _⟩ | ⟨_, _, e, _⟩
      · exact absurd h hr
      · rw [e, Int.sub_mul]; omega
      · rw [e]; omega
    rcases h2 with h2 | ⟨h2, h3⟩ | ⟨h2, h3⟩
    · exact absurd h2 hne
    · rw [zcmp_gt h2, zcmp_gt h3]
    · rw [zcmp_lt h2, zcmp_lt h3]
theorem near_way (x y : Int) : ((zcmp (rC x y) 0 = 0 ∧ rC x y = 0) ∧ qU x y - qF x y = 0) ∨ ((zcmp (rC x y) 0 = 1 ∧ rC x y ≠ 0) ∧ qU x y - qF x y = 1) ∨ ((zcmp (rC x y) 0 = -1 ∧ rC x y ≠ 0) ∧ qU x y - qF x y = 1) := by
  have h := near_diff x y
  rcases (show rC x y = 0 ∨ 0 < rC x y ∨ rC x y < 0 by omega) with h1 | h1 | h1
  · rw [if_pos h1] at h; exact .inl ⟨⟨zcmp_eq h1, h1⟩, h⟩
  · rw [if_neg (by omega)] at h; exact .inr (.inl ⟨⟨zcmp_gt h1, by omega⟩, h⟩)
  · rw [if_neg (by omega)] at h; exact .inr (.inr ⟨⟨zcmp_lt h1, by omega⟩, h⟩)

set_option maxHeartbeats 16000000 in
set_option maxRecDepth 100000 in
theorem near_walk (w : World) (v0 v1 : Value) (x y : Int) (hz : TZ10 w) (h0 : IntV w v0 x) (h1 : IntV w v1 y) :
    Calls Tryd.prog 11 #[v0, v1] w fun e w' => e = .returned (.bool true) ∧ Below w.heap.size w w' := by
  have HZ := Lib.hid hz
  obtain ⟨n0, a0, k0, c0, rfl⟩ := h0.shape
  obtain ⟨n1, a1, k1, c1, rfl⟩ := h1.shape
  have IA_0 := Lib.hid h0; have IB_0 := Lib.hid h1
  clear hz h0 h1
  go_enter Tryd.func11, Tryd.ntmps11
  have B_0 := Lib.hid (Below.refl w.heap.size w)
  obtain ⟨V_1, eV, hV0, hV1, belV, hszV⟩ := alloc2 w (Obj.cells #[Value.bool n0, Value.slice a0 k0 c0] 25) (Obj.cells #[Value.bool n1, Value.slice a1 k1 c1] 25)
  have IA_2 := Lib.hid (IA_0.out.below belV)
  have IB_2 := Lib.hid (IB_0.out.below belV)
  have B_2 := Lib.hid (below_of B_0.out belV)
  clear IA_0 IB_0 B_0
  have GA_2 : Hid (V_1.heap[w.heap.size]? = some (Obj.cells #[Value.bool n0, Value.slice a0 k0 c0] 25)) := Lib.hid hV0
  have GB_2 : Hid (V_1.heap[w.heap.size + 1]? = some (Obj.cells #[Value.bool n1, Value.slice a1 k1 c1] 25)) := Lib.hid hV1
  clear belV hszV hV0 hV1
  go_wp2_with fail
  clear eV
  refine (awake_any _ (HZ.out.below B_2.out)).mono ?_
  rintro e w_3 ⟨rfl, hb⟩
  have GA_3 := Lib.hid (blk_below' hb GA_2.out)
  have GB_3 := Lib.hid (blk_below' hb GB_2.out)
  have IA_3 := Lib.hid (IA_2.out.below hb)
  have IB_3 := Lib.hid (IB_2.out.below hb)
  have B_3 := Lib.hid (below_of B_2.out hb)
  clear GA_2 GB_2 IA_2 IB_2 B_2
  clear hb 
  by_cases hk0 : k0 ≤ 1000
  rotate_left
  · have hd : decide ((k0 : Int) ≤ 1000) = false := decide_eq_false (by omega)
    obtain ⟨cA0, cA1, dA0, dA1, eA⟩ := blk2 GA_3.out
    go_wp2_with fail
    refine (shortF _ _ _ _ _ false hd).mono ?_
    rintro e w_4 ⟨rfl, hb⟩
    clear cA0 cA1 dA0 dA1 eA
    have GA_4 := Lib.hid (blk_below' hb GA_3.out)
    have GB_4 := Lib.hid (blk_below' hb GB_3.out)
    have IA_4 := Lib.hid (IA_3.out.below hb)
    have IB_4 := Lib.hid (IB_3.out.below hb)
    have B_4 := Lib.hid (below_of B_3.out hb)
    clear GA_3 GB_3 IA_3 IB_3 B_3
    clear hb 
    clear hd
    go_wp2
    go_ret
    exact ⟨rfl, B_4.out⟩
  have hd0 : decide ((k0 : Int) ≤ 1000) = true := decide_eq_true (by omega)
  have SH0 := Lib.hid (IA_3.out.short hk0)
  obtain ⟨cA0, cA1, dA0, dA1, eA⟩ := blk2 GA_3.out
  go_wp2_with fail
  refine (shortF _ _ _ _ _ true hd0).mono ?_
  rintro e w_4 ⟨rfl, hb⟩
  clear cA0 cA1 dA0 dA1 eA
  have GA_4 := Lib.hid (blk_below' hb GA_3.out)
  have GB_4 := Lib.hid (blk_below' hb GB_3.out)
  have IA_4 := Lib.hid (IA_3.out.below hb)
  have IB_4 := Lib.hid (IB_3.out.below hb)
  have B_4 := Lib.hid (below_of B_3.out hb)
  clear GA_3 GB_3 IA_3 IB_3 B_3
  clear hb 
  clear hd0 hk0
  by_cases hk1 : k1 ≤ 1000
  rotate_left
  · have hd : decide ((k1 : Int) ≤ 1000) = false := decide_eq_false (by omega)
    obtain ⟨cB0, cB1, dB0, dB1, eB⟩ := blk2 GB_4.out
    go_wp2_with fail
    refine (shortF _ _ _ _ _ false hd).mono ?_
    rintro e w_5 ⟨rfl, hb⟩
    clear cB0 cB1 dB0 dB1 eB
    have GA_5 := Lib.hid (blk_below' hb GA_4.out)
    have GB_5 := Lib.hid (blk_below' hb GB_4.out)
    have IA_5 := Lib.hid (IA_4.out.below hb)
    have IB_5 := Lib.hid (IB_4.out.below hb)
    have B_5 := Lib.hid (below_of B_4.out hb)
    clear GA_4 GB_4 IA_4 IB_4 B_4
    clear hb 
    clear hd
    go_wp2
    go_ret
    exact ⟨rfl, B_5.out⟩
  have hd1 : decide ((k1 : Int) ≤ 1000) = true := decide_eq_true (by omega)
  have SH1 := Lib.hid (IB_4.out.short hk1)
  obtain ⟨cB0, cB1, dB0, dB1, eB⟩ := blk2 GB_4.out
  go_wp2_with fail
  refine (shortF _ _ _ _ _ true hd1).mono ?_
  rintro e w_5 ⟨rfl, hb⟩
  clear cB0 cB1 dB0 dB1 eB
  have GA_5 := Lib.hid (blk_below' hb GA_4.out)
  have GB_5 := Lib.hid (blk_below' hb GB_4.out)
  have IA_5 := Lib.hid (IA_4.out.below hb)
  have IB_5 := Lib.hid (IB_4.out.below hb)
  have B_5 := Lib.hid (below_of B_4.out hb)
  clear GA_4 GB_4 IA_4 IB_4 B_4
  clear hb 
  clear hd1 hk1
  by_cases hy0 : y = 0
  · subst hy0
    clear SH0 SH1
    obtain ⟨cA0, cA1, dA0, dA1, eA⟩ := blk2 GA_5.out
    obtain ⟨cB0, cB1, dB0, dB1, eB⟩ := blk2 GB_5.out
    go_wp2_with fail
    refine (floorI_zero _ _ x _ IA_5.out IB_5.out).mono ?_
    rintro e w_6 ⟨rfl, hb⟩
    clear cA0 cA1 dA0 dA1 eA cB0 cB1 dB0 dB1 eB
    have GA_6 := Lib.hid (blk_below' hb GA_5.out)
    have GB_6 := Lib.hid (blk_below' hb GB_5.out)
    have IA_6 := Lib.hid (IA_5.out.below hb)
    have IB_6 := Lib.hid (IB_5.out.below hb)
    have B_6 := Lib.hid (below_of B_5.out hb)
    clear GA_5 GB_5 IA_5 IB_5 B_5
    clear hb 
    have hbl7 := nuc_new w_6 (Obj.cells #[Value.bool false, Value.slice none 0 0] 25)
    have GA_8 := Lib.hid (blk_below' hbl7 GA_6.out)
    have GB_8 := Lib.hid (blk_below' hbl7 GB_6.out)
    have IA_8 := Lib.hid (IA_6.out.below hbl7)
    have IB_8 := Lib.hid (IB_6.out.below hbl7)
    have B_8 := Lib.hid (below_of B_6.out hbl7)
    clear GA_6 GB_6 IA_6 IB_6 B_6
    have GL_8 := Lib.hid (heap_alloc_new w_6 (Obj.cells #[Value.bool false, Value.slice none 0 0] 25))
    clear hbl7
    obtain ⟨cA0, cA1, dA0, dA1, eA⟩ := blk2 GA_8.out
    obtain ⟨cB0, cB1, dB0, dB1, eB⟩ := blk2 GB_8.out
    go_wp2_with fail
    refine (ceilI_zero _ _ x _ IA_8.out IB_8.out).mono ?_
    rintro e w_9 ⟨rfl, hb⟩
    clear cA0 cA1 dA0 dA1 eA cB0 cB1 dB0 dB1 eB
    have GA_9 := Lib.hid (blk_below' hb GA_8.out)
    have GB_9 := Lib.hid (blk_below' hb GB_8.out)
    have GL_9 := Lib.hid (blk_below' hb GL_8.out)
    have IA_9 := Lib.hid (IA_8.out.below hb)
    have IB_9 := Lib.hid (IB_8.out.below hb)
    have B_9 := Lib.hid (below_of B_8.out hb)
    clear GA_8 GB_8 GL_8 IA_8 IB_8 B_8
    clear hb 
    have hbl10 := nuc_new w_9 (Obj.cells #[Value.bool false, Value.slice none 0 0] 25)
    have GA_11 := Lib.hid (blk_below' hbl10 GA_9.out)
    have GB_11 := Lib.hid (blk_below' hbl10 GB_9.out)
    have GL_11 := Lib.hid (blk_below' hbl10 GL_9.out)
    have IA_11 := Lib.hid (IA_9.out.below hbl10)
    have IB_11 := Lib.hid (IB_9.out.below hbl10)
    have B_11 := Lib.hid (below_of B_9.out hbl10)
    clear GA_9 GB_9 GL_9 IA_9 IB_9 B_9
    have GU_11 := Lib.hid (heap_alloc_new w_9 (Obj.cells #[Value.bool false, Value.slice none 0 0] 25))
    clear hbl10
    obtain ⟨cA0, cA1, dA0, dA1, eA⟩ := blk2 GA_11.out
    obtain ⟨cB0, cB1, dB0, dB1, eB⟩ := blk2 GB_11.out
    go_wp2_with fail
    refine (quoI_zero _ _ x _ IA_11.out IB_11.out).mono ?_
    rintro e w_12 ⟨rfl, hb⟩
    clear cA0 cA1 dA0 dA1 eA cB0 cB1 dB0 dB1 eB
    have GA_12 := Lib.hid (blk_below' hb GA_11.out)
    have GB_12 := Lib.hid (blk_below' hb GB_11.out)
    have GL_12 := Lib.hid (blk_below' hb GL_11.out)
    have GU_12 := Lib.hid (blk_below' hb GU_11.out)
    have IA_12 := Lib.hid (IA_11.out.below hb)
    have IB_12 := Lib.hid (IB_11.out.below hb)
    have B_12 := Lib.hid (below_of B_11.out hb)
    clear GA_11 GB_11 GL_11 GU_11 IA_11 IB_11 B_11
    clear hb 
    have hbl13 := nuc_new w_12 (Obj.cells #[Value.bool false, Value.slice none 0 0] 25)
    have GA_14 := Lib.hid (blk_below' hbl13 GA_12.out)
    have GB_14 := Lib.hid (blk_below' hbl13 GB_12.out)
    have GL_14 := Lib.hid (blk_below' hbl13 GL_12.out)
    have GU_14 := Lib.hid (blk_below' hbl13 GU_12.out)
    have IA_14 := Lib.hid (IA_12.out.below hbl13)
    have IB_14 := Lib.hid (IB_12.out.below hbl13)
    have B_14 := Lib.hid (below_of B_12.out hbl13)
    clear GA_12 GB_12 GL_12 GU_12 IA_12 IB_12 B_12
    have GV_14 := Lib.hid (heap_alloc_new w_12 (Obj.cells #[Value.bool false, Value.slice none 0 0] 25))
    clear hbl13
    have hbl15 := nuc_new (w_12.alloc (Obj.cells #[Value.bool false, Value.slice none 0 0] 25)) (Obj.cells #[Value.bool false, Value.slice none 0 0] 25)
    have GA_16 := Lib.hid (blk_below' hbl15 GA_14.out)
    have GB_16 := Lib.hid (blk_below' hbl15 GB_14.out)
    have GL_16 := Lib.hid (blk_below' hbl15 GL_14.out)
    have GU_16 := Lib.hid (blk_below' hbl15 GU_14.out)
    have GV_16 := Lib.hid (blk_below' hbl15 GV_14.out)
    have IA_16 := Lib.hid (IA_14.out.below hbl15)
    have IB_16 := Lib.hid (IB_14.out.below hbl15)
    have B_16 := Lib.hid (below_of B_14.out hbl15)
    clear GA_14 GB_14 GL_14 GU_14 GV_14 IA_14 IB_14 B_14
    have GR_16 := Lib.hid (heap_alloc_new (w_12.alloc (Obj.cells #[Value.bool false, Value.slice none 0 0] 25)) (Obj.cells #[Value.bool false, Value.slice none 0 0] 25))
    clear hbl15
    obtain ⟨cB0, cB1, dB0, dB1, eB⟩ := blk2 GB_16.out
    go_wp2_with fail
    refine (signF _ 0 0 _ IB_16.out rfl).mono ?_
    rintro e w_17 ⟨rfl, hb⟩
    clear cB0 cB1 dB0 dB1 eB
    have GA_17 := Lib.hid (blk_below' hb GA_16.out)
    have GB_17 := Lib.hid (blk_below' hb GB_16.out)
    have GL_17 := Lib.hid (blk_below' hb GL_16.out)
    have GU_17 := Lib.hid (blk_below' hb GU_16.out)
    have GV_17 := Lib.hid (blk_below' hb GV_16.out)
    have GR_17 := Lib.hid (blk_below' hb GR_16.out)
    have IA_17 := Lib.hid (IA_16.out.below hb)
    have IB_17 := Lib.hid (IB_16.out.below hb)
    have B_17 := Lib.hid (below_of B_16.out hb)
    clear GA_16 GB_16 GL_16 GU_16 GV_16 GR_16 IA_16 IB_16 B_16
    clear hb 
    go_wp2
    go_ret
    exact ⟨rfl, B_17.out⟩
  · have NB := Lib.hid (near_bounds SH0.out SH1.out hy0)
    have NS := near_sign x hy0
    have NW := near_way x y
    have HY0 := Lib.hid hy0
    obtain ⟨oy, hoy⟩ : ∃ o, zcmp y 0 = o := ⟨_, rfl⟩
    have OY : oy = -1 ∨ oy = 1 := by rw [← hoy]; exact zcmp_ne hy0
    rw [hoy] at NS
    have SY := Lib.hid hoy
    clear SH0 SH1 hoy hy0
    rcases OY with rfl | rfl
    all_goals
      obtain ⟨cA0, cA1, dA0, dA1, eA⟩ := blk2 GA_5.out
      obtain ⟨cB0, cB1, dB0, dB1, eB⟩ := blk2 GB_5.out
      go_wp2_with fail
      refine (floorF _ _ x y _ IA_5.out IB_5.out NB.out.1 NB.out.2.1 HY0.out).mono ?_
      rintro e w_6 ⟨nL, aL, kL, cL, rfl, iL, hb⟩
      clear cA0 cA1 dA0 dA1 eA cB0 cB1 dB0 dB1 eB
      have GA_6 := Lib.hid (blk_below' hb GA_5.out)
      have GB_6 := Lib.hid (blk_below' hb GB_5.out)
      have IA_6 := Lib.hid (IA_5.out.below hb)
      have IB_6 := Lib.hid (IB_5.out.below hb)
      have B_6 := Lib.hid (below_of B_5.out hb)
      clear GA_5 GB_5 IA_5 IB_5 B_5
      have JL_6 := Lib.hid iL
      clear hb iL
      obtain ⟨V_7, eV, hV0, belV, hszV⟩ := alloc1 w_6 (Obj.cells #[Value.bool nL, Value.slice aL kL cL] 25)
      have GA_8 := Lib.hid (blk_below' belV GA_6.out)
      have GB_8 := Lib.hid (blk_below' belV GB_6.out)
      have IA_8 := Lib.hid (IA_6.out.below belV)
      have IB_8 := Lib.hid (IB_6.out.below belV)
      have JL_8 := Lib.hid (JL_6.out.below belV)
      have B_8 := Lib.hid (below_of B_6.out belV)
      clear GA_6 GB_6 IA_6 IB_6 JL_6 B_6
      have GL_8 : Hid (V_7.heap[w_6.heap.size]? = some (Obj.cells #[Value.bool nL, Value.slice aL kL cL] 25)) := Lib.hid hV0
      clear belV hszV hV0
      obtain ⟨cA0, cA1, dA0, dA1, eA⟩ := blk2 GA_8.out
      obtain ⟨cB0, cB1, dB0, dB1, eB⟩ := blk2 GB_8.out
      go_wp2_with fail
      clear eV
      refine (ceilF _ _ x y _ IA_8.out IB_8.out NB.out.1 NB.out.2.1 HY0.out).mono ?_
      rintro e w_9 ⟨nU, aU, kU, cU, rfl, iU, hb⟩
      clear cA0 cA1 dA0 dA1 eA cB0 cB1 dB0 dB1 eB
      have GA_9 := Lib.hid (blk_below' hb GA_8.out)
      have GB_9 := Lib.hid (blk_below' hb GB_8.out)
      have GL_9 := Lib.hid (blk_below' hb GL_8.out)
      have IA_9 := Lib.hid (IA_8.out.below hb)
      have IB_9 := Lib.hid (IB_8.out.below hb)
      have JL_9 := Lib.hid (JL_8.out.below hb)
      have B_9 := Lib.hid (below_of B_8.out hb)
      clear GA_8 GB_8 GL_8 IA_8 IB_8 JL_8 B_8
      have JU_9 := Lib.hid iU
      clear hb iU
      obtain ⟨V_10, eV, hV0, belV, hszV⟩ := alloc1 w_9 (Obj.cells #[Value.bool nU, Value.slice aU kU cU] 25)
      have GA_11 := Lib.hid (blk_below' belV GA_9.out)
      have GB_11 := Lib.hid (blk_below' belV GB_9.out)
      have GL_11 := Lib.hid (blk_below' belV GL_9.out)
      have IA_11 := Lib.hid (IA_9.out.below belV)
      have IB_11 := Lib.hid (IB_9.out.below belV)
      have JL_11 := Lib.hid (JL_9.out.below belV)
      have JU_11 := Lib.hid (JU_9.out.below belV)
      have B_11 := Lib.hid (below_of B_9.out belV)
      clear GA_9 GB_9 GL_9 IA_9 IB_9 JL_9 JU_9 B_9
      have GU_11 : Hid (V_10.heap[w_9.heap.size]? = some (Obj.cells #[Value.bool nU, Value.slice aU kU cU] 25)) := Lib.hid hV0
      clear belV hszV hV0
      obtain ⟨cA0, cA1, dA0, dA1, eA⟩ := blk2 GA_11.out
      obtain ⟨cB0, cB1, dB0, dB1, eB⟩ := blk2 GB_11.out
      go_wp2_with fail
      clear eV
      refine (quoF _ _ x y _ IA_11.out IB_11.out NB.out.1 NB.out.2.1 HY0.out).mono ?_
      rintro e w_12 ⟨nV, aV, kV, cV, nR, aR, kR, cR, rfl, iV, iR, hb⟩
      clear cA0 cA1 dA0 dA1 eA cB0 cB1 dB0 dB1 eB
      have GA_12 := Lib.hid (blk_below' hb GA_11.out)
      have GB_12 := Lib.hid (blk_below' hb GB_11.out)
      have GL_12 := Lib.hid (blk_below' hb GL_11.out)
      have GU_12 := Lib.hid (blk_below' hb GU_11.out)
      have IA_12 := Lib.hid (IA_11.out.below hb)
      have IB_12 := Lib.hid (IB_11.out.below hb)
      have JL_12 := Lib.hid (JL_11.out.below hb)
      have JU_12 := Lib.hid (JU_11.out.below hb)
      have B_12 := Lib.hid (below_of B_11.out hb)
      clear GA_11 GB_11 GL_11 GU_11 IA_11 IB_11 JL_11 JU_11 B_11
      have JV_12 := Lib.hid iV
      have JR_12 := Lib.hid iR
      clear hb iV iR
      obtain ⟨V_13, eV, hV0, hV1, belV, hszV⟩ := alloc2 w_12 (Obj.cells #[Value.bool nV, Value.slice aV kV cV] 25) (Obj.cells #[Value.bool nR, Value.slice aR kR cR] 25)
      have GA_14 := Lib.hid (blk_below' belV GA_12.out)
      have GB_14 := Lib.hid (blk_below' belV GB_12.out)
      have GL_14 := Lib.hid (blk_below' belV GL_12.out)
      have GU_14 := Lib.hid (blk_below' belV GU_12.out)
      have IA_14 := Lib.hid (IA_12.out.below belV)
      have IB_14 := Lib.hid (IB_12.out.below belV)
      have JL_14 := Lib.hid (JL_12.out.below belV)
      have JU_14 := Lib.hid (JU_12.out.below belV)
      have JV_14 := Lib.hid (JV_12.out.below belV)
      have JR_14 := Lib.hid (JR_12.out.below belV)
      have B_14 := Lib.hid (below_of B_12.out belV)
      clear GA_12 GB_12 GL_12 GU_12 IA_12 IB_12 JL_12 JU_12 JV_12 JR_12 B_12
      have GV_14 : Hid (V_13.heap[w_12.heap.size]? = some (Obj.cells #[Value.bool nV, Value.slice aV kV cV] 25)) := Lib.hid hV0
      have GR_14 : Hid (V_13.heap[w_12.heap.size + 1]? = some (Obj.cells #[Value.bool nR, Value.slice aR kR cR] 25)) := Lib.hid hV1
      clear belV hszV hV0 hV1
      clear GV_14
      clear JV_14
      obtain ⟨cB0, cB1, dB0, dB1, eB⟩ := blk2 GB_14.out
      go_wp2_with fail
      clear eV
      refine (signF _ y _ _ IB_14.out SY.out).mono ?_
      rintro e w_15 ⟨rfl, hb⟩
      clear cB0 cB1 dB0 dB1 eB
      have GA_15 := Lib.hid (blk_below' hb GA_14.out)
      have GB_15 := Lib.hid (blk_below' hb GB_14.out)
      have GL_15 := Lib.hid (blk_below' hb GL_14.out)
      have GU_15 := Lib.hid (blk_below' hb GU_14.out)
      have GR_15 := Lib.hid (blk_below' hb GR_14.out)
      have IA_15 := Lib.hid (IA_14.out.below hb)
      have IB_15 := Lib.hid (IB_14.out.below hb)
      have JL_15 := Lib.hid (JL_14.out.below hb)
      have JU_15 := Lib.hid (JU_14.out.below hb)
      have JR_15 := Lib.hid (JR_14.out.below hb)
      have B_15 := Lib.hid (below_of B_14.out hb)
      clear GA_14 GB_14 GL_14 GU_14 GR_14 IA_14 IB_14 JL_14 JU_14 JR_14 B_14
      clear hb 
      obtain ⟨cU0, cU1, dU0, dU1, eU⟩ := blk2 GU_15.out
      obtain ⟨cL0, cL1, dL0, dL1, eL⟩ := blk2 GL_15.out
      go_wp2_with fail
      refine (subF _ _ (qU x y) (qF x y) _ JU_15.out.2 JL_15.out.2 NB.out.2.2.1).mono ?_
      rintro e w_16 ⟨nD, aD, kD, cD, rfl, iD, hb⟩
      clear cU0 cU1 dU0 dU1 eU cL0 cL1 dL0 dL1 eL
      have GA_16 := Lib.hid (blk_below' hb GA_15.out)
      have GB_16 := Lib.hid (blk_below' hb GB_15.out)
      have GL_16 := Lib.hid (blk_below' hb GL_15.out)
      have GU_16 := Lib.hid (blk_below' hb GU_15.out)
      have GR_16 := Lib.hid (blk_below' hb GR_15.out)
      have IA_16 := Lib.hid (IA_15.out.below hb)
      have IB_16 := Lib.hid (IB_15.out.below hb)
      have JL_16 := Lib.hid (JL_15.out.below hb)
      have JU_16 := Lib.hid (JU_15.out.below hb)
      have JR_16 := Lib.hid (JR_15.out.below hb)
      have B_16 := Lib.hid (below_of B_15.out hb)
      clear GA_15 GB_15 GL_15 GU_15 GR_15 IA_15 IB_15 JL_15 JU_15 JR_15 B_15
      have JD_16 := Lib.hid iD
      clear hb iD
      obtain ⟨V_17, eV, hV0, belV, hszV⟩ := alloc1 w_16 (Obj.cells #[Value.bool nD, Value.slice aD kD cD] 25)
      have GA_18 := Lib.hid (blk_below' belV GA_16.out)
      have GB_18 := Lib.hid (blk_below' belV GB_16.out)
      have GL_18 := Lib.hid (blk_below' belV GL_16.out)
      have GU_18 := Lib.hid (blk_below' belV GU_16.out)
      have GR_18 := Lib.hid (blk_below' belV GR_16.out)
      have IA_18 := Lib.hid (IA_16.out.below belV)
      have IB_18 := Lib.hid (IB_16.out.below belV)
      have JL_18 := Lib.hid (JL_16.out.below belV)
      have JU_18 := Lib.hid (JU_16.out.below belV)
      have JR_18 := Lib.hid (JR_16.out.below belV)
      have JD_18 := Lib.hid (JD_16.out.below belV)
      have B_18 := Lib.hid (below_of B_16.out belV)
      clear GA_16 GB_16 GL_16 GU_16 GR_16 IA_16 IB_16 JL_16 JU_16 JR_16 JD_16 B_16
      have GD_18 : Hid (V_17.heap[w_16.heap.size]? = some (Obj.cells #[Value.bool nD, Value.slice aD kD cD] 25)) := Lib.hid hV0
      clear belV hszV hV0
      clear GU_18
      clear JU_18
      obtain ⟨cL0, cL1, dL0, dL1, eL⟩ := blk2 GL_18.out
      obtain ⟨cB0, cB1, dB0, dB1, eB⟩ := blk2 GB_18.out
      go_wp2_with fail
      clear eV
      refine (mulF _ _ (qF x y) y _ JL_18.out.2 IB_18.out NB.out.2.2.2.1).mono ?_
      rintro e w_19 ⟨nX, aX, kX, cX, rfl, iX, hb⟩
      clear cL0 cL1 dL0 dL1 eL cB0 cB1 dB0 dB1 eB
      have GA_19 := Lib.hid (blk_below' hb GA_18.out)
      have GB_19 := Lib.hid (blk_below' hb GB_18.out)
      have GL_19 := Lib.hid (blk_below' hb GL_18.out)
      have GR_19 := Lib.hid (blk_below' hb GR_18.out)
      have GD_19 := Lib.hid (blk_below' hb GD_18.out)
      have IA_19 := Lib.hid (IA_18.out.below hb)
      have IB_19 := Lib.hid (IB_18.out.below hb)
      have JL_19 := Lib.hid (JL_18.out.below hb)
      have JR_19 := Lib.hid (JR_18.out.below hb)
      have JD_19 := Lib.hid (JD_18.out.below hb)
      have B_19 := Lib.hid (below_of B_18.out hb)
      clear GA_18 GB_18 GL_18 GR_18 GD_18 IA_18 IB_18 JL_18 JR_18 JD_18 B_18
      have JX_19 := Lib.hid iX
      clear hb iX
      have NEAX : Hid (w.heap.size ≠ w_19.heap.size) := Lib.hid (Nat.ne_of_lt (Array.getElem?_eq_some_iff.1 GA_19.out).1)
      have NEBX : Hid (w.heap.size + 1 ≠ w_19.heap.size) := Lib.hid (Nat.ne_of_lt (Array.getElem?_eq_some_iff.1 GB_19.out).1)
      have NELX : Hid (w_6.heap.size ≠ w_19.heap.size) := Lib.hid (Nat.ne_of_lt (Array.getElem?_eq_some_iff.1 GL_19.out).1)
      have NERX : Hid (w_12.heap.size + 1 ≠ w_19.heap.size) := Lib.hid (Nat.ne_of_lt (Array.getElem?_eq_some_iff.1 GR_19.out).1)
      have NEDX : Hid (w_16.heap.size ≠ w_19.heap.size) := Lib.hid (Nat.ne_of_lt (Array.getElem?_eq_some_iff.1 GD_19.out).1)
      have GEX : Hid (w.heap.size ≤ w_19.heap.size) := Lib.hid B_19.out.size
      obtain ⟨V_20, eV, hV0, belV, hszV⟩ := alloc1 w_19 (Obj.cells #[Value.bool nX, Value.slice aX kX cX] 25)
      have GA_21 := Lib.hid (blk_below' belV GA_19.out)
      have GB_21 := Lib.hid (blk_below' belV GB_19.out)
      have GL_21 := Lib.hid (blk_below' belV GL_19.out)
      have GR_21 := Lib.hid (blk_below' belV GR_19.out)
      have GD_21 := Lib.hid (blk_below' belV GD_19.out)
      have IA_21 := Lib.hid (IA_19.out.below belV)
      have IB_21 := Lib.hid (IB_19.out.below belV)
      have JL_21 := Lib.hid (JL_19.out.below belV)
      have JR_21 := Lib.hid (JR_19.out.below belV)
      have JD_21 := Lib.hid (JD_19.out.below belV)
      have JX_21 := Lib.hid (JX_19.out.below belV)
      have B_21 := Lib.hid (below_of B_19.out belV)
      clear GA_19 GB_19 GL_19 GR_19 GD_19 IA_19 IB_19 JL_19 JR_19 JD_19 JX_19 B_19
      have GX_21 : Hid (V_20.heap[w_19.heap.size]? = some (Obj.cells #[Value.bool nX, Value.slice aX kX cX] 25)) := Lib.hid hV0
      clear belV hszV hV0
      clear GL_21
      clear JL_21
      obtain ⟨cA0, cA1, dA0, dA1, eA⟩ := blk2 GA_21.out
      obtain ⟨cX0, cX1, dX0, dX1, eX⟩ := blk2 GX_21.out
      go_wp2_with fail
      clear eV
      refine (subF _ _ x (qF x y * y) _ IA_21.out JX_21.out.2 NB.out.2.2.2.2).mono ?_
      rintro e w_22 ⟨nY, aY, kY, cY, rfl, iY, hb⟩
      clear cA0 cA1 dA0 dA1 eA cX0 cX1 dX0 dX1 eX
      have GA_22 := Lib.hid (blk_below' hb GA_21.out)
      have GB_22 := Lib.hid (blk_below' hb GB_21.out)
      have GR_22 := Lib.hid (blk_below' hb GR_21.out)
      have GD_22 := Lib.hid (blk_below' hb GD_21.out)
      have GX_22 := Lib.hid (blk_below' hb GX_21.out)
      have IA_22 := Lib.hid (IA_21.out.below hb)
      have IB_22 := Lib.hid (IB_21.out.below hb)
      have JR_22 := Lib.hid (JR_21.out.below hb)
      have JD_22 := Lib.hid (JD_21.out.below hb)
      have B_22 := Lib.hid (below_of B_21.out hb)
      clear GA_21 GB_21 GR_21 GD_21 GX_21 IA_21 IB_21 JR_21 JD_21 JX_21 B_21
      have JY_22 := Lib.hid iY
      clear hb iY
      obtain ⟨y0, y1, z0, z1, ye⟩ := blk2 GX_22.out
      obtain ⟨V_23, eV⟩ : ∃ V, (w_22.setCell ⟨w_19.heap.size, 0, none⟩ (.bool nY)).setCell ⟨w_19.heap.size, 1, none⟩ (.slice aY kY cY) = V := ⟨_, rfl⟩
      have GA_23 : Hid (V_23.heap[w.heap.size]? = some (Obj.cells #[Value.bool n0, Value.slice a0 k0 c0] 25)) := Lib.hid (by rw [← eV]; exact blk_far2 GA_22.out NEAX.out)
      have GB_23 : Hid (V_23.heap[w.heap.size + 1]? = some (Obj.cells #[Value.bool n1, Value.slice a1 k1 c1] 25)) := Lib.hid (by rw [← eV]; exact blk_far2 GB_22.out NEBX.out)
      have GR_23 : Hid (V_23.heap[w_12.heap.size + 1]? = some (Obj.cells #[Value.bool nR, Value.slice aR kR cR] 25)) := Lib.hid (by rw [← eV]; exact blk_far2 GR_22.out NERX.out)
      have GD_23 : Hid (V_23.heap[w_16.heap.size]? = some (Obj.cells #[Value.bool nD, Value.slice aD kD cD] 25)) := Lib.hid (by rw [← eV]; exact blk_far2 GD_22.out NEDX.out)
      have GX_23 : Hid (V_23.heap[w_19.heap.size]? = some (Obj.cells #[Value.bool nY, Value.slice aY kY cY] 25)) := Lib.hid (by rw [← eV]; exact blk_set (blk_set GX_22.out rfl) rfl)
      have IA_23 := Lib.hid (eV ▸ (IA_22.out.far (y0 := .bool nY) (y1 := .slice aY kY cY) GX_22.out))
      have IB_23 := Lib.hid (eV ▸ (IB_22.out.far (y0 := .bool nY) (y1 := .slice aY kY cY) GX_22.out))
      have JR_23 := Lib.hid (eV ▸ (JR_22.out.far (y0 := .bool nY) (y1 := .slice aY kY cY) GX_22.out))
      have JD_23 := Lib.hid (eV ▸ (JD_22.out.far (y0 := .bool nY) (y1 := .slice aY kY cY) GX_22.out))
      have JY_23 := Lib.hid (eV ▸ (JY_22.out.far (y0 := .bool nY) (y1 := .slice aY kY cY) GX_22.out))
      have B_23 : Hid (Below w.heap.size w V_23) := Lib.hid (by rw [← eV]; exact set_below (set_below B_22.out GEX.out) GEX.out)
      clear GA_22 GB_22 GR_22 GD_22 GX_22 IA_22 IB_22 JR_22 JD_22 JY_22 B_22
      obtain ⟨cX0, cX1, dX0, dX1, eX⟩ := blk2 GX_23.out
      go_wp2_with fail
      clear eV y0 y1 z0 z1 ye
      refine (ofF 1 _ (by omega) (by omega)).mono ?_
      rintro e w_24 ⟨nW, aW, kW, cW, rfl, iW, hb⟩
      clear cX0 cX1 dX0 dX1 eX
      have GA_24 := Lib.hid (blk_below' hb GA_23.out)
      have GB_24 := Lib.hid (blk_below' hb GB_23.out)
      have GR_24 := Lib.hid (blk_below' hb GR_23.out)
      have GD_24 := Lib.hid (blk_below' hb GD_23.out)
      have GX_24 := Lib.hid (blk_below' hb GX_23.out)
      have IA_24 := Lib.hid (IA_23.out.below hb)
      have IB_24 := Lib.hid (IB_23.out.below hb)
      have JR_24 := Lib.hid (JR_23.out.below hb)
      have JD_24 := Lib.hid (JD_23.out.below hb)
      have JY_24 := Lib.hid (JY_23.out.below hb)
      have B_24 := Lib.hid (below_of B_23.out hb)
      clear GA_23 GB_23 GR_23 GD_23 GX_23 IA_23 IB_23 JR_23 JD_23 JY_23 B_23
      have JW_24 := Lib.hid iW
      clear hb iW
      have NEAW : Hid (w.heap.size ≠ w_24.heap.size) := Lib.hid (Nat.ne_of_lt (Array.getElem?_eq_some_iff.1 GA_24.out).1)
      have NEBW : Hid (w.heap.size + 1 ≠ w_24.heap.size) := Lib.hid (Nat.ne_of_lt (Array.getElem?_eq_some_iff.1 GB_24.out).1)
      have NERW : Hid (w_12.heap.size + 1 ≠ w_24.heap.size) := Lib.hid (Nat.ne_of_lt (Array.getElem?_eq_some_iff.1 GR_24.out).1)
      have NEDW : Hid (w_16.heap.size ≠ w_24.heap.size) := Lib.hid (Nat.ne_of_lt (Array.getElem?_eq_some_iff.1 GD_24.out).1)
      have NEXW : Hid (w_19.heap.size ≠ w_24.heap.size) := Lib.hid (Nat.ne_of_lt (Array.getElem?_eq_some_iff.1 GX_24.out).1)
      have GEW : Hid (w.heap.size ≤ w_24.heap.size) := Lib.hid B_24.out.size
      obtain ⟨V_25, eV, hV0, belV, hszV⟩ := alloc1 w_24 (Obj.cells #[Value.bool nW, Value.slice aW kW cW] 25)
      have GA_26 := Lib.hid (blk_below' belV GA_24.out)
      have GB_26 := Lib.hid (blk_below' belV GB_24.out)
      have GR_26 := Lib.hid (blk_below' belV GR_24.out)
      have GD_26 := Lib.hid (blk_below' belV GD_24.out)
      have GX_26 := Lib.hid (blk_below' belV GX_24.out)
      have IA_26 := Lib.hid (IA_24.out.below belV)
      have IB_26 := Lib.hid (IB_24.out.below belV)
      have JR_26 := Lib.hid (JR_24.out.below belV)
      have JD_26 := Lib.hid (JD_24.out.below belV)
      have JY_26 := Lib.hid (JY_24.out.below belV)
      have JW_26 := Lib.hid (JW_24.out.below belV)
      have B_26 := Lib.hid (below_of B_24.out belV)
      clear GA_24 GB_24 GR_24 GD_24 GX_24 IA_24 IB_24 JR_24 JD_24 JY_24 JW_24 B_24
      have GW_26 : Hid (V_25.heap[w_24.heap.size]? = some (Obj.cells #[Value.bool nW, Value.slice aW kW cW] 25)) := Lib.hid hV0
      clear belV hszV hV0
      have CL := Lib.hid NS.2.2
      rcases NW with ⟨hr, dw⟩ | ⟨hr, dw⟩ | ⟨hr, dw⟩
      · have SR := Lib.hid hr.1; have SX := Lib.hid (NS.1 hr.2); have DW : Hid (zcmp (qU x y - qF x y) 0 = 0) := Lib.hid (zcmp_eq dw)
        clear NS hr dw
        obtain ⟨cR0, cR1, dR0, dR1, eR⟩ := blk2 GR_26.out
        go_wp2_with fail
        clear eV
        refine (signF _ (rC x y) 0 _ JR_26.out.2 SR.out).mono ?_
        rintro e w_27 ⟨rfl, hb⟩
        clear cR0 cR1 dR0 dR1 eR
        have GA_27 := Lib.hid (blk_below' hb GA_26.out)
        have GB_27 := Lib.hid (blk_below' hb GB_26.out)
        have GR_27 := Lib.hid (blk_below' hb GR_26.out)
        have GD_27 := Lib.hid (blk_below' hb GD_26.out)
        have GX_27 := Lib.hid (blk_below' hb GX_26.out)
        have GW_27 := Lib.hid (blk_below' hb GW_26.out)
        have IA_27 := Lib.hid (IA_26.out.below hb)
        have IB_27 := Lib.hid (IB_26.out.below hb)
        have JR_27 := Lib.hid (JR_26.out.below hb)
        have JD_27 := Lib.hid (JD_26.out.below hb)
        have JY_27 := Lib.hid (JY_26.out.below hb)
        have JW_27 := Lib.hid (JW_26.out.below hb)
        have B_27 := Lib.hid (below_of B_26.out hb)
        clear GA_26 GB_26 GR_26 GD_26 GX_26 GW_26 IA_26 IB_26 JR_26 JD_26 JY_26 JW_26 B_26
        clear hb 
        obtain ⟨cW0, cW1, dW0, dW1, eW⟩ := blk2 GW_27.out
        go_wp2_with fail
        refine (ofF 0 _ (by omega) (by omega)).mono ?_
        rintro e w_28 ⟨nO, aO, kO, cO, rfl, iO, hb⟩
        clear cW0 cW1 dW0 dW1 eW
        have GA_28 := Lib.hid (blk_below' hb GA_27.out)
        have GB_28 := Lib.hid (blk_below' hb GB_27.out)
        have GR_28 := Lib.hid (blk_below' hb GR_27.out)
        have GD_28 := Lib.hid (blk_below' hb GD_27.out)
        have GX_28 := Lib.hid (blk_below' hb GX_27.out)
        have GW_28 := Lib.hid (blk_below' hb GW_27.out)
        have IA_28 := Lib.hid (IA_27.out.below hb)
        have IB_28 := Lib.hid (IB_27.out.below hb)
        have JR_28 := Lib.hid (JR_27.out.below hb)
        have JD_28 := Lib.hid (JD_27.out.below hb)
        have JY_28 := Lib.hid (JY_27.out.below hb)
        have B_28 := Lib.hid (below_of B_27.out hb)
        clear GA_27 GB_27 GR_27 GD_27 GX_27 GW_27 IA_27 IB_27 JR_27 JD_27 JY_27 JW_27 B_27
        have JO_28 := Lib.hid iO
        clear hb iO
        clear GR_28
        clear JR_28
        obtain ⟨y0, y1, z0, z1, ye⟩ := blk2 GW_28.out
        obtain ⟨V_29, eV⟩ : ∃ V, (w_28.setCell ⟨w_24.heap.size, 0, none⟩ (.bool nO)).setCell ⟨w_24.heap.size, 1, none⟩ (.slice aO kO cO) = V := ⟨_, rfl⟩
        have GA_29 : Hid (V_29.heap[w.heap.size]? = some (Obj.cells #[Value.bool n0, Value.slice a0 k0 c0] 25)) := Lib.hid (by rw [← eV]; exact blk_far2 GA_28.out NEAW.out)
        have GB_29 : Hid (V_29.heap[w.heap.size + 1]? = some (Obj.cells #[Value.bool n1, Value.slice a1 k1 c1] 25)) := Lib.hid (by rw [← eV]; exact blk_far2 GB_28.out NEBW.out)
        have GD_29 : Hid (V_29.heap[w_16.heap.size]? = some (Obj.cells #[Value.bool nD, Value.slice aD kD cD] 25)) := Lib.hid (by rw [← eV]; exact blk_far2 GD_28.out NEDW.out)
        have GX_29 : Hid (V_29.heap[w_19.heap.size]? = some (Obj.cells #[Value.bool nY, Value.slice aY kY cY] 25)) := Lib.hid (by rw [← eV]; exact blk_far2 GX_28.out NEXW.out)
        have GW_29 : Hid (V_29.heap[w_24.heap.size]? = some (Obj.cells #[Value.bool nO, Value.slice aO kO cO] 25)) := Lib.hid (by rw [← eV]; exact blk_set (blk_set GW_28.out rfl) rfl)
        have IA_29 := Lib.hid (eV ▸ (IA_28.out.far (y0 := .bool nO) (y1 := .slice aO kO cO) GW_28.out))
        have IB_29 := Lib.hid (eV ▸ (IB_28.out.far (y0 := .bool nO) (y1 := .slice aO kO cO) GW_28.out))
        have JD_29 := Lib.hid (eV ▸ (JD_28.out.far (y0 := .bool nO) (y1 := .slice aO kO cO) GW_28.out))
        have JY_29 := Lib.hid (eV ▸ (JY_28.out.far (y0 := .bool nO) (y1 := .slice aO kO cO) GW_28.out))
        have JO_29 := Lib.hid (eV ▸ (JO_28.out.far (y0 := .bool nO) (y1 := .slice aO kO cO) GW_28.out))
        have B_29 : Hid (Below w.heap.size w V_29) := Lib.hid (by rw [← eV]; exact set_below (set_below B_28.out GEW.out) GEW.out)
        clear GA_28 GB_28 GD_28 GX_28 GW_28 IA_28 IB_28 JD_28 JY_28 JO_28 B_28
        have JW_29 := JO_29
        clear JO_29
        obtain ⟨cD0, cD1, dD0, dD1, eD⟩ := blk2 GD_29.out
        obtain ⟨cW0, cW1, dW0, dW1, eW⟩ := blk2 GW_29.out
        go_wp2_with fail
        clear eV y0 y1 z0 z1 ye
        refine (cmpF _ _ (qU x y - qF x y) 0 0 _ JD_29.out.2 JW_29.out.2 DW.out).mono ?_
        rintro e w_30 ⟨rfl, hb⟩
        clear cD0 cD1 dD0 dD1 eD cW0 cW1 dW0 dW1 eW
        have GA_30 := Lib.hid (blk_below' hb GA_29.out)
        have GB_30 := Lib.hid (blk_below' hb GB_29.out)
        have GD_30 := Lib.hid (blk_below' hb GD_29.out)
        have GX_30 := Lib.hid (blk_below' hb GX_29.out)
        have GW_30 := Lib.hid (blk_below' hb GW_29.out)
        have IA_30 := Lib.hid (IA_29.out.below hb)
        have IB_30 := Lib.hid (IB_29.out.below hb)
        have JD_30 := Lib.hid (JD_29.out.below hb)
        have JY_30 := Lib.hid (JY_29.out.below hb)
        have JW_30 := Lib.hid (JW_29.out.below hb)
        have B_30 := Lib.hid (below_of B_29.out hb)
        clear GA_29 GB_29 GD_29 GX_29 GW_29 IA_29 IB_29 JD_29 JY_29 JW_29 B_29
        clear hb 
        obtain ⟨cX0, cX1, dX0, dX1, eX⟩ := blk2 GX_30.out
        obtain ⟨cB0, cB1, dB0, dB1, eB⟩ := blk2 GB_30.out
        go_wp2_with fail
        have STAY : Hid (∀ w', Below w_30.heap.size w_30 w' → w'.cell? ⟨w_19.heap.size, 0, none⟩ = some (.bool nY) ∧ w'.cell? ⟨w_19.heap.size, 1, none⟩ = some (.slice aY kY cY) ∧ w'.cell? ⟨w.heap.size + 1, 0, none⟩ = some (.bool n1) ∧ w'.cell? ⟨w.heap.size + 1, 1, none⟩ = some (.slice a1 k1 c1) ∧ Below w_30.heap.size w_30 w') :=
          Lib.hid (fun w' h => ⟨cell_to h cX0 eX, cell_to h cX1 eX, cell_to h cB0 eB, cell_to h cB1 eB, h⟩)
        have hB0 := (Below.refl w_30.heap.size w_30).drew
        clear GA_30 GD_30 GW_30 IA_30 JD_30 JW_30 DW SR HY0
        go_region_with (first
          | (go_at_call 27; first
            | ((with_reducible refine Calls.mono (absF (.agg #[.bool nY, .slice aY kY cY]) (x - qF x y * y) _ ?_ NB.out.2.2.2.2) ?_); (exact JY_30.out.2.below (by assumption)); rintro e w7 ⟨q7n, q7a, q7k, q7c, rfl, i7, b7⟩; obtain ⟨p70, p71, p72, p73, hB7⟩ := STAY.out _ (below_to b7 (by assumption)))
            | ((with_reducible refine Calls.mono (absF (.agg #[.bool n1, .slice a1 k1 c1]) y _ ?_ NB.out.2.1) ?_); (exact IB_30.out.below (by assumption)); rintro e w8 ⟨q8n, q8a, q8k, q8c, rfl, i8, b8⟩; have i7' := i7.below b8; obtain ⟨p80, p81, p82, p83, hB8⟩ := STAY.out _ (below_to b8 (by assumption))))
          | (go_at_call 26; refine Calls.mono (cmpF _ _ ((x - qF x y * y).natAbs : Int) (y.natAbs : Int) (-1) _ i7'.2 i8.2 CL.out) ?_; rintro e w9 ⟨rfl, b9⟩; obtain ⟨p90, p91, p92, p93, hB9⟩ := STAY.out _ (below_to b9 (by assumption)))
          | (go_at_call 24; ((with_reducible refine Calls.mono (signF (.agg #[.bool nY, .slice aY kY cY]) (x - qF x y * y) _ _ ?_ SX.out) ?_); (exact JY_30.out.2.below (by assumption)); rintro e w10 ⟨rfl, b10⟩; obtain ⟨p100, p101, p102, p103, hB10⟩ := STAY.out _ (below_to b10 (by assumption)))))
        all_goals
          go_wp2
          go_ret
          exact ⟨rfl, below_of B_30.out (by assumption)⟩
      · have SR := Lib.hid hr.1; have SX := Lib.hid (NS.2.1 hr.2); have DW : Hid (zcmp (qU x y - qF x y) 1 = 0) := Lib.hid (zcmp_eq dw)
        clear NS hr dw
        obtain ⟨cR0, cR1, dR0, dR1, eR⟩ := blk2 GR_26.out
        go_wp2_with fail
        clear eV
        refine (signF _ (rC x y) 1 _ JR_26.out.2 SR.out).mono ?_
        rintro e w_27 ⟨rfl, hb⟩
        clear cR0 cR1 dR0 dR1 eR
        have GA_27 := Lib.hid (blk_below' hb GA_26.out)
        have GB_27 := Lib.hid (blk_below' hb GB_26.out)
        have GR_27 := Lib.hid (blk_below' hb GR_26.out)
        have GD_27 := Lib.hid (blk_below' hb GD_26.out)
        have GX_27 := Lib.hid (blk_below' hb GX_26.out)
        have GW_27 := Lib.hid (blk_below' hb GW_26.out)
        have IA_27 := Lib.hid (IA_26.out.below hb)
        have IB_27 := Lib.hid (IB_26.out.below hb)
        have JR_27 := Lib.hid (JR_26.out.below hb)
        have JD_27 := Lib.hid (JD_26.out.below hb)
        have JY_27 := Lib.hid (JY_26.out.below hb)
        have JW_27 := Lib.hid (JW_26.out.below hb)
        have B_27 := Lib.hid (below_of B_26.out hb)
        clear GA_26 GB_26 GR_26 GD_26 GX_26 GW_26 IA_26 IB_26 JR_26 JD_26 JY_26 JW_26 B_26
        clear hb 
        clear GR_27
        clear JR_27
        obtain ⟨cD0, cD1, dD0, dD1, eD⟩ := blk2 GD_27.out
        obtain ⟨cW0, cW1, dW0, dW1, eW⟩ := blk2 GW_27.out
        go_wp2_with fail
        refine (cmpF _ _ (qU x y - qF x y) 1 0 _ JD_27.out.2 JW_27.out.2 DW.out).mono ?_
        rintro e w_28 ⟨rfl, hb⟩
        clear cD0 cD1 dD0 dD1 eD cW0 cW1 dW0 dW1 eW
        have GA_28 := Lib.hid (blk_below' hb GA_27.out)
        have GB_28 := Lib.hid (blk_below' hb GB_27.out)
        have GD_28 := Lib.hid (blk_below' hb GD_27.out)
        have GX_28 := Lib.hid (blk_below' hb GX_27.out)
        have GW_28 := Lib.hid (blk_below' hb GW_27.out)
        have IA_28 := Lib.hid (IA_27.out.below hb)
        have IB_28 := Lib.hid (IB_27.out.below hb)
        have JD_28 := Lib.hid (JD_27.out.below hb)
        have JY_28 := Lib.hid (JY_27.out.below hb)
        have JW_28 := Lib.hid (JW_27.out.below hb)
        have B_28 := Lib.hid (below_of B_27.out hb)
        clear GA_27 GB_27 GD_27 GX_27 GW_27 IA_27 IB_27 JD_27 JY_27 JW_27 B_27
        clear hb 
        obtain ⟨cX0, cX1, dX0, dX1, eX⟩ := blk2 GX_28.out
        obtain ⟨cB0, cB1, dB0, dB1, eB⟩ := blk2 GB_28.out
        go_wp2_with fail
        have STAY : Hid (∀ w', Below w_28.heap.size w_28 w' → w'.cell? ⟨w_19.heap.size, 0, none⟩ = some (.bool nY) ∧ w'.cell? ⟨w_19.heap.size, 1, none⟩ = some (.slice aY kY cY) ∧ w'.cell? ⟨w.heap.size + 1, 0, none⟩ = some (.bool n1) ∧ w'.cell? ⟨w.heap.size + 1, 1, none⟩ = some (.slice a1 k1 c1) ∧ Below w_28.heap.size w_28 w') :=
          Lib.hid (fun w' h => ⟨cell_to h cX0 eX, cell_to h cX1 eX, cell_to h cB0 eB, cell_to h cB1 eB, h⟩)
        have hB0 := (Below.refl w_28.heap.size w_28).drew
        clear cX0 cX1 dX0 dX1 cB0 cB1 dB0 dB1
        clear GA_28 GD_28 GW_28 IA_28 JD_28 JW_28 DW SR HY0
        go_region_held3 (fun w' => w'.cell? ⟨w_19.heap.size, 0, none⟩ = some (.bool nY) ∧ w'.cell? ⟨w_19.heap.size, 1, none⟩ = some (.slice aY kY cY) ∧ w'.cell? ⟨w.heap.size + 1, 0, none⟩ = some (.bool n1) ∧ w'.cell? ⟨w.heap.size + 1, 1, none⟩ = some (.slice a1 k1 c1) ∧ Below w_28.heap.size w_28 w')
          ((try go_split_ands; refine STAY.out _ ?_; first | assumption | exact below_to (by assumption) (by assumption)))
          (first
          | (go_at_call 27; go_split_ands; first
            | ((with_reducible refine Calls.mono (absF (.agg #[.bool nY, .slice aY kY cY]) (x - qF x y * y) _ ?_ NB.out.2.2.2.2) ?_); (exact JY_28.out.2.below (by assumption)); rintro e w7 ⟨q7n, q7a, q7k, q7c, rfl, i7, b7⟩)
            | ((with_reducible refine Calls.mono (absF (.agg #[.bool n1, .slice a1 k1 c1]) y _ ?_ NB.out.2.1) ?_); (exact IB_28.out.below (by assumption)); rintro e w8 ⟨q8n, q8a, q8k, q8c, rfl, i8, b8⟩; have i7' := i7.below b8))
          | (go_at_call 26; go_split_ands; refine Calls.mono (cmpF _ _ ((x - qF x y * y).natAbs : Int) (y.natAbs : Int) (-1) _ i7'.2 i8.2 CL.out) ?_; rintro e w9 ⟨rfl, b9⟩)
          | (go_at_call 24; go_split_ands; first
            | ((with_reducible refine Calls.mono (signF (.agg #[.bool nY, .slice aY kY cY]) (x - qF x y * y) _ _ ?_ SX.out) ?_); (exact JY_28.out.2.below (by assumption)); rintro e w10 ⟨rfl, b10⟩)
            | ((with_reducible refine Calls.mono (signF (.agg #[.bool n1, .slice a1 k1 c1]) y _ _ ?_ SY.out) ?_); (exact IB_28.out.below (by assumption)); rintro e w11 ⟨rfl, b11⟩)))
        all_goals
          go_wp2
          go_ret
          exact ⟨rfl, below_of B_28.out (by first | assumption | (go_split_ands; assumption))⟩
      · have SR := Lib.hid hr.1; have SX := Lib.hid (NS.2.1 hr.2); have DW : Hid (zcmp (qU x y - qF x y) 1 = 0) := Lib.hid (zcmp_eq dw)
        clear NS hr dw
        obtain ⟨cR0, cR1, dR0, dR1, eR⟩ := blk2 GR_26.out
        go_wp2_with fail
        clear eV
        refine (signF _ (rC x y) (-1) _ JR_26.out.2 SR.out).mono ?_
        rintro e w_27 ⟨rfl, hb⟩
        clear cR0 cR1 dR0 dR1 eR
        have GA_27 := Lib.hid (blk_below' hb GA_26.out)
        have GB_27 := Lib.hid (blk_below' hb GB_26.out)
        have GR_27 := Lib.hid (blk_below' hb GR_26.out)
        have GD_27 := Lib.hid (blk_below' hb GD_26.out)
        have GX_27 := Lib.hid (blk_below' hb GX_26.out)
        have GW_27 := Lib.hid (blk_below' hb GW_26.out)
        have IA_27 := Lib.hid (IA_26.out.below hb)
        have IB_27 := Lib.hid (IB_26.out.below hb)
        have JR_27 := Lib.hid (JR_26.out.below hb)
        have JD_27 := Lib.hid (JD_26.out.below hb)
        have JY_27 := Lib.hid (JY_26.out.below hb)
        have JW_27 := Lib.hid (JW_26.out.below hb)
        have B_27 := Lib.hid (below_of B_26.out hb)
        clear GA_26 GB_26 GR_26 GD_26 GX_26 GW_26 IA_26 IB_26 JR_26 JD_26 JY_26 JW_26 B_26
        clear hb 
        clear GR_27
        clear JR_27
        obtain ⟨cD0, cD1, dD0, dD1, eD⟩ := blk2 GD_27.out
        obtain ⟨cW0, cW1, dW0, dW1, eW⟩ := blk2 GW_27.out
        go_wp2_with fail
        refine (cmpF _ _ (qU x y - qF x y) 1 0 _ JD_27.out.2 JW_27.out.2 DW.out).mono ?_
        rintro e w_28 ⟨rfl, hb⟩
        clear cD0 cD1 dD0 dD1 eD cW0 cW1 dW0 dW1 eW
        have GA_28 := Lib.hid (blk_below' hb GA_27.out)
        have GB_28 := Lib.hid (blk_below' hb GB_27.out)
        have GD_28 := Lib.hid (blk_below' hb GD_27.out)
        have GX_28 := Lib.hid (blk_below' hb GX_27.out)
        have GW_28 := Lib.hid (blk_below' hb GW_27.out)
        have IA_28 := Lib.hid (IA_27.out.below hb)
        have IB_28 := Lib.hid (IB_27.out.below hb)
        have JD_28 := Lib.hid (JD_27.out.below hb)
        have JY_28 := Lib.hid (JY_27.out.below hb)
        have JW_28 := Lib.hid (JW_27.out.below hb)
        have B_28 := Lib.hid (below_of B_27.out hb)
        clear GA_27 GB_27 GD_27 GX_27 GW_27 IA_27 IB_27 JD_27 JY_27 JW_27 B_27
        clear hb 
        obtain ⟨cX0, cX1, dX0, dX1, eX⟩ := blk2 GX_28.out
        obtain ⟨cB0, cB1, dB0, dB1, eB⟩ := blk2 GB_28.out
        go_wp2_with fail
        have STAY : Hid (∀ w', Below w_28.heap.size w_28 w' → w'.cell? ⟨w_19.heap.size, 0, none⟩ = some (.bool nY) ∧ w'.cell? ⟨w_19.heap.size, 1, none⟩ = some (.slice aY kY cY) ∧ w'.cell? ⟨w.heap.size + 1, 0, none⟩ = some (.bool n1) ∧ w'.cell? ⟨w.heap.size + 1, 1, none⟩ = some (.slice a1 k1 c1) ∧ Below w_28.heap.size w_28 w') :=
          Lib.hid (fun w' h => ⟨cell_to h cX0 eX, cell_to h cX1 eX, cell_to h cB0 eB, cell_to h cB1 eB, h⟩)
        have hB0 := (Below.refl w_28.heap.size w_28).drew
        clear cX0 cX1 dX0 dX1 cB0 cB1 dB0 dB1
        clear GA_28 GD_28 GW_28 IA_28 JD_28 JW_28 DW SR HY0
        go_region_held3 (fun w' => w'.cell? ⟨w_19.heap.size, 0, none⟩ = some (.bool nY) ∧ w'.cell? ⟨w_19.heap.size, 1, none⟩ = some (.slice aY kY cY) ∧ w'.cell? ⟨w.heap.size + 1, 0, none⟩ = some (.bool n1) ∧ w'.cell? ⟨w.heap.size + 1, 1, none⟩ = some (.slice a1 k1 c1) ∧ Below w_28.heap.size w_28 w')
          ((try go_split_ands; refine STAY.out _ ?_; first | assumption | exact below_to (by assumption) (by assumption)))
          (first
          | (go_at_call 27; go_split_ands; first
            | ((with_reducible refine Calls.mono (absF (.agg #[.bool nY, .slice aY kY cY]) (x - qF x y * y) _ ?_ NB.out.2.2.2.2) ?_); (exact JY_28.out.2.below (by assumption)); rintro e w7 ⟨q7n, q7a, q7k, q7c, rfl, i7, b7⟩)
            | ((with_reducible refine Calls.mono (absF (.agg #[.bool n1, .slice a1 k1 c1]) y _ ?_ NB.out.2.1) ?_); (exact IB_28.out.below (by assumption)); rintro e w8 ⟨q8n, q8a, q8k, q8c, rfl, i8, b8⟩; have i7' := i7.below b8))
          | (go_at_call 26; go_split_ands; refine Calls.mono (cmpF _ _ ((x - qF x y * y).natAbs : Int) (y.natAbs : Int) (-1) _ i7'.2 i8.2 CL.out) ?_; rintro e w9 ⟨rfl, b9⟩)
          | (go_at_call 24; go_split_ands; first
            | ((with_reducible refine Calls.mono (signF (.agg #[.bool nY, .slice aY kY cY]) (x - qF x y * y) _ _ ?_ SX.out) ?_); (exact JY_28.out.2.below (by assumption)); rintro e w10 ⟨rfl, b10⟩)
            | ((with_reducible refine Calls.mono (signF (.agg #[.bool n1, .slice a1 k1 c1]) y _ _ ?_ SY.out) ?_); (exact IB_28.out.below (by assumption)); rintro e w11 ⟨rfl, b11⟩)))
        all_goals
          go_wp2
          go_ret
          exact ⟨rfl, below_of B_28.out (by first | assumption | (go_split_ands; assumption))⟩
end Go.Proofs.YtckmpnfadpnaeaaDoor
