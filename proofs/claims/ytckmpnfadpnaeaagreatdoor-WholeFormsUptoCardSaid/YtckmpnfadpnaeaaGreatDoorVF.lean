/- WholeForms: the law's own walk. -/
import Derived.Test.YtckmpnfadpnaeaaGreatDoorFB
import Derived.Test.YtckmpnfadpnaeaaGreatDoorZC
import Derived.Test.YtckmpnfadpnaeaaGreatDoorZT
import Derived.Test.YtckmpnfadpnaeaaGreatDoorZU
set_option linter.unusedVariables false
set_option linter.unusedSimpArgs false
namespace Go.Proofs.YtckmpnfadpnaeaaGreatDoor
open Go.RowKit Mth

set_option maxHeartbeats 16000000 in
set_option maxRecDepth 100000 in
theorem forms_walk (w : World) (v0 v1 : Value) (x y n : Int) (hz : TZ10 w) (h0 : IntV w v0 x) (h1 : IntV w v1 y) (hn : -9223372036854775808 ≤ n ∧ n ≤ 9223372036854775807) :
    Calls Tryz.prog 3 #[v0, v1, .int .i64 n] w fun e w' => e = .returned (.bool true) ∧ Below w.heap.size w w' := by
  have HZ := Lib.hid hz; have HN := Lib.hid hn
  obtain ⟨n0, a0, k0, c0, rfl⟩ := h0.shape
  obtain ⟨n1, a1, k1, c1, rfl⟩ := h1.shape
  have IA_0 := Lib.hid h0; have IB_0 := Lib.hid h1
  clear hz h0 h1 hn
  go_enter Tryz.func3, Tryz.ntmps3
  have B_0 := Lib.hid (Below.refl w.heap.size w)
  obtain ⟨V_1, eV, hV0, hV1, belV, hszV⟩ := alloc2 w (Obj.cells #[Value.bool n0, Value.slice a0 k0 c0] 25) (Obj.cells #[Value.bool n1, Value.slice a1 k1 c1] 25)
  have IA_2 := Lib.hid (IA_0.out.below belV)
  have IB_2 := Lib.hid (IB_0.out.below belV)
  have B_2 := Lib.hid (below_of B_0.out belV)
  clear IA_0 IB_0 B_0
  have GA_2 : Hid (V_1.heap[w.heap.size]? = some (Obj.cells #[Value.bool n0, Value.slice a0 k0 c0] 25)) := Lib.hid hV0
  have GB_2 : Hid (V_1.heap[w.heap.size + 1]? = some (Obj.cells #[Value.bool n1, Value.slice a1 k1 c1] 25)) := Lib.hid hV1
  clear belV hszV hV0 hV1
  obtain ⟨cA0, cA1, dA0, dA1, eA⟩ := blk2 GA_2.out
  go_wp2_with fail
  clear eV
  refine (smallI_any _ x _ IA_2.out).mono ?_
  rintro e w_3 ⟨rfl, hb⟩
  clear cA0 cA1 dA0 dA1 eA
  have GA_3 := Lib.hid (blk_below' hb GA_2.out)
  have GB_3 := Lib.hid (blk_below' hb GB_2.out)
  have IA_3 := Lib.hid (IA_2.out.below hb)
  have IB_3 := Lib.hid (IB_2.out.below hb)
  have B_3 := Lib.hid (below_of B_2.out hb)
  clear GA_2 GB_2 IA_2 IB_2 B_2
  clear hb 
  obtain ⟨cA0, cA1, dA0, dA1, eA⟩ := blk2 GA_3.out
  go_wp2_with fail
  refine (rsmall_any2 _ x _ IA_3.out).mono ?_
  rintro e w_4 ⟨rfl, hb⟩
  clear cA0 cA1 dA0 dA1 eA
  have GA_4 := Lib.hid (blk_below' hb GA_3.out)
  have GB_4 := Lib.hid (blk_below' hb GB_3.out)
  have IA_4 := Lib.hid (IA_3.out.below hb)
  have IB_4 := Lib.hid (IB_3.out.below hb)
  have B_4 := Lib.hid (below_of B_3.out hb)
  clear GA_3 GB_3 IA_3 IB_3 B_3
  clear hb 
  obtain ⟨cA0, cA1, dA0, dA1, eA⟩ := blk2 GA_4.out
  obtain ⟨cB0, cB1, dB0, dB1, eB⟩ := blk2 GB_4.out
  go_wp2_with fail
  have STAY : Hid (∀ w', Below w_4.heap.size w_4 w' → w'.cell? ⟨w.heap.size, 0, none⟩ = some (.bool n0) ∧ w'.cell? ⟨w.heap.size, 1, none⟩ = some (.slice a0 k0 c0) ∧ w'.cell? ⟨w.heap.size + 1, 0, none⟩ = some (.bool n1) ∧ w'.cell? ⟨w.heap.size + 1, 1, none⟩ = some (.slice a1 k1 c1) ∧ Below w_4.heap.size w_4 w') :=
    Lib.hid (fun w' h => ⟨cell_to h cA0 eA, cell_to h cA1 eA, cell_to h cB0 eB, cell_to h cB1 eB, h⟩)
  have hB0 := (Below.refl w_4.heap.size w_4).drew
  clear cA0 cA1 dA0 dA1 cB0 cB1 dB0 dB1
  obtain ⟨p0, p1, p2, p3, _⟩ := STAY.out _ hB0
  obtain ⟨sv, hsv⟩ : ∃ s, smV x = s := ⟨_, rfl⟩
  obtain ⟨sb, hsb⟩ : ∃ s, smB x = s := ⟨_, rfl⟩
  rw [hsv, hsb]
  clear hsv hsb
  have hs1 : (sv == sv) = true := beq_self_eq_true _
  have hs2 : (sb == sb) = true := beq_self_eq_true _
  go_region_held3 (fun w' => w'.cell? ⟨w.heap.size, 0, none⟩ = some (.bool n0) ∧ w'.cell? ⟨w.heap.size, 1, none⟩ = some (.slice a0 k0 c0) ∧ w'.cell? ⟨w.heap.size + 1, 0, none⟩ = some (.bool n1) ∧ w'.cell? ⟨w.heap.size + 1, 1, none⟩ = some (.slice a1 k1 c1) ∧ Below w_4.heap.size w_4 w')
    ((try go_split_ands; refine STAY.out _ ?_; first | assumption | exact below_to (by assumption) (by assumption)))
    (first
    | (go_at_call 9; go_split_ands; refine (ofI_any n _ HN.out.1 HN.out.2).mono ?_; rintro e w11 ⟨v11, rfl, j11, b11⟩; obtain ⟨n11, a11, k11, c11, rfl⟩ := j11.shape)
    | (go_at_call 10; go_split_ands; refine (rof_any2 n _ HN.out.1 HN.out.2).mono ?_; rintro e w12 ⟨v12, rfl, j12, b12⟩; have j11' := (j11.below b12).k; obtain ⟨n12, a12, k12, c12, rfl⟩ := j12.shape)
    | (go_at_call 11; go_split_ands; refine Calls.mono (normI_any _ x _ ?_) ?_; (exact IA_4.out.below (by assumption)); rintro e w14 ⟨v14, rfl, j14, b14⟩; obtain ⟨n14, a14, k14, c14, rfl⟩ := j14.shape)
    | (go_at_call 12; go_split_ands; refine Calls.mono (rnorm_any _ x _ ?_) ?_; (exact IA_4.out.below (by assumption)); rintro e w15 ⟨v15, rfl, j15, b15⟩; have j14' := (j14.below b15).k; obtain ⟨n15, a15, k15, c15, rfl⟩ := j15.shape)
    | (go_at_call 8; go_split_ands; first | (refine (same_any _ _ n _ j11' j12).mono ?_; rintro e w13 ⟨rfl, b13⟩; clear j11 j11' j12) | (refine (same_any _ _ x _ j14' j15).mono ?_; rintro e w16 ⟨rfl, b16⟩; clear j14 j14' j15)))
  have hBL : Below w_4.heap.size w_4 w16 := by first | assumption | (go_split_ands; assumption)
  have HBL := Lib.hid hBL
  clear STAY
  have GA_5 := Lib.hid (blk_below' HBL.out GA_4.out)
  have GB_5 := Lib.hid (blk_below' HBL.out GB_4.out)
  have IA_5 := Lib.hid (IA_4.out.below HBL.out)
  have IB_5 := Lib.hid (IB_4.out.below HBL.out)
  have B_5 := Lib.hid (below_of B_4.out HBL.out)
  clear GA_4 GB_4 IA_4 IB_4 B_4
  clear hBL HBL hB0 hs1 hs2
  try clear p0 p1 p2 p3
  obtain ⟨cA0, cA1, dA0, dA1, eA⟩ := blk2 GA_5.out
  obtain ⟨cB0, cB1, dB0, dB1, eB⟩ := blk2 GB_5.out
  go_wp2_with fail
  have STAY : Hid (∀ w', Below w16.heap.size w16 w' → w'.cell? ⟨w.heap.size, 0, none⟩ = some (.bool n0) ∧ w'.cell? ⟨w.heap.size, 1, none⟩ = some (.slice a0 k0 c0) ∧ w'.cell? ⟨w.heap.size + 1, 0, none⟩ = some (.bool n1) ∧ w'.cell? ⟨w.heap.size + 1, 1, none⟩ = some (.slice a1 k1 c1) ∧ Below w16.heap.size w16 w') :=
    Lib.hid (fun w' h => ⟨cell_to h cA0 eA, cell_to h cA1 eA, cell_to h cB0 eB, cell_to h cB1 eB, h⟩)
  have hB0 := (Below.refl w16.heap.size w16).drew
  clear cA0 cA1 dA0 dA1 cB0 cB1 dB0 dB1
  obtain ⟨p0, p1, p2, p3, _⟩ := STAY.out _ hB0
  obtain ⟨o1, HO1'⟩ : ∃ o, zcmp x y = o := ⟨_, rfl⟩
  obtain ⟨o2, HO2'⟩ : ∃ o, zcmp x 0 = o := ⟨_, rfl⟩
  have HO1 := Lib.hid HO1'; have HO2 := Lib.hid HO2'
  clear HO1' HO2'
  have hs1 : (o1 == o1) = true := beq_self_eq_true _
  have hs2 : (o2 == o2) = true := beq_self_eq_true _
  go_region_held3 (fun w' => w'.cell? ⟨w.heap.size, 0, none⟩ = some (.bool n0) ∧ w'.cell? ⟨w.heap.size, 1, none⟩ = some (.slice a0 k0 c0) ∧ w'.cell? ⟨w.heap.size + 1, 0, none⟩ = some (.bool n1) ∧ w'.cell? ⟨w.heap.size + 1, 1, none⟩ = some (.slice a1 k1 c1) ∧ Below w16.heap.size w16 w')
    ((try go_split_ands; refine STAY.out _ ?_; first | assumption | exact below_to (by assumption) (by assumption)))
    (first
    | (go_at_call 13; go_split_ands; refine Calls.mono (cmpI_any _ _ x y _ ?_ ?_) ?_; (exact IA_5.out.below (by assumption)); (exact IB_5.out.below (by assumption)); rintro e w21 ⟨rfl, b21⟩; rw [HO1.out])
    | (go_at_call 14; go_split_ands; refine Calls.mono (rcmp_any2 _ _ x y _ ?_ ?_) ?_; (exact IA_5.out.below (by assumption)); (exact IB_5.out.below (by assumption)); rintro e w22 ⟨rfl, b22⟩; rw [HO1.out])
    | (go_at_call 15; go_split_ands; refine Calls.mono (sign_any _ x _ ?_) ?_; (exact IA_5.out.below (by assumption)); rintro e w23 ⟨rfl, b23⟩; rw [HO2.out])
    | (go_at_call 16; go_split_ands; refine Calls.mono (rsign_any2 _ x _ ?_) ?_; (exact IA_5.out.below (by assumption)); rintro e w24 ⟨rfl, b24⟩; rw [HO2.out])
    | (go_at_call 17; go_split_ands; refine Calls.mono (neg_any _ x _ ?_) ?_; (exact IA_5.out.below (by assumption)); rintro e w25 ⟨v25, rfl, j25, b25⟩; obtain ⟨n25, a25, k25, c25, rfl⟩ := j25.shape)
    | (go_at_call 18; go_split_ands; refine Calls.mono (rneg_any _ x _ ?_) ?_; (exact IA_5.out.below (by assumption)); rintro e w26 ⟨v26, rfl, j26, b26⟩; have j25' := (j25.below b26).k; obtain ⟨n26, a26, k26, c26, rfl⟩ := j26.shape)
    | (go_at_call 19; go_split_ands; refine Calls.mono (absI_any _ x _ ?_) ?_; (exact IA_5.out.below (by assumption)); rintro e w28 ⟨v28, rfl, j28, b28⟩; obtain ⟨n28, a28, k28, c28, rfl⟩ := j28.shape)
    | (go_at_call 20; go_split_ands; refine Calls.mono (rabs_any _ x _ ?_) ?_; (exact IA_5.out.below (by assumption)); rintro e w29 ⟨v29, rfl, j29, b29⟩; have j28' := (j28.below b29).k; obtain ⟨n29, a29, k29, c29, rfl⟩ := j29.shape)
    | (go_at_call 8; go_split_ands; first | (refine (same_any _ _ (-x) _ j25' j26).mono ?_; rintro e w27 ⟨rfl, b27⟩; clear j25 j25' j26) | (refine (same_any _ _ (x.natAbs : Int) _ j28' j29).mono ?_; rintro e w30 ⟨rfl, b30⟩; clear j28 j28' j29))
    | (go_at_call 21; go_split_ands; refine Calls.mono (awake_any _ ?_) ?_; (exact HZ.out.below (below_of B_5.out (by assumption))); rintro e w31 ⟨rfl, b31⟩))
  have hBL : Below w16.heap.size w16 w31 := by first | assumption | (go_split_ands; assumption)
  have HBL := Lib.hid hBL
  clear STAY
  go_wp2
  go_ret
  exact ⟨rfl, below_of B_5.out HBL.out⟩
end Go.Proofs.YtckmpnfadpnaeaaGreatDoor
