/- BitsDivides: its cases (gendiv9.py). -/
import Derived.Test.YtccofiakblmkhaaGreatD9N9
import Derived.Test.YtccofiakblmkhaaGreatD9N5
set_option linter.unusedVariables false
set_option linter.unusedSimpArgs false
namespace Go.Proofs.YtccofiakblmkhaaGreat
open Go.RowKit Mth

set_option maxHeartbeats 16000000 in
set_option maxRecDepth 100000 in
theorem divides_tts (wd : Nat) (h1 : 1 ≤ wd) (h2 : wd ≤ 4096) (v0 v1 : Value) (i0 i1 : Int) (w : World) (g0 : IntV w v0 i0) (g1 : IntV w v1 i1) (x y nq nr np ns nm : Nat) (hx : vecN wd i0 = x) (hy : vecN wd i1 = y)
    (q1 : vecN wd (udivZ x y) = nq) (q2 : vecN wd (leftZ (x : Int) y) = nr) (q3 : vecN wd (sdivZ (sgV wd x) (sgV wd y)) = np) (q4 : vecN wd (leftZ (sgV wd x) (sgV wd y)) = ns) (q5 : vecN wd (smodZ (sgV wd x) (sgV wd y)) = nm)
    (e1 : x = vecN wd ((vecN wd ((nq : Int) * y) : Nat) + (nr : Int))) (e2 : x = vecN wd ((vecN wd ((np : Int) * y) : Nat) + (ns : Int)))
    (d0 : decide (y = 0) = false) (db : decide (nr < y) = true) (dn : decide (sgV wd nm < sgV wd (0 % 2 ^ wd)) = true) (dy : decide (sgV wd y < sgV wd (0 % 2 ^ wd)) = true) (es : ns = nm) :
    Calls Tryz.prog 8 #[.int .i64 (wd : Int), v0, v1] w fun e w' => e = .returned (.bool true) ∧ Below w.heap.size w w' := by
  have F1 : Hid (∀ v w1, IntV w1 v i0 → Calls Tryz.prog 14 #[.int .i64 (wd : Int), v] w1 fun e w' => ResBE w1 w' e wd x) := Lib.hid (fun v w1 h => by rw [← hx]; exact fromK wd h1 h2 v i0 w1 h)
  have F2 : Hid (∀ v w1, IntV w1 v i1 → Calls Tryz.prog 14 #[.int .i64 (wd : Int), v] w1 fun e w' => ResBE w1 w' e wd y) := Lib.hid (fun v w1 h => by rw [← hy]; exact fromK wd h1 h2 v i1 w1 h)
  have T55 : Hid (∀ (w1 : World) (a a' : Option Addr) (k c k' c' : Nat), BvK w1 wd a k c x → BvK w1 wd a' k' c' y → Calls Tryz.prog 31 #[.int .i64 55, .agg #[.int .i64 (wd : Int), .slice a k c], .agg #[.int .i64 (wd : Int), .slice a' k' c']] w1 fun e w' => ResB w1 w' e wd nq) := Lib.hid (fun w1 a a' k c k' c' ha hb => by rw [← q1]; exact two_udiv wd x y h1 h2 w1 a a' k c k' c' ha hb)
  have T56 : Hid (∀ (w1 : World) (a a' : Option Addr) (k c k' c' : Nat), BvK w1 wd a k c x → BvK w1 wd a' k' c' y → Calls Tryz.prog 31 #[.int .i64 56, .agg #[.int .i64 (wd : Int), .slice a k c], .agg #[.int .i64 (wd : Int), .slice a' k' c']] w1 fun e w' => ResB w1 w' e wd nr) := Lib.hid (fun w1 a a' k c k' c' ha hb => by rw [← q2]; exact two_urem wd x y h1 h2 w1 a a' k c k' c' ha hb)
  have T57 : Hid (∀ (w1 : World) (a a' : Option Addr) (k c k' c' : Nat), BvK w1 wd a k c x → BvK w1 wd a' k' c' y → Calls Tryz.prog 31 #[.int .i64 57, .agg #[.int .i64 (wd : Int), .slice a k c], .agg #[.int .i64 (wd : Int), .slice a' k' c']] w1 fun e w' => ResB w1 w' e wd np) := Lib.hid (fun w1 a a' k c k' c' ha hb => by rw [← q3]; exact two_sdiv wd x y h1 h2 w1 a a' k c k' c' ha hb)
  have T58 : Hid (∀ (w1 : World) (a a' : Option Addr) (k c k' c' : Nat), BvK w1 wd a k c x → BvK w1 wd a' k' c' y → Calls Tryz.prog 31 #[.int .i64 58, .agg #[.int .i64 (wd : Int), .slice a k c], .agg #[.int .i64 (wd : Int), .slice a' k' c']] w1 fun e w' => ResB w1 w' e wd ns) := Lib.hid (fun w1 a a' k c k' c' ha hb => by rw [← q4]; exact two_srem wd x y h1 h2 w1 a a' k c k' c' ha hb)
  have T59 : Hid (∀ (w1 : World) (a a' : Option Addr) (k c k' c' : Nat), BvK w1 wd a k c x → BvK w1 wd a' k' c' y → Calls Tryz.prog 31 #[.int .i64 59, .agg #[.int .i64 (wd : Int), .slice a k c], .agg #[.int .i64 (wd : Int), .slice a' k' c']] w1 fun e w' => ResB w1 w' e wd nm) := Lib.hid (fun w1 a a' k c k' c' ha hb => by rw [← q5]; exact two_smod wd x y h1 h2 w1 a a' k c k' c' ha hb)
  have E1 := Lib.hid e1
  have E2 := Lib.hid e2
  have D0 := Lib.hid d0
  have DB := Lib.hid db
  have DN := Lib.hid dn
  have DY := Lib.hid dy
  have ES := Lib.hid es
  clear hx hy q1 q2 q3 q4 q5 e1 e2 d0 db dn dy es
  obtain ⟨n0, a0, k0, c0, rfl⟩ := g0.shape
  obtain ⟨n1, a1, k1, c1, rfl⟩ := g1.shape
  obtain ⟨W, eW, gw0, gw1, bel, hsz⟩ := alloc2 w (Obj.cells #[.bool n0, .slice a0 k0 c0] 26) (Obj.cells #[.bool n1, .slice a1 k1 c1] 26)
  have Gi := Lib.hid gw0; have Gj := Lib.hid gw1
  have B0 := Lib.hid bel
  have Ii := Lib.hid (g0.below bel); have Ij := Lib.hid (g1.below bel)
  clear g0 g1 gw0 gw1 bel
  go_enter Tryz.func8, Tryz.ntmps8
  obtain ⟨p_1, q_1, -, -, -⟩ := blk2 Gi.out
  go_wp2_with fail
  try rw [eW]
  refine (F1.out _ _ Ii.out).mono ?_
  rintro e w_2 ⟨a_2, k_2, c_2, rfl, hk, hb⟩
  clear p_1 q_1
  have Gi_3 := Lib.hid (car hb Gi.out)
  have Gj_4 := Lib.hid (car hb Gj.out)
  have Ii_5 := Lib.hid (Ii.out.below hb)
  have Ij_6 := Lib.hid (Ij.out.below hb)
  have B_7 := Lib.hid (below_of B0.out hb)
  clear Gi Gj Ii Ij B0
  have Kx_8 := Lib.hid hk
  clear hk hb
  obtain ⟨V_9, eV_9, gV, bV, hV_9⟩ := alloc1n w_2 (Obj.cells #[.int .i64 (wd : Int), .slice a_2 k_2 c_2] 28)
  have Gi_10 := Lib.hid (car bV Gi_3.out)
  have Gj_11 := Lib.hid (car bV Gj_4.out)
  have Kx_12 := Lib.hid (Kx_8.out.below bV)
  have Ii_13 := Lib.hid (Ii_5.out.below bV)
  have Ij_14 := Lib.hid (Ij_6.out.below bV)
  have B_15 := Lib.hid (below_of B_7.out bV)
  clear Gi_3 Gj_4 Kx_8 Ii_5 Ij_6 B_7
  have G_16 := Lib.hid gV
  clear gV bV
  clear Gi_10 Ii_13
  obtain ⟨p_17, q_17, -, -, -⟩ := blk2 Gj_11.out
  go_wp2_with fail
  try rw [eV_9]
  refine (F2.out _ _ Ij_14.out).mono ?_
  rintro e w_18 ⟨a_18, k_18, c_18, rfl, hk, hb⟩
  clear p_17 q_17
  have Gx_19 := Lib.hid (car hb G_16.out)
  have Gj_20 := Lib.hid (car hb Gj_11.out)
  have Kx_21 := Lib.hid (Kx_12.out.below hb)
  have Ij_22 := Lib.hid (Ij_14.out.below hb)
  have B_23 := Lib.hid (below_of B_15.out hb)
  clear G_16 Gj_11 Kx_12 Ij_14 B_15
  have Ky_24 := Lib.hid hk
  clear hk hb
  obtain ⟨V_25, eV_25, gV, bV, hV_25⟩ := alloc1n w_18 (Obj.cells #[.int .i64 (wd : Int), .slice a_18 k_18 c_18] 28)
  have Gx_26 := Lib.hid (car bV Gx_19.out)
  have Gj_27 := Lib.hid (car bV Gj_20.out)
  have Kx_28 := Lib.hid (Kx_21.out.below bV)
  have Ky_29 := Lib.hid (Ky_24.out.below bV)
  have Ij_30 := Lib.hid (Ij_22.out.below bV)
  have B_31 := Lib.hid (below_of B_23.out bV)
  clear Gx_19 Gj_20 Kx_21 Ky_24 Ij_22 B_23
  have G_32 := Lib.hid gV
  clear gV bV
  clear Gj_27 Ij_30
  go_upto_region 5 with fail
  try rw [eV_25]
  have STAYb_33 : Hid (∀ w', Below V_25.heap.size V_25 w' → w'.cell? ⟨w_2.heap.size, 0, none⟩ = some (.int .i64 (wd : Int)) ∧ w'.cell? ⟨w_2.heap.size, 1, none⟩ = some (.slice a_2 k_2 c_2) ∧ w'.cell? ⟨w_18.heap.size, 0, none⟩ = some (.int .i64 (wd : Int)) ∧ w'.cell? ⟨w_18.heap.size, 1, none⟩ = some (.slice a_18 k_18 c_18) ∧ Below V_25.heap.size V_25 w' ∧ V_25.heap.size ≤ w'.heap.size) := Lib.hid (fun w' hb => by
    obtain ⟨e0, e1, -, -, -⟩ := blk2 (car hb Gx_26.out)
    obtain ⟨e2, e3, -, -, -⟩ := blk2 (car hb G_32.out)
    exact ⟨e0, e1, e2, e3, hb, hb.size⟩)
  have CAb_33 : Hid (∀ w1, Below V_25.heap.size V_25 w1 → _) := Lib.hid (fun w1 hw => T55.out w1 _ _ _ _ _ _ (Kx_28.out.below hw) (Ky_29.out.below hw))
  have CBb_33 : Hid (∀ w1, Below V_25.heap.size V_25 w1 → _) := Lib.hid (fun w1 hw => T56.out w1 _ _ _ _ _ _ (Kx_28.out.below hw) (Ky_29.out.below hw))
  have hBb_33 := (Below.refl V_25.heap.size V_25).drew
  go_cut [11, 12] (fun sa sb wx => BoxB V_25 wx wd nq nr sa sb)
  case first =>
    go_region_held3 (fun w' => w'.cell? ⟨w_2.heap.size, 0, none⟩ = some (.int .i64 (wd : Int)) ∧ w'.cell? ⟨w_2.heap.size, 1, none⟩ = some (.slice a_2 k_2 c_2) ∧ w'.cell? ⟨w_18.heap.size, 0, none⟩ = some (.int .i64 (wd : Int)) ∧ w'.cell? ⟨w_18.heap.size, 1, none⟩ = some (.slice a_18 k_18 c_18) ∧ Below V_25.heap.size V_25 w' ∧ V_25.heap.size ≤ w'.heap.size)
      (((try go_split_ands); refine STAYb_33.out _ ?_; repeat (first | (with_reducible assumption) | (with_reducible exact Below.refl _ _) | (with_reducible refine Below.drew ?_) | (with_reducible exact below_to (by with_reducible assumption) (by with_reducible assumption)) | ((with_reducible refine Below.alloc ?_ ?_ _); rotate_left; (focus (first | omega | (simp; done) | (simp; omega)))) | ((with_reducible refine Below.setCell ?_ ?_ _); rotate_left; (focus (first | omega | (simp; done) | (simp; omega)))))))
      (first
      | (have tk := TKb_33_1; go_at_call 31; go_split_ands; (with_reducible refine Calls.mono (CBb_33.out _ (by with_reducible assumption)) ?_); rintro e wb_33_2 ⟨ab_33_2, kb_33_2, cb_33_2, rfl, iib_33_2, hbb_33_2⟩; have hkb_33_2 := below_to hbb_33_2 (by with_reducible assumption); have hzb_33_2 := hkb_33_2.size; obtain ⟨hcb_33_2, hfb_33_2⟩ := bcell hbb_33_2; have hyb_33_2 := hbb_33_2.size; (try simp only [sz_alloc, sz_set, sz_drew] at hyb_33_2); (try (have hqb_33_2 : V_25.heap.size < wb_33_2.heap.size := by omega)); (try (have hrb_33_2 : V_25.heap.size + 1 < wb_33_2.heap.size := by omega)); (try (have hpb_33 : wb_33_1.heap.size < wb_33_2.heap.size := by omega)); (try (have hsb_33 : wb_33_1.heap.size + 1 < wb_33_2.heap.size := by omega)); (first | (have ijb_33 := bvk_call hbb_33_2 iib_33_1) | (have ijb_33 := bvk_call hbb_33_2 (bvk_alloc iib_33_1)) | (have ijb_33 := bvk_call hbb_33_2 (bvk_alloc (bvk_alloc iib_33_1))) | (have ijb_33 := bvk_call hbb_33_2 (bvk_drew iib_33_1)) | (have ijb_33 := bvk_call hbb_33_2 (bvk_alloc (bvk_drew iib_33_1))) | (have ijb_33 := bvk_call hbb_33_2 (bvk_drew (bvk_alloc iib_33_1))) | (have ijb_33 := bvk_call hbb_33_2 (bvk_alloc (bvk_alloc (bvk_drew iib_33_1)))) | (have ijb_33 := bvk_call hbb_33_2 (bvk_drew (bvk_alloc (bvk_alloc iib_33_1))))); clear iib_33_1; have iib_33_1 := ijb_33; clear ijb_33; have TKb_33_2 : True := trivial)
      | (go_at_call 31; go_split_ands; (with_reducible refine Calls.mono (CAb_33.out _ (by with_reducible assumption)) ?_); rintro e wb_33_1 ⟨ab_33_1, kb_33_1, cb_33_1, rfl, iib_33_1, hbb_33_1⟩; have hkb_33_1 := below_to hbb_33_1 (by with_reducible assumption); have hzb_33_1 := hkb_33_1.size; obtain ⟨hcb_33_1, hfb_33_1⟩ := bcell hbb_33_1; have hyb_33_1 := hbb_33_1.size; (try simp only [sz_alloc, sz_set, sz_drew] at hyb_33_1); (try (have hqb_33_1 : V_25.heap.size < wb_33_1.heap.size := by omega)); (try (have hrb_33_1 : V_25.heap.size + 1 < wb_33_1.heap.size := by omega)); have TKb_33_1 : True := trivial))
    all_goals
      (go_wp2_with fail
       go_meet
       clear hcb_33_1 hfb_33_1 hcb_33_2 hfb_33_2
       refine ⟨_, ab_33_1, kb_33_1, cb_33_1, _, ab_33_2, kb_33_2, cb_33_2, rfl, rfl, ?_, ?_, ?_, ?_, ?_⟩)
    all_goals
      repeat (first | (with_reducible assumption) | ((with_reducible refine nblk_new ?_); (first | omega | (simp only [sz_alloc, sz_set, sz_drew]; omega) | (focus (simp only [sz_alloc, sz_set, sz_drew]; done)))) | ((with_reducible refine nblk_lt ?_ ?_); (first | omega | (simp only [sz_alloc, sz_set, sz_drew]; omega) | (focus (simp only [sz_alloc, sz_set, sz_drew]; done)))) | (with_reducible refine vblk_own ?_) | ((with_reducible refine nblk_two ?_ ?_); (first | omega | (simp only [sz_alloc, sz_set, sz_drew]; omega) | (focus (simp only [sz_alloc, sz_set, sz_drew]; done)))) | (with_reducible refine nblk_drew ?_) | (with_reducible refine nblk_call hbb_33_2 ?_) | (with_reducible refine nblk_call hbb_33_1 ?_) | (with_reducible refine bvk_alloc ?_) | (with_reducible refine bvk_drew ?_) | (with_reducible refine bvk_set ?_ ?_) | (with_reducible refine bvk_call hbb_33_2 ?_) | (with_reducible refine bvk_call hbb_33_1 ?_) | (with_reducible exact Below.refl _ _) | (with_reducible refine Below.drew ?_) | ((with_reducible refine Below.alloc ?_ ?_ _); rotate_left; (focus (first | omega | (simp; done) | (simp; omega)))) | ((with_reducible refine Below.setCell ?_ ?_ _); rotate_left; (focus (first | omega | (simp; done) | (simp; omega)))) | (with_reducible refine bel_call hbb_33_2 ?_) | (with_reducible refine bel_call hbb_33_1 ?_) | (first | omega | (simp only [sz_alloc, sz_set, sz_drew]; omega) | (focus (simp only [sz_alloc, sz_set, sz_drew]; done))))
  case rest =>
    obtain ⟨gb_331, ab_331, kb_331, cb_331, gb_332, ab_332, kb_332, cb_332, rfl, rfl, hG1, hG2, hK1, hK2, hb⟩ := hcut
    generalize wc = wrb_33 at *
    clear STAYb_33 CAb_33 CBb_33 hBb_33
    have Gx_34 := Lib.hid (car hb Gx_26.out)
    have Gy_35 := Lib.hid (car hb G_32.out)
    have Kx_36 := Lib.hid (Kx_28.out.below hb)
    have Ky_37 := Lib.hid (Ky_29.out.below hb)
    have B_38 := Lib.hid (below_of B_31.out hb)
    clear Gx_26 G_32 Kx_28 Ky_29 B_31
    have G_39 := Lib.hid hG1; have K_40 := Lib.hid hK1
    have G_41 := Lib.hid hG2; have K_42 := Lib.hid hK2
    clear hG1 hG2 hK1 hK2 hb
    go_upto_region 6 with fail
    have STAYb_43 : Hid (∀ w', Below wrb_33.heap.size wrb_33 w' → w'.cell? ⟨w_2.heap.size, 0, none⟩ = some (.int .i64 (wd : Int)) ∧ w'.cell? ⟨w_2.heap.size, 1, none⟩ = some (.slice a_2 k_2 c_2) ∧ w'.cell? ⟨w_18.heap.size, 0, none⟩ = some (.int .i64 (wd : Int)) ∧ w'.cell? ⟨w_18.heap.size, 1, none⟩ = some (.slice a_18 k_18 c_18) ∧ Below wrb_33.heap.size wrb_33 w' ∧ wrb_33.heap.size ≤ w'.heap.size) := Lib.hid (fun w' hb => by
      obtain ⟨e0, e1, -, -, -⟩ := blk2 (car hb Gx_34.out)
      obtain ⟨e2, e3, -, -, -⟩ := blk2 (car hb Gy_35.out)
      exact ⟨e0, e1, e2, e3, hb, hb.size⟩)
    have CAb_43 : Hid (∀ w1, Below wrb_33.heap.size wrb_33 w1 → _) := Lib.hid (fun w1 hw => T57.out w1 _ _ _ _ _ _ (Kx_36.out.below hw) (Ky_37.out.below hw))
    have CBb_43 : Hid (∀ w1, Below wrb_33.heap.size wrb_33 w1 → _) := Lib.hid (fun w1 hw => T58.out w1 _ _ _ _ _ _ (Kx_36.out.below hw) (Ky_37.out.below hw))
    have hBb_43 := (Below.refl wrb_33.heap.size wrb_33).drew
    go_cut [13, 14] (fun sa sb wx => BoxB wrb_33 wx wd np ns sa sb)
    case first =>
      go_region_held3 (fun w' => w'.cell? ⟨w_2.heap.size, 0, none⟩ = some (.int .i64 (wd : Int)) ∧ w'.cell? ⟨w_2.heap.size, 1, none⟩ = some (.slice a_2 k_2 c_2) ∧ w'.cell? ⟨w_18.heap.size, 0, none⟩ = some (.int .i64 (wd : Int)) ∧ w'.cell? ⟨w_18.heap.size, 1, none⟩ = some (.slice a_18 k_18 c_18) ∧ Below wrb_33.heap.size wrb_33 w' ∧ wrb_33.heap.size ≤ w'.heap.size)
        (((try go_split_ands); refine STAYb_43.out _ ?_; repeat (first | (with_reducible assumption) | (with_reducible exact Below.refl _ _) | (with_reducible refine Below.drew ?_) | (with_reducible exact below_to (by with_reducible assumption) (by with_reducible assumption)) | ((with_reducible refine Below.alloc ?_ ?_ _); rotate_left; (focus (first | omega | (simp; done) | (simp; omega)))) | ((with_reducible refine Below.setCell ?_ ?_ _); rotate_left; (focus (first | omega | (simp; done) | (simp; omega)))))))
        (first
        | (have tk := TKb_43_1; go_at_call 31; go_split_ands; (with_reducible refine Calls.mono (CBb_43.out _ (by with_reducible assumption)) ?_); rintro e wb_43_2 ⟨ab_43_2, kb_43_2, cb_43_2, rfl, iib_43_2, hbb_43_2⟩; have hkb_43_2 := below_to hbb_43_2 (by with_reducible assumption); have hzb_43_2 := hkb_43_2.size; obtain ⟨hcb_43_2, hfb_43_2⟩ := bcell hbb_43_2; have hyb_43_2 := hbb_43_2.size; (try simp only [sz_alloc, sz_set, sz_drew] at hyb_43_2); (try (have hqb_43_2 : wrb_33.heap.size < wb_43_2.heap.size := by omega)); (try (have hrb_43_2 : wrb_33.heap.size + 1 < wb_43_2.heap.size := by omega)); (try (have hpb_43 : wb_43_1.heap.size < wb_43_2.heap.size := by omega)); (try (have hsb_43 : wb_43_1.heap.size + 1 < wb_43_2.heap.size := by omega)); (first | (have ijb_43 := bvk_call hbb_43_2 iib_43_1) | (have ijb_43 := bvk_call hbb_43_2 (bvk_alloc iib_43_1)) | (have ijb_43 := bvk_call hbb_43_2 (bvk_alloc (bvk_alloc iib_43_1))) | (have ijb_43 := bvk_call hbb_43_2 (bvk_drew iib_43_1)) | (have ijb_43 := bvk_call hbb_43_2 (bvk_alloc (bvk_drew iib_43_1))) | (have ijb_43 := bvk_call hbb_43_2 (bvk_drew (bvk_alloc iib_43_1))) | (have ijb_43 := bvk_call hbb_43_2 (bvk_alloc (bvk_alloc (bvk_drew iib_43_1)))) | (have ijb_43 := bvk_call hbb_43_2 (bvk_drew (bvk_alloc (bvk_alloc iib_43_1))))); clear iib_43_1; have iib_43_1 := ijb_43; clear ijb_43; have TKb_43_2 : True := trivial)
        | (go_at_call 31; go_split_ands; (with_reducible refine Calls.mono (CAb_43.out _ (by with_reducible assumption)) ?_); rintro e wb_43_1 ⟨ab_43_1, kb_43_1, cb_43_1, rfl, iib_43_1, hbb_43_1⟩; have hkb_43_1 := below_to hbb_43_1 (by with_reducible assumption); have hzb_43_1 := hkb_43_1.size; obtain ⟨hcb_43_1, hfb_43_1⟩ := bcell hbb_43_1; have hyb_43_1 := hbb_43_1.size; (try simp only [sz_alloc, sz_set, sz_drew] at hyb_43_1); (try (have hqb_43_1 : wrb_33.heap.size < wb_43_1.heap.size := by omega)); (try (have hrb_43_1 : wrb_33.heap.size + 1 < wb_43_1.heap.size := by omega)); have TKb_43_1 : True := trivial))
      all_goals
        (go_wp2_with fail
         go_meet
         clear hcb_43_1 hfb_43_1 hcb_43_2 hfb_43_2
         refine ⟨_, ab_43_1, kb_43_1, cb_43_1, _, ab_43_2, kb_43_2, cb_43_2, rfl, rfl, ?_, ?_, ?_, ?_, ?_⟩)
      all_goals
        repeat (first | (with_reducible assumption) | ((with_reducible refine nblk_new ?_); (first | omega | (simp only [sz_alloc, sz_set, sz_drew]; omega) | (focus (simp only [sz_alloc, sz_set, sz_drew]; done)))) | ((with_reducible refine nblk_lt ?_ ?_); (first | omega | (simp only [sz_alloc, sz_set, sz_drew]; omega) | (focus (simp only [sz_alloc, sz_set, sz_drew]; done)))) | (with_reducible refine vblk_own ?_) | ((with_reducible refine nblk_two ?_ ?_); (first | omega | (simp only [sz_alloc, sz_set, sz_drew]; omega) | (focus (simp only [sz_alloc, sz_set, sz_drew]; done)))) | (with_reducible refine nblk_drew ?_) | (with_reducible refine nblk_call hbb_43_2 ?_) | (with_reducible refine nblk_call hbb_43_1 ?_) | (with_reducible refine bvk_alloc ?_) | (with_reducible refine bvk_drew ?_) | (with_reducible refine bvk_set ?_ ?_) | (with_reducible refine bvk_call hbb_43_2 ?_) | (with_reducible refine bvk_call hbb_43_1 ?_) | (with_reducible exact Below.refl _ _) | (with_reducible refine Below.drew ?_) | ((with_reducible refine Below.alloc ?_ ?_ _); rotate_left; (focus (first | omega | (simp; done) | (simp; omega)))) | ((with_reducible refine Below.setCell ?_ ?_ _); rotate_left; (focus (first | omega | (simp; done) | (simp; omega)))) | (with_reducible refine bel_call hbb_43_2 ?_) | (with_reducible refine bel_call hbb_43_1 ?_) | (first | omega | (simp only [sz_alloc, sz_set, sz_drew]; omega) | (focus (simp only [sz_alloc, sz_set, sz_drew]; done))))
    case rest =>
      obtain ⟨gb_431, ab_431, kb_431, cb_431, gb_432, ab_432, kb_432, cb_432, rfl, rfl, hG1, hG2, hK1, hK2, hb⟩ := hcut
      generalize wc = wrb_43 at *
      clear STAYb_43 CAb_43 CBb_43 hBb_43
      have Gx_44 := Lib.hid (car hb Gx_34.out)
      have Gy_45 := Lib.hid (car hb Gy_35.out)
      have Gq_46 := Lib.hid (car hb G_39.out)
      have Gr_47 := Lib.hid (car hb G_41.out)
      have Kx_48 := Lib.hid (Kx_36.out.below hb)
      have Ky_49 := Lib.hid (Ky_37.out.below hb)
      have Kq_50 := Lib.hid (K_40.out.below hb)
      have Kr_51 := Lib.hid (K_42.out.below hb)
      have B_52 := Lib.hid (below_of B_38.out hb)
      clear Gx_34 Gy_35 G_39 G_41 Kx_36 Ky_37 K_40 K_42 B_38
      have G_53 := Lib.hid hG1; have K_54 := Lib.hid hK1
      have G_55 := Lib.hid hG2; have K_56 := Lib.hid hK2
      clear hG1 hG2 hK1 hK2 hb
      go_upto_region 7 with fail
      have STAY_57 : Hid (∀ w', Below wrb_43.heap.size wrb_43 w' → w'.cell? ⟨w_2.heap.size, 0, none⟩ = some (.int .i64 (wd : Int)) ∧ w'.cell? ⟨w_2.heap.size, 1, none⟩ = some (.slice a_2 k_2 c_2) ∧ w'.cell? ⟨gb_331, 0, none⟩ = some (.int .i64 (wd : Int)) ∧ w'.cell? ⟨gb_331, 1, none⟩ = some (.slice ab_331 kb_331 cb_331) ∧ w'.cell? ⟨w_18.heap.size, 0, none⟩ = some (.int .i64 (wd : Int)) ∧ w'.cell? ⟨w_18.heap.size, 1, none⟩ = some (.slice a_18 k_18 c_18) ∧ w'.cell? ⟨gb_332, 0, none⟩ = some (.int .i64 (wd : Int)) ∧ w'.cell? ⟨gb_332, 1, none⟩ = some (.slice ab_332 kb_332 cb_332) ∧ w'.cell? ⟨gb_431, 0, none⟩ = some (.int .i64 (wd : Int)) ∧ w'.cell? ⟨gb_431, 1, none⟩ = some (.slice ab_431 kb_431 cb_431) ∧ w'.cell? ⟨gb_432, 0, none⟩ = some (.int .i64 (wd : Int)) ∧ w'.cell? ⟨gb_432, 1, none⟩ = some (.slice ab_432 kb_432 cb_432) ∧ Below wrb_43.heap.size wrb_43 w') := Lib.hid (fun w' hb => by
        obtain ⟨e0, e1, -, -, -⟩ := blk2 (car hb Gx_44.out)
        obtain ⟨e2, e3, -, -, -⟩ := blk2 (car hb Gq_46.out)
        obtain ⟨e4, e5, -, -, -⟩ := blk2 (car hb Gy_45.out)
        obtain ⟨e6, e7, -, -, -⟩ := blk2 (car hb Gr_47.out)
        obtain ⟨e8, e9, -, -, -⟩ := blk2 (car hb G_53.out)
        obtain ⟨e10, e11, -, -, -⟩ := blk2 (car hb G_55.out)
        exact ⟨e0, e1, e2, e3, e4, e5, e6, e7, e8, e9, e10, e11, hb⟩)
      obtain ⟨p_58, q_58, -, -, -⟩ := blk2 Gx_44.out
      obtain ⟨p_59, q_59, -, -, -⟩ := blk2 Gq_46.out
      obtain ⟨p_60, q_60, -, -, -⟩ := blk2 Gy_45.out
      obtain ⟨p_61, q_61, -, -, -⟩ := blk2 Gr_47.out
      obtain ⟨p_62, q_62, -, -, -⟩ := blk2 G_53.out
      obtain ⟨p_63, q_63, -, -, -⟩ := blk2 G_55.out
      have hk_57_0 := Below.refl wrb_43.heap.size wrb_43
      clear p_58 q_58 p_59 q_59 p_60 q_60 p_61 q_61 p_62 q_62 p_63 q_63
      go_cut [71] (fun s71 wx => s71 = .bool false ∧ Below wrb_43.heap.size wrb_43 wx)
      case first =>
        go_region_held3 (fun w' => w'.cell? ⟨w_2.heap.size, 0, none⟩ = some (.int .i64 (wd : Int)) ∧ w'.cell? ⟨w_2.heap.size, 1, none⟩ = some (.slice a_2 k_2 c_2) ∧ w'.cell? ⟨gb_331, 0, none⟩ = some (.int .i64 (wd : Int)) ∧ w'.cell? ⟨gb_331, 1, none⟩ = some (.slice ab_331 kb_331 cb_331) ∧ w'.cell? ⟨w_18.heap.size, 0, none⟩ = some (.int .i64 (wd : Int)) ∧ w'.cell? ⟨w_18.heap.size, 1, none⟩ = some (.slice a_18 k_18 c_18) ∧ w'.cell? ⟨gb_332, 0, none⟩ = some (.int .i64 (wd : Int)) ∧ w'.cell? ⟨gb_332, 1, none⟩ = some (.slice ab_332 kb_332 cb_332) ∧ w'.cell? ⟨gb_431, 0, none⟩ = some (.int .i64 (wd : Int)) ∧ w'.cell? ⟨gb_431, 1, none⟩ = some (.slice ab_431 kb_431 cb_431) ∧ w'.cell? ⟨gb_432, 0, none⟩ = some (.int .i64 (wd : Int)) ∧ w'.cell? ⟨gb_432, 1, none⟩ = some (.slice ab_432 kb_432 cb_432) ∧ Below wrb_43.heap.size wrb_43 w')
          (((try go_split_ands); refine STAY_57.out _ ?_; repeat (first | (with_reducible assumption) | (with_reducible exact Below.refl _ _) | (with_reducible refine Below.drew ?_))))
          (first
          | (have tk := TK_57_5; go_at_call 20; (with_reducible refine Calls.mono (sameT (Kx_48.out.below (by first | exact hk_57_5 | exact hk_57_5.drew)) (by first | exact R_57_4.out | exact BvK.drewb R_57_4.out) E2.out) ?_); rintro e w_57_6 ⟨rfl, hb_57⟩; have hk_57_6 : Below wrb_43.heap.size wrb_43 w_57_6 := (by first | exact below_to9 hb_57 hk_57_5 | exact below_to9 hb_57 hk_57_5.drew); have TK_57_6 : True := trivial; have R_57_0iiiii := Lib.hid (by first | exact R_57_0iiii.out.below hb_57 | exact R_57_0iiii.out.below (bel_d hb_57)); have R_57_1iiii := Lib.hid (by first | exact R_57_1iii.out.below hb_57 | exact R_57_1iii.out.below (bel_d hb_57)); have R_57_3ii := Lib.hid (by first | exact R_57_3i.out.below hb_57 | exact R_57_3i.out.below (bel_d hb_57)); have R_57_4i := Lib.hid (by first | exact R_57_4.out.below hb_57 | exact R_57_4.out.below (bel_d hb_57)); clear hb_57)
          | (have tk := TK_57_4; go_at_call 31; (with_reducible refine Calls.mono (two_add wd _ _ h1 h2 _ _ _ _ _ _ _ (by first | exact R_57_3.out | exact BvK.drewb R_57_3.out) (K_56.out.below (by first | exact hk_57_4 | exact hk_57_4.drew))) ?_); rintro e w_57_5 ⟨a_57_4, k_57_4, c_57_4, rfl, hi_57, hb_57⟩; have hk_57_5 : Below wrb_43.heap.size wrb_43 w_57_5 := (by first | exact below_to9 hb_57 hk_57_4 | exact below_to9 hb_57 hk_57_4.drew); have TK_57_5 : True := trivial; have R_57_0iiii := Lib.hid (by first | exact R_57_0iii.out.below hb_57 | exact R_57_0iii.out.below (bel_d hb_57)); have R_57_1iii := Lib.hid (by first | exact R_57_1ii.out.below hb_57 | exact R_57_1ii.out.below (bel_d hb_57)); have R_57_3i := Lib.hid (by first | exact R_57_3.out.below hb_57 | exact R_57_3.out.below (bel_d hb_57)); have R_57_4 := Lib.hid hi_57; clear hi_57 hb_57)
          | (have tk := TK_57_3; go_at_call 31; (with_reducible refine Calls.mono (two_mul wd _ _ h1 h2 _ _ _ _ _ _ _ (K_54.out.below (by first | exact hk_57_3 | exact hk_57_3.drew)) (Ky_49.out.below (by first | exact hk_57_3 | exact hk_57_3.drew))) ?_); rintro e w_57_4 ⟨a_57_3, k_57_3, c_57_3, rfl, hi_57, hb_57⟩; have hk_57_4 : Below wrb_43.heap.size wrb_43 w_57_4 := (by first | exact below_to9 hb_57 hk_57_3 | exact below_to9 hb_57 hk_57_3.drew); have TK_57_4 : True := trivial; have R_57_0iii := Lib.hid (by first | exact R_57_0ii.out.below hb_57 | exact R_57_0ii.out.below (bel_d hb_57)); have R_57_1ii := Lib.hid (by first | exact R_57_1i.out.below hb_57 | exact R_57_1i.out.below (bel_d hb_57)); have R_57_3 := Lib.hid hi_57; clear hi_57 hb_57)
          | (have tk := TK_57_2; go_at_call 20; (with_reducible refine Calls.mono (sameT (Kx_48.out.below (by first | exact hk_57_2 | exact hk_57_2.drew)) (by first | exact R_57_1.out | exact BvK.drewb R_57_1.out) E1.out) ?_); rintro e w_57_3 ⟨rfl, hb_57⟩; have hk_57_3 : Below wrb_43.heap.size wrb_43 w_57_3 := (by first | exact below_to9 hb_57 hk_57_2 | exact below_to9 hb_57 hk_57_2.drew); have TK_57_3 : True := trivial; have R_57_0ii := Lib.hid (by first | exact R_57_0i.out.below hb_57 | exact R_57_0i.out.below (bel_d hb_57)); have R_57_1i := Lib.hid (by first | exact R_57_1.out.below hb_57 | exact R_57_1.out.below (bel_d hb_57)); clear hb_57)
          | (have tk := TK_57_1; go_at_call 31; (with_reducible refine Calls.mono (two_add wd _ _ h1 h2 _ _ _ _ _ _ _ (by first | exact R_57_0.out | exact BvK.drewb R_57_0.out) (Kr_51.out.below (by first | exact hk_57_1 | exact hk_57_1.drew))) ?_); rintro e w_57_2 ⟨a_57_1, k_57_1, c_57_1, rfl, hi_57, hb_57⟩; have hk_57_2 : Below wrb_43.heap.size wrb_43 w_57_2 := (by first | exact below_to9 hb_57 hk_57_1 | exact below_to9 hb_57 hk_57_1.drew); have TK_57_2 : True := trivial; have R_57_0i := Lib.hid (by first | exact R_57_0.out.below hb_57 | exact R_57_0.out.below (bel_d hb_57)); have R_57_1 := Lib.hid hi_57; clear hi_57 hb_57)
          | (go_at_call 31; (with_reducible refine Calls.mono (two_mul wd _ _ h1 h2 _ _ _ _ _ _ _ (Kq_50.out.below (by first | exact hk_57_0 | exact hk_57_0.drew)) (Ky_49.out.below (by first | exact hk_57_0 | exact hk_57_0.drew))) ?_); rintro e w_57_1 ⟨a_57_0, k_57_0, c_57_0, rfl, hi_57, hb_57⟩; have hk_57_1 : Below wrb_43.heap.size wrb_43 w_57_1 := (by first | exact below_to9 hb_57 hk_57_0 | exact below_to9 hb_57 hk_57_0.drew); have TK_57_1 : True := trivial; have R_57_0 := Lib.hid hi_57; clear hi_57 hb_57))
        all_goals
          go_wp2_with fail
          go_meet
          exact ⟨rfl, by first | exact hk_57_6 | exact hk_57_6.drew⟩
      case rest =>
        obtain ⟨rfl, hb⟩ := hcut
        generalize wc = wr_57 at *
        clear STAY_57 hk_57_0
        have Gx_64 := Lib.hid (car hb Gx_44.out)
        have Gy_65 := Lib.hid (car hb Gy_45.out)
        have Gq_66 := Lib.hid (car hb Gq_46.out)
        have Gr_67 := Lib.hid (car hb Gr_47.out)
        have Gp_68 := Lib.hid (car hb G_53.out)
        have Gs_69 := Lib.hid (car hb G_55.out)
        have Kx_70 := Lib.hid (Kx_48.out.below hb)
        have Ky_71 := Lib.hid (Ky_49.out.below hb)
        have Kq_72 := Lib.hid (Kq_50.out.below hb)
        have Kr_73 := Lib.hid (Kr_51.out.below hb)
        have Kp_74 := Lib.hid (K_54.out.below hb)
        have Ks_75 := Lib.hid (K_56.out.below hb)
        have B_76 := Lib.hid (below_of B_52.out hb)
        clear Gx_44 Gy_45 Gq_46 Gr_47 G_53 G_55 Kx_48 Ky_49 Kq_50 Kr_51 K_54 K_56 B_52
        clear hb
        obtain ⟨p_77, q_77, -, -, -⟩ := blk2 Gx_64.out
        obtain ⟨p_78, q_78, -, -, -⟩ := blk2 Gy_65.out
        go_wp2_with fail
        refine (T59.out _ _ _ _ _ _ _ Kx_70.out Ky_71.out).mono ?_
        rintro e w_79 ⟨a_79, k_79, c_79, rfl, hk, hb⟩
        clear p_77 q_77 p_78 q_78
        have Gx_80 := Lib.hid (car hb Gx_64.out)
        have Gy_81 := Lib.hid (car hb Gy_65.out)
        have Gq_82 := Lib.hid (car hb Gq_66.out)
        have Gr_83 := Lib.hid (car hb Gr_67.out)
        have Gp_84 := Lib.hid (car hb Gp_68.out)
        have Gs_85 := Lib.hid (car hb Gs_69.out)
        have Kx_86 := Lib.hid (Kx_70.out.below hb)
        have Ky_87 := Lib.hid (Ky_71.out.below hb)
        have Kq_88 := Lib.hid (Kq_72.out.below hb)
        have Kr_89 := Lib.hid (Kr_73.out.below hb)
        have Kp_90 := Lib.hid (Kp_74.out.below hb)
        have Ks_91 := Lib.hid (Ks_75.out.below hb)
        have B_92 := Lib.hid (below_of B_76.out hb)
        clear Gx_64 Gy_65 Gq_66 Gr_67 Gp_68 Gs_69 Kx_70 Ky_71 Kq_72 Kr_73 Kp_74 Ks_75 B_76
        have Km_93 := Lib.hid hk
        clear hk hb
        obtain ⟨V_94, eV_94, gV, bV, hV_94⟩ := alloc1n w_79 (Obj.cells #[.int .i64 (wd : Int), .slice a_79 k_79 c_79] 28)
        have Gx_95 := Lib.hid (car bV Gx_80.out)
        have Gy_96 := Lib.hid (car bV Gy_81.out)
        have Gq_97 := Lib.hid (car bV Gq_82.out)
        have Gr_98 := Lib.hid (car bV Gr_83.out)
        have Gp_99 := Lib.hid (car bV Gp_84.out)
        have Gs_100 := Lib.hid (car bV Gs_85.out)
        have Kx_101 := Lib.hid (Kx_86.out.below bV)
        have Ky_102 := Lib.hid (Ky_87.out.below bV)
        have Kq_103 := Lib.hid (Kq_88.out.below bV)
        have Kr_104 := Lib.hid (Kr_89.out.below bV)
        have Kp_105 := Lib.hid (Kp_90.out.below bV)
        have Ks_106 := Lib.hid (Ks_91.out.below bV)
        have Km_107 := Lib.hid (Km_93.out.below bV)
        have B_108 := Lib.hid (below_of B_92.out bV)
        clear Gx_80 Gy_81 Gq_82 Gr_83 Gp_84 Gs_85 Kx_86 Ky_87 Kq_88 Kr_89 Kp_90 Ks_91 Km_93 B_92
        have G_109 := Lib.hid gV
        clear gV bV
        go_upto_region 10 with fail
        try rw [eV_94]
        have hy0 := Ky_102.out.k0
        rw [D0.out] at hy0
        obtain ⟨p_110, q_110, -, -, -⟩ := blk2 Gr_98.out
        obtain ⟨p_111, q_111, -, -, -⟩ := blk2 Gy_96.out
        go_wp2_with fail
        refine (ultK wd _ _ true h1 h2 _ _ _ _ _ _ _ Kr_104.out Ky_102.out DB.out).mono ?_
        rintro e w_112 ⟨rfl, hb⟩
        clear hy0 p_110 q_110 p_111 q_111
        have Gx_113 := Lib.hid (car hb Gx_95.out)
        have Gy_114 := Lib.hid (car hb Gy_96.out)
        have Gq_115 := Lib.hid (car hb Gq_97.out)
        have Gr_116 := Lib.hid (car hb Gr_98.out)
        have Gp_117 := Lib.hid (car hb Gp_99.out)
        have Gs_118 := Lib.hid (car hb Gs_100.out)
        have Gm_119 := Lib.hid (car hb G_109.out)
        have Kx_120 := Lib.hid (Kx_101.out.below hb)
        have Ky_121 := Lib.hid (Ky_102.out.below hb)
        have Kq_122 := Lib.hid (Kq_103.out.below hb)
        have Kr_123 := Lib.hid (Kr_104.out.below hb)
        have Kp_124 := Lib.hid (Kp_105.out.below hb)
        have Ks_125 := Lib.hid (Ks_106.out.below hb)
        have Km_126 := Lib.hid (Km_107.out.below hb)
        have B_127 := Lib.hid (below_of B_108.out hb)
        clear Gx_95 Gy_96 Gq_97 Gr_98 Gp_99 Gs_100 G_109 Kx_101 Ky_102 Kq_103 Kr_104 Kp_105 Ks_106 Km_107 B_108
        clear hb
        go_upto_region 12 with fail
        have STAY_128 : Hid (∀ w', Below w_112.heap.size w_112 w' → w'.cell? ⟨w_79.heap.size, 0, none⟩ = some (.int .i64 (wd : Int)) ∧ w'.cell? ⟨w_79.heap.size, 1, none⟩ = some (.slice a_79 k_79 c_79) ∧ Below w_112.heap.size w_112 w') := Lib.hid (fun w' hb => by
          obtain ⟨e0, e1, -, -, -⟩ := blk2 (car hb Gm_119.out)
          exact ⟨e0, e1, hb⟩)
        obtain ⟨p_129, q_129, -, -, -⟩ := blk2 Gm_119.out
        have hk_128_0 := Below.refl w_112.heap.size w_112
        clear p_129 q_129
        go_cut [19, 20] (fun s19 s20 wx => s19 = .bool true ∧ s20 = .int .i64 0 ∧ Below w_112.heap.size w_112 wx)
        case first =>
          go_region_held3 (fun w' => w'.cell? ⟨w_79.heap.size, 0, none⟩ = some (.int .i64 (wd : Int)) ∧ w'.cell? ⟨w_79.heap.size, 1, none⟩ = some (.slice a_79 k_79 c_79) ∧ Below w_112.heap.size w_112 w')
            (((try go_split_ands); refine STAY_128.out _ ?_; repeat (first | (with_reducible assumption) | (with_reducible exact Below.refl _ _) | (with_reducible refine Below.drew ?_))))
            (first
            | (have tk := TK_128_1; go_at_call 27; (with_reducible refine Calls.mono (sltK wd _ _ true h1 h2 _ _ _ _ _ _ _ (Km_126.out.below (by first | exact hk_128_1 | exact hk_128_1.drew)) (by first | exact R_128_0.out | exact BvK.drewb R_128_0.out) DN.out) ?_); rintro e w_128_2 ⟨rfl, hb_128⟩; have hk_128_2 : Below w_112.heap.size w_112 w_128_2 := (by first | exact below_to9 hb_128 hk_128_1 | exact below_to9 hb_128 hk_128_1.drew); have TK_128_2 : True := trivial; have R_128_0i := Lib.hid (by first | exact R_128_0.out.below hb_128 | exact R_128_0.out.below (bel_d hb_128)); clear hb_128)
            | (go_at_call 33; (with_reducible refine Calls.mono (b9 wd 0 h1 h2 (by unfold B64; omega) _) ?_); rintro e w_128_1 ⟨a_128_0, k_128_0, c_128_0, rfl, hi_128, hb_128⟩; have hk_128_1 : Below w_112.heap.size w_112 w_128_1 := (by first | exact below_to9 hb_128 hk_128_0 | exact below_to9 hb_128 hk_128_0.drew); have TK_128_1 : True := trivial; have R_128_0 := Lib.hid hi_128; clear hi_128 hb_128))
          all_goals
            go_wp2_with fail
            go_meet
            exact ⟨rfl, rfl, by first | exact hk_128_2 | exact hk_128_2.drew⟩
        case rest =>
          obtain ⟨rfl, rfl, hb⟩ := hcut
          generalize wc = wr_128 at *
          clear STAY_128 hk_128_0
          have Gx_130 := Lib.hid (car hb Gx_113.out)
          have Gy_131 := Lib.hid (car hb Gy_114.out)
          have Gq_132 := Lib.hid (car hb Gq_115.out)
          have Gr_133 := Lib.hid (car hb Gr_116.out)
          have Gp_134 := Lib.hid (car hb Gp_117.out)
          have Gs_135 := Lib.hid (car hb Gs_118.out)
          have Gm_136 := Lib.hid (car hb Gm_119.out)
          have Kx_137 := Lib.hid (Kx_120.out.below hb)
          have Ky_138 := Lib.hid (Ky_121.out.below hb)
          have Kq_139 := Lib.hid (Kq_122.out.below hb)
          have Kr_140 := Lib.hid (Kr_123.out.below hb)
          have Kp_141 := Lib.hid (Kp_124.out.below hb)
          have Ks_142 := Lib.hid (Ks_125.out.below hb)
          have Km_143 := Lib.hid (Km_126.out.below hb)
          have B_144 := Lib.hid (below_of B_127.out hb)
          clear Gx_113 Gy_114 Gq_115 Gr_116 Gp_117 Gs_118 Gm_119 Kx_120 Ky_121 Kq_122 Kr_123 Kp_124 Ks_125 Km_126 B_127
          clear hb
          go_upto_region 13 with fail
          have STAY_145 : Hid (∀ w', Below wr_128.heap.size wr_128 w' → w'.cell? ⟨w_18.heap.size, 0, none⟩ = some (.int .i64 (wd : Int)) ∧ w'.cell? ⟨w_18.heap.size, 1, none⟩ = some (.slice a_18 k_18 c_18) ∧ Below wr_128.heap.size wr_128 w') := Lib.hid (fun w' hb => by
            obtain ⟨e0, e1, -, -, -⟩ := blk2 (car hb Gy_131.out)
            exact ⟨e0, e1, hb⟩)
          obtain ⟨p_146, q_146, -, -, -⟩ := blk2 Gy_131.out
          have hk_145_0 := Below.refl wr_128.heap.size wr_128
          clear p_146 q_146
          go_cut [21, 22] (fun s21 s22 wx => s21 = .bool true ∧ s22 = .int .i64 0 ∧ Below wr_128.heap.size wr_128 wx)
          case first =>
            go_region_held3 (fun w' => w'.cell? ⟨w_18.heap.size, 0, none⟩ = some (.int .i64 (wd : Int)) ∧ w'.cell? ⟨w_18.heap.size, 1, none⟩ = some (.slice a_18 k_18 c_18) ∧ Below wr_128.heap.size wr_128 w')
              (((try go_split_ands); refine STAY_145.out _ ?_; repeat (first | (with_reducible assumption) | (with_reducible exact Below.refl _ _) | (with_reducible refine Below.drew ?_))))
              (first
              | (have tk := TK_145_1; go_at_call 27; (with_reducible refine Calls.mono (sltK wd _ _ true h1 h2 _ _ _ _ _ _ _ (Ky_138.out.below (by first | exact hk_145_1 | exact hk_145_1.drew)) (by first | exact R_145_0.out | exact BvK.drewb R_145_0.out) DY.out) ?_); rintro e w_145_2 ⟨rfl, hb_145⟩; have hk_145_2 : Below wr_128.heap.size wr_128 w_145_2 := (by first | exact below_to9 hb_145 hk_145_1 | exact below_to9 hb_145 hk_145_1.drew); have TK_145_2 : True := trivial; have R_145_0i := Lib.hid (by first | exact R_145_0.out.below hb_145 | exact R_145_0.out.below (bel_d hb_145)); clear hb_145)
              | (go_at_call 33; (with_reducible refine Calls.mono (b9 wd 0 h1 h2 (by unfold B64; omega) _) ?_); rintro e w_145_1 ⟨a_145_0, k_145_0, c_145_0, rfl, hi_145, hb_145⟩; have hk_145_1 : Below wr_128.heap.size wr_128 w_145_1 := (by first | exact below_to9 hb_145 hk_145_0 | exact below_to9 hb_145 hk_145_0.drew); have TK_145_1 : True := trivial; have R_145_0 := Lib.hid hi_145; clear hi_145 hb_145))
            all_goals
              go_wp2_with fail
              go_meet
              exact ⟨rfl, rfl, by first | exact hk_145_2 | exact hk_145_2.drew⟩
          case rest =>
            obtain ⟨rfl, rfl, hb⟩ := hcut
            generalize wc = wr_145 at *
            clear STAY_145 hk_145_0
            have Gx_147 := Lib.hid (car hb Gx_130.out)
            have Gy_148 := Lib.hid (car hb Gy_131.out)
            have Gq_149 := Lib.hid (car hb Gq_132.out)
            have Gr_150 := Lib.hid (car hb Gr_133.out)
            have Gp_151 := Lib.hid (car hb Gp_134.out)
            have Gs_152 := Lib.hid (car hb Gs_135.out)
            have Gm_153 := Lib.hid (car hb Gm_136.out)
            have Kx_154 := Lib.hid (Kx_137.out.below hb)
            have Ky_155 := Lib.hid (Ky_138.out.below hb)
            have Kq_156 := Lib.hid (Kq_139.out.below hb)
            have Kr_157 := Lib.hid (Kr_140.out.below hb)
            have Kp_158 := Lib.hid (Kp_141.out.below hb)
            have Ks_159 := Lib.hid (Ks_142.out.below hb)
            have Km_160 := Lib.hid (Km_143.out.below hb)
            have B_161 := Lib.hid (below_of B_144.out hb)
            clear Gx_130 Gy_131 Gq_132 Gr_133 Gp_134 Gs_135 Gm_136 Kx_137 Ky_138 Kq_139 Kr_140 Kp_141 Ks_142 Km_143 B_144
            clear hb
            go_upto_region 16 with fail
            have STAYh_162 : Hid (∀ w', Below wr_145.heap.size wr_145 w' → w'.cell? ⟨w_79.heap.size, 0, none⟩ = some (.int .i64 (wd : Int)) ∧ w'.cell? ⟨w_79.heap.size, 1, none⟩ = some (.slice a_79 k_79 c_79) ∧ w'.cell? ⟨gb_432, 0, none⟩ = some (.int .i64 (wd : Int)) ∧ w'.cell? ⟨gb_432, 1, none⟩ = some (.slice ab_432 kb_432 cb_432) ∧ w'.cell? ⟨w_18.heap.size, 0, none⟩ = some (.int .i64 (wd : Int)) ∧ w'.cell? ⟨w_18.heap.size, 1, none⟩ = some (.slice a_18 k_18 c_18) ∧ Below wr_145.heap.size wr_145 w') := Lib.hid (fun w' hb => by
              obtain ⟨e0, e1, -, -, -⟩ := blk2 (car hb Gm_153.out)
              obtain ⟨e2, e3, -, -, -⟩ := blk2 (car hb Gs_152.out)
              obtain ⟨e4, e5, -, -, -⟩ := blk2 (car hb Gy_148.out)
              exact ⟨e0, e1, e2, e3, e4, e5, hb⟩)
            have hkh_162_0 := Below.refl wr_145.heap.size wr_145
            refine wp_region_held_drew (S := (fun w' => w'.cell? ⟨w_79.heap.size, 0, none⟩ = some (.int .i64 (wd : Int)) ∧ w'.cell? ⟨w_79.heap.size, 1, none⟩ = some (.slice a_79 k_79 c_79) ∧ w'.cell? ⟨gb_432, 0, none⟩ = some (.int .i64 (wd : Int)) ∧ w'.cell? ⟨gb_432, 1, none⟩ = some (.slice ab_432 kb_432 cb_432) ∧ w'.cell? ⟨w_18.heap.size, 0, none⟩ = some (.int .i64 (wd : Int)) ∧ w'.cell? ⟨w_18.heap.size, 1, none⟩ = some (.slice a_18 k_18 c_18) ∧ Below wr_145.heap.size wr_145 w')) (by kernel_rfl) ?hS0 (fun hHeld => ?_)
            case hS0 => ((try dsimp only); ((try go_split_ands); refine STAYh_162.out _ ?_; first | exact hkh_162_0 | exact hkh_162_0.drew))
            refine wpAnyH_take (i := 0) (oi := _) (v := ?vv1) rfl (by kernel_rfl) (by kernel_rfl) (by kernel_rfl) (fun _ _ _ h => h) (Or.inl ⟨by rfl, ?hy1⟩) (by assumption) ?_
            case hy1 => (intro w hSw; (try dsimp only at hSw); go_simp; (try with_reducible rfl))
            (try dsimp only [List.getElem_toArray, List.getElem_cons_zero, List.getElem_cons_succ, Act.put]); (try simp only [Act.put, List.setIfInBounds_toArray, List.set_cons_zero, List.set_cons_succ])
            refine wpAnyH_take (i := 1) (oi := _) (v := ?vv2) rfl (by kernel_rfl) (by kernel_rfl) (by kernel_rfl) (fun _ _ _ h => h) (Or.inl ⟨by rfl, ?hy2⟩) (by assumption) ?_
            case hy2 => (intro w hSw; (try dsimp only at hSw); go_simp; (try with_reducible rfl))
            (try dsimp only [List.getElem_toArray, List.getElem_cons_zero, List.getElem_cons_succ, Act.put]); (try simp only [Act.put, List.setIfInBounds_toArray, List.set_cons_zero, List.set_cons_succ])
            refine wpAnyH_take (i := 2) (oi := _) (v := ?vv3) rfl (by kernel_rfl) (by kernel_rfl) (by kernel_rfl) (fun _ _ _ h => h) (Or.inl ⟨by rfl, ?hy3⟩) (by assumption) ?_
            case hy3 => (intro w hSw; (try dsimp only at hSw); go_simp; (try with_reducible rfl))
            (try dsimp only [List.getElem_toArray, List.getElem_cons_zero, List.getElem_cons_succ, Act.put]); (try simp only [Act.put, List.setIfInBounds_toArray, List.set_cons_zero, List.set_cons_succ])
            refine wpAnyH_take (i := 3) (oi := _) (v := ?vv4) rfl (by kernel_rfl) (by kernel_rfl) (by kernel_rfl) (fun _ _ _ h => h) (Or.inl ⟨by rfl, ?hy4⟩) (by assumption) ?_
            case hy4 => (intro w hSw; (try dsimp only at hSw); go_simp; (try with_reducible rfl))
            (try dsimp only [List.getElem_toArray, List.getElem_cons_zero, List.getElem_cons_succ, Act.put]); (try simp only [Act.put, List.setIfInBounds_toArray, List.set_cons_zero, List.set_cons_succ])
            refine wpAnyH_take (i := 4) (oi := _) (v := ?vv5) rfl (by kernel_rfl) (by kernel_rfl) (by kernel_rfl) (fun _ _ _ h => h) (Or.inl ⟨by rfl, ?hy5⟩) (by assumption) ?_
            case hy5 => (intro w hSw; (try dsimp only at hSw); go_simp; (try with_reducible rfl))
            (try dsimp only [List.getElem_toArray, List.getElem_cons_zero, List.getElem_cons_succ, Act.put]); (try simp only [Act.put, List.setIfInBounds_toArray, List.set_cons_zero, List.set_cons_succ])
            refine wpAnyH_take (i := 5) (oi := _) (v := ?vv6) rfl (by kernel_rfl) (by kernel_rfl) (by kernel_rfl) (fun _ _ _ h => h) (Or.inl ⟨by rfl, ?hy6⟩) (by assumption) ?_
            case hy6 => (intro w hSw; (try dsimp only at hSw); go_simp; (try with_reducible rfl))
            (try dsimp only [List.getElem_toArray, List.getElem_cons_zero, List.getElem_cons_succ, Act.put]); (try simp only [Act.put, List.setIfInBounds_toArray, List.set_cons_zero, List.set_cons_succ])
            refine wpAnyH_take (i := 6) (oi := _) (v := ?vv7) rfl (by kernel_rfl) (by kernel_rfl) (by kernel_rfl) (fun _ _ _ h => h) (Or.inl ⟨by rfl, ?hy7⟩) (by assumption) ?_
            case hy7 => (intro w hSw; (try dsimp only at hSw); go_simp; (try with_reducible rfl))
            (try dsimp only [List.getElem_toArray, List.getElem_cons_zero, List.getElem_cons_succ, Act.put]); (try simp only [Act.put, List.setIfInBounds_toArray, List.set_cons_zero, List.set_cons_succ])
            refine wpAnyH_take (i := 7) (oi := _) (v := undef) rfl (by kernel_rfl) (by kernel_rfl) (by kernel_rfl) (fun _ _ _ h => h) (Or.inr ⟨by rfl, rfl⟩) (by assumption) ?_
            (try dsimp only [List.getElem_toArray, List.getElem_cons_zero, List.getElem_cons_succ, Act.put]); (try simp only [Act.put, List.setIfInBounds_toArray, List.set_cons_zero, List.set_cons_succ])
            refine wpAnyH_take (i := 8) (oi := _) (v := undef) rfl (by kernel_rfl) (by kernel_rfl) (by kernel_rfl) (fun _ _ _ h => h) (Or.inr ⟨by rfl, rfl⟩) (by assumption) ?_
            (try dsimp only [List.getElem_toArray, List.getElem_cons_zero, List.getElem_cons_succ, Act.put]); (try simp only [Act.put, List.setIfInBounds_toArray, List.set_cons_zero, List.set_cons_succ])
            refine wpAnyH_ready (rs := [9]) (by kernel_rfl) (by simp) ?_
            refine AllReadyH.cons (o := _) rfl (fun K hK => ?_) ?more8
            case more8 => exact AllReadyH.nil
            go_simp
            refine hK.out _ _ ?hSn8 (fun hHeld => ?_)
            case hSn8 => ((try dsimp only); ((try go_split_ands); refine STAYh_162.out _ ?_; first | exact hkh_162_0 | exact hkh_162_0.drew))
            clear hK K
            (try dsimp only [List.getElem_toArray, List.getElem_cons_zero, List.getElem_cons_succ, Act.put]); (try simp only [Act.put, List.setIfInBounds_toArray, List.set_cons_zero, List.set_cons_succ])
            refine wpAnyH_take (i := 10) (oi := _) (v := undef) rfl (by kernel_rfl) (by kernel_rfl) (by kernel_rfl) (fun _ _ _ h => h) (Or.inr ⟨by rfl, rfl⟩) (by assumption) ?_
            (try dsimp only [List.getElem_toArray, List.getElem_cons_zero, List.getElem_cons_succ, Act.put]); (try simp only [Act.put, List.setIfInBounds_toArray, List.set_cons_zero, List.set_cons_succ])
            refine wpAnyH_take (i := 11) (oi := _) (v := ?vv9) rfl (by kernel_rfl) (by kernel_rfl) (by kernel_rfl) (fun _ _ _ h => h) (Or.inl ⟨by rfl, ?hy9⟩) (by assumption) ?_
            case hy9 => (intro w hSw; (try dsimp only at hSw); go_simp; (try with_reducible rfl))
            (try dsimp only [List.getElem_toArray, List.getElem_cons_zero, List.getElem_cons_succ, Act.put]); (try simp only [Act.put, List.setIfInBounds_toArray, List.set_cons_zero, List.set_cons_succ])
            refine wpAnyH_take (i := 12) (oi := _) (v := ?vv10) rfl (by kernel_rfl) (by kernel_rfl) (by kernel_rfl) (fun _ _ _ h => h) (Or.inl ⟨by rfl, ?hy10⟩) (by assumption) ?_
            case hy10 => (intro w hSw; (try dsimp only at hSw); go_simp; (try with_reducible rfl))
            (try dsimp only [List.getElem_toArray, List.getElem_cons_zero, List.getElem_cons_succ, Act.put]); (try simp only [Act.put, List.setIfInBounds_toArray, List.set_cons_zero, List.set_cons_succ])
            refine wpAnyH_take (i := 13) (oi := _) (v := ?vv11) rfl (by kernel_rfl) (by kernel_rfl) (by kernel_rfl) (fun _ _ _ h => h) (Or.inl ⟨by rfl, ?hy11⟩) (by assumption) ?_
            case hy11 => (intro w hSw; (try dsimp only at hSw); go_simp; (try with_reducible rfl))
            (try dsimp only [List.getElem_toArray, List.getElem_cons_zero, List.getElem_cons_succ, Act.put]); (try simp only [Act.put, List.setIfInBounds_toArray, List.set_cons_zero, List.set_cons_succ])
            refine wpAnyH_take (i := 14) (oi := _) (v := ?vv12) rfl (by kernel_rfl) (by kernel_rfl) (by kernel_rfl) (fun _ _ _ h => h) (Or.inl ⟨by rfl, ?hy12⟩) (by assumption) ?_
            case hy12 => (intro w hSw; (try dsimp only at hSw); go_simp; (try with_reducible rfl))
            (try dsimp only [List.getElem_toArray, List.getElem_cons_zero, List.getElem_cons_succ, Act.put]); (try simp only [Act.put, List.setIfInBounds_toArray, List.set_cons_zero, List.set_cons_succ])
            refine wpAnyH_ready (rs := [15]) (by kernel_rfl) (by simp) ?_
            refine AllReadyH.cons (o := _) rfl (fun K hK => ?_) ?more13
            case more13 => exact AllReadyH.nil
            go_simp
            ((with_reducible refine Calls.mono (sameT (Ks_159.out.below (by first | exact hkh_162_0 | exact hkh_162_0.drew)) (Km_160.out.below (by first | exact hkh_162_0 | exact hkh_162_0.drew)) ES.out) ?_); rintro e wh_162_1 ⟨rfl, hbh_162⟩; have hkh_162_1 : Below wr_145.heap.size wr_145 wh_162_1 := (by first | exact below_to9 hbh_162 hkh_162_0 | exact below_to9 hbh_162 hkh_162_0.drew); clear hbh_162)
            refine hK.out _ _ ?hSn13 (fun hHeld => ?_)
            case hSn13 => ((try dsimp only); ((try go_split_ands); refine STAYh_162.out _ ?_; first | exact hkh_162_1 | exact hkh_162_1.drew | exact hkh_162_0 | exact hkh_162_0.drew))
            clear hK K
            (try dsimp only [List.getElem_toArray, List.getElem_cons_zero, List.getElem_cons_succ, Act.put]); (try simp only [Act.put, List.setIfInBounds_toArray, List.set_cons_zero, List.set_cons_succ])
            refine wpAnyH_take (i := 16) (oi := _) (v := ?vv14) rfl (by kernel_rfl) (by kernel_rfl) (by kernel_rfl) (fun _ _ _ h => h) (Or.inl ⟨by rfl, ?hy14⟩) (by assumption) ?_
            case hy14 => (intro w hSw; (try dsimp only at hSw); go_simp; (try with_reducible rfl))
            (try dsimp only [List.getElem_toArray, List.getElem_cons_zero, List.getElem_cons_succ, Act.put]); (try simp only [Act.put, List.setIfInBounds_toArray, List.set_cons_zero, List.set_cons_succ])
            refine wpAnyH_take (i := 17) (oi := _) (v := undef) rfl (by kernel_rfl) (by kernel_rfl) (by kernel_rfl) (fun _ _ _ h => h) (Or.inr ⟨by rfl, rfl⟩) (by assumption) ?_
            (try dsimp only [List.getElem_toArray, List.getElem_cons_zero, List.getElem_cons_succ, Act.put]); (try simp only [Act.put, List.setIfInBounds_toArray, List.set_cons_zero, List.set_cons_succ])
            refine wpAnyH_take (i := 18) (oi := _) (v := undef) rfl (by kernel_rfl) (by kernel_rfl) (by kernel_rfl) (fun _ _ _ h => h) (Or.inr ⟨by rfl, rfl⟩) (by assumption) ?_
            (try dsimp only [List.getElem_toArray, List.getElem_cons_zero, List.getElem_cons_succ, Act.put]); (try simp only [Act.put, List.setIfInBounds_toArray, List.set_cons_zero, List.set_cons_succ])
            refine wpAnyH_take (i := 19) (oi := _) (v := undef) rfl (by kernel_rfl) (by kernel_rfl) (by kernel_rfl) (fun _ _ _ h => h) (Or.inr ⟨by rfl, rfl⟩) (by assumption) ?_
            (try dsimp only [List.getElem_toArray, List.getElem_cons_zero, List.getElem_cons_succ, Act.put]); (try simp only [Act.put, List.setIfInBounds_toArray, List.set_cons_zero, List.set_cons_succ])
            refine wpAnyH_ready (rs := [20]) (by kernel_rfl) (by simp) ?_
            refine AllReadyH.cons (o := _) rfl (fun K hK => ?_) ?more15
            case more15 => exact AllReadyH.nil
            go_simp
            refine hK.out _ _ ?hSn15 (fun hHeld => ?_)
            case hSn15 => ((try dsimp only); ((try go_split_ands); refine STAYh_162.out _ ?_; first | exact hkh_162_1 | exact hkh_162_1.drew | exact hkh_162_0 | exact hkh_162_0.drew))
            clear hK K
            (try dsimp only [List.getElem_toArray, List.getElem_cons_zero, List.getElem_cons_succ, Act.put]); (try simp only [Act.put, List.setIfInBounds_toArray, List.set_cons_zero, List.set_cons_succ])
            refine wpAnyH_ready (rs := [21]) (by kernel_rfl) (by simp) ?_
            refine AllReadyH.cons (o := _) rfl (fun K hK => ?_) ?more16
            case more16 => exact AllReadyH.nil
            go_simp
            refine hK.out _ _ ?hSn16 (fun hHeld => ?_)
            case hSn16 => ((try dsimp only); ((try go_split_ands); refine STAYh_162.out _ ?_; first | exact hkh_162_1 | exact hkh_162_1.drew | exact hkh_162_0 | exact hkh_162_0.drew))
            clear hK K
            (try dsimp only [List.getElem_toArray, List.getElem_cons_zero, List.getElem_cons_succ, Act.put]); (try simp only [Act.put, List.setIfInBounds_toArray, List.set_cons_zero, List.set_cons_succ])
            refine wpAnyH_take (i := 22) (oi := _) (v := ?vv17) rfl (by kernel_rfl) (by kernel_rfl) (by kernel_rfl) (fun _ _ _ h => h) (Or.inl ⟨by rfl, ?hy17⟩) (by assumption) ?_
            case hy17 => (intro w hSw; (try dsimp only at hSw); go_simp; (try with_reducible rfl))
            (try dsimp only [List.getElem_toArray, List.getElem_cons_zero, List.getElem_cons_succ, Act.put]); (try simp only [Act.put, List.setIfInBounds_toArray, List.set_cons_zero, List.set_cons_succ])
            refine wpAnyH_take (i := 23) (oi := _) (v := ?vv18) rfl (by kernel_rfl) (by kernel_rfl) (by kernel_rfl) (fun _ _ _ h => h) (Or.inl ⟨by rfl, ?hy18⟩) (by assumption) ?_
            case hy18 => (intro w hSw; (try dsimp only at hSw); go_simp; (try with_reducible rfl))
            (try dsimp only [List.getElem_toArray, List.getElem_cons_zero, List.getElem_cons_succ, Act.put]); (try simp only [Act.put, List.setIfInBounds_toArray, List.set_cons_zero, List.set_cons_succ])
            refine wpAnyH_take (i := 24) (oi := _) (v := ?vv19) rfl (by kernel_rfl) (by kernel_rfl) (by kernel_rfl) (fun _ _ _ h => h) (Or.inl ⟨by rfl, ?hy19⟩) (by assumption) ?_
            case hy19 => (intro w hSw; (try dsimp only at hSw); go_simp; (try with_reducible rfl))
            (try dsimp only [List.getElem_toArray, List.getElem_cons_zero, List.getElem_cons_succ, Act.put]); (try simp only [Act.put, List.setIfInBounds_toArray, List.set_cons_zero, List.set_cons_succ])
            refine wpAnyH_ready (rs := [25]) (by kernel_rfl) (by simp) ?_
            refine AllReadyH.cons (o := _) rfl (fun K hK => ?_) ?more20
            case more20 => exact AllReadyH.nil
            go_simp
            ((with_reducible refine Calls.mono (alive9 _) ?_); rintro e wh_162_2 ⟨rfl, hbh_162⟩; have hkh_162_2 : Below wr_145.heap.size wr_145 wh_162_2 := (by first | exact below_to9 hbh_162 hkh_162_1 | exact below_to9 hbh_162 hkh_162_1.drew); clear hbh_162)
            refine hK.out _ _ ?hSn20 (fun hHeld => ?_)
            case hSn20 => ((try dsimp only); ((try go_split_ands); refine STAYh_162.out _ ?_; first | exact hkh_162_2 | exact hkh_162_2.drew | exact hkh_162_1 | exact hkh_162_1.drew | exact hkh_162_0 | exact hkh_162_0.drew))
            clear hK K
            (try dsimp only [List.getElem_toArray, List.getElem_cons_zero, List.getElem_cons_succ, Act.put]); (try simp only [Act.put, List.setIfInBounds_toArray, List.set_cons_zero, List.set_cons_succ])
            refine wpAnyH_take (i := 26) (oi := _) (v := ?vv21) rfl (by kernel_rfl) (by kernel_rfl) (by kernel_rfl) (fun _ _ _ h => h) (Or.inl ⟨by rfl, ?hy21⟩) (by assumption) ?_
            case hy21 => (intro w hSw; (try dsimp only at hSw); go_simp; (try with_reducible rfl))
            (try dsimp only [List.getElem_toArray, List.getElem_cons_zero, List.getElem_cons_succ, Act.put]); (try simp only [Act.put, List.setIfInBounds_toArray, List.set_cons_zero, List.set_cons_succ])
            refine wpAnyH_take (i := 27) (oi := _) (v := ?vv22) rfl (by kernel_rfl) (by kernel_rfl) (by kernel_rfl) (fun _ _ _ h => h) (Or.inl ⟨by rfl, ?hy22⟩) (by assumption) ?_
            case hy22 => (intro w hSw; (try dsimp only at hSw); go_simp; (try with_reducible rfl))
            (try dsimp only [List.getElem_toArray, List.getElem_cons_zero, List.getElem_cons_succ, Act.put]); (try simp only [Act.put, List.setIfInBounds_toArray, List.set_cons_zero, List.set_cons_succ])
            refine wpAnyH_done (by kernel_rfl) ?_ _
            go_wp2
            go_ret
            exact ⟨rfl, below_of B_161.out (by first | exact hkh_162_2 | exact hkh_162_2.drew)⟩
end Go.Proofs.YtccofiakblmkhaaGreat
