/- JW 9F 9G. -/
import Derived.Test.YtccofiakblmkhaaGreatC9N2
import Derived.Test.YtccofiakblmkhaaGreatC9N5
set_option linter.unusedVariables false
set_option linter.unusedSimpArgs false
/- bits: mathematics of a ring modulo a power of two. -/
namespace Go.Proofs.YtccofiakblmkhaaGreat
open Go.RowKit Mth

theorem vec_congr {wd : Nat} {a b : Int} (h : ((2 ^ wd : Nat) : Int) ∣ a - b) : vecN wd a = vecN wd b :=
  vec_same (Int.emod_eq_emod_iff_emod_sub_eq_zero.2 (Int.emod_eq_zero_of_dvd h))
theorem vec_off (wd : Nat) (z : Int) : ∃ t, ((vecN wd z : Nat) : Int) = z + ((2 ^ wd : Nat) : Int) * t := by
  refine ⟨-(z / ((2 ^ wd : Nat) : Int)), ?_⟩
  rw [vec_cast]
  have := Int.mul_ediv_add_emod z ((2 ^ wd : Nat) : Int)
  rw [Int.mul_neg]
  omega
theorem vec_self {wd n : Nat} (h : n < 2 ^ wd) : vecN wd (n : Int) = n := by rw [vec_nat, Nat.mod_eq_of_lt h]
theorem ring_dist (wd : Nat) (x y z : Int) : vecN wd (x * (vecN wd (y + z) : Nat)) = vecN wd ((vecN wd (x * y) : Nat) + (vecN wd (x * z) : Nat)) := by
  obtain ⟨a, ha⟩ := vec_off wd (y + z)
  obtain ⟨b, hb⟩ := vec_off wd (x * y)
  obtain ⟨c, hc⟩ := vec_off wd (x * z)
  rw [ha, hb, hc]
  refine vec_congr ⟨x * a - b - c, ?_⟩
  clear ha hb hc
  generalize ((2 ^ wd : Nat) : Int) = M
  grind
theorem ring_sub (wd : Nat) (x y : Int) : vecN wd (x - y) = vecN wd (x + (vecN wd (-y) : Nat)) := by
  obtain ⟨a, ha⟩ := vec_off wd (-y)
  rw [ha]
  exact vec_congr ⟨-a, by rw [Int.mul_neg]; omega⟩
theorem ring_neg (wd : Nat) (y : Int) : vecN wd (-y) = vecN wd ((vecN wd (-1 - y) : Nat) + ((1 % 2 ^ wd : Nat) : Int)) := by
  obtain ⟨a, ha⟩ := vec_off wd (-1 - y)
  obtain ⟨b, hb⟩ := vec_off wd 1
  have h1 := vec_nat wd 1
  have e : ((1 % 2 ^ wd : Nat) : Int) = 1 + ((2 ^ wd : Nat) : Int) * b := by rw [← h1]; exact hb
  rw [ha, e]
  refine vec_congr ⟨-a - b, ?_⟩
  rw [Int.mul_sub, Int.mul_neg]
  omega
theorem ring_back (wd : Nat) (y : Nat) (hy : y < 2 ^ wd) (z : Int) : vecN wd ((vecN wd ((y : Int) + z) : Nat) - z) = y := by
  obtain ⟨a, ha⟩ := vec_off wd ((y : Int) + z)
  rw [ha]
  refine Eq.trans (vec_congr (b := (y : Int)) ⟨a, by omega⟩) (vec_self hy)
end Go.Proofs.YtccofiakblmkhaaGreat

/- BitsRing: the law's own walk (genring9.py). -/
namespace Go.Proofs.YtccofiakblmkhaaGreat
open Go.RowKit Mth

theorem BvK.drewb {w : World} {wd k c n : Nat} {a : Option Addr} (h : BvK w wd a k c n) : BvK w.drew wd a k c n := h.below (Below.refl _ _).drew
set_option maxHeartbeats 16000000 in
set_option maxRecDepth 100000 in
theorem ring_good (wd : Nat) (h1 : 1 ≤ wd) (h2 : wd ≤ 4096) (v0 v1 v2 : Value) (i0 i1 i2 : Int) (w : World) (g0 : IntV w v0 i0) (g1 : IntV w v1 i1) (g2 : IntV w v2 i2) :
    Calls Tryz.prog 7 #[.int .i64 (wd : Int), v0, v1, v2] w fun e w' => e = .returned (.bool true) ∧ Below w.heap.size w w' := by
  have F1 : Hid (∀ v w1, IntV w1 v i0 → Calls Tryz.prog 14 #[.int .i64 (wd : Int), v] w1 fun e w' => ResBE w1 w' e wd (vecN wd i0)) := Lib.hid (fun v w1 h => fromK wd h1 h2 v i0 w1 h)
  have F2 : Hid (∀ v w1, IntV w1 v i1 → Calls Tryz.prog 14 #[.int .i64 (wd : Int), v] w1 fun e w' => ResBE w1 w' e wd (vecN wd i1)) := Lib.hid (fun v w1 h => fromK wd h1 h2 v i1 w1 h)
  have F3 : Hid (∀ v w1, IntV w1 v i2 → Calls Tryz.prog 14 #[.int .i64 (wd : Int), v] w1 fun e w' => ResBE w1 w' e wd (vecN wd i2)) := Lib.hid (fun v w1 h => fromK wd h1 h2 v i2 w1 h)
  have hy := vec_lt wd i1
  generalize vecN wd i0 = x at *
  generalize vecN wd i1 = y at *
  generalize vecN wd i2 = z at *
  have E1 : Hid (vecN wd ((x : Int) + y) = vecN wd ((y : Int) + x)) := Lib.hid (by rw [Int.add_comm])
  have E2 : Hid (vecN wd ((x : Int) * y) = vecN wd ((y : Int) * x)) := Lib.hid (by rw [Int.mul_comm])
  have E3 := Lib.hid (ring_dist wd x y z)
  have E4 := Lib.hid (ring_sub wd x y)
  have E5 := Lib.hid (ring_neg wd y)
  have E6 := Lib.hid (ring_back wd y hy z)
  clear hy
  obtain ⟨n0, a0, k0, c0, rfl⟩ := g0.shape
  obtain ⟨n1, a1, k1, c1, rfl⟩ := g1.shape
  obtain ⟨n2, a2, k2, c2, rfl⟩ := g2.shape
  obtain ⟨W, eW, gw0, gw1, gw2, bel, hsz⟩ := alloc3 w (Obj.cells #[.bool n0, .slice a0 k0 c0] 26) (Obj.cells #[.bool n1, .slice a1 k1 c1] 26) (Obj.cells #[.bool n2, .slice a2 k2 c2] 26)
  have Gi := Lib.hid gw0; have Gj := Lib.hid gw1; have Gk := Lib.hid gw2
  have B0 := Lib.hid bel
  have Ii := Lib.hid (g0.below bel); have Ij := Lib.hid (g1.below bel); have Ik := Lib.hid (g2.below bel)
  have AL : Hid (∀ w1, Calls Tryz.prog 24 #[] w1 fun e w' => e = .returned (.bool true) ∧ Below w1.heap.size w1 w') := Lib.hid alive9
  clear g0 g1 g2 gw0 gw1 gw2 bel
  go_enter Tryz.func7, Tryz.ntmps7
  obtain ⟨p_1, q_1, -, -, -⟩ := blk2 Gi.out
  go_wp2_with fail
  try rw [eW]
  refine (F1.out _ _ Ii.out).mono ?_
  rintro e w_2 ⟨a_2, k_2, c_2, rfl, hk, hb⟩
  clear p_1 q_1
  have Gi_3 := Lib.hid (car hb Gi.out)
  have Gj_4 := Lib.hid (car hb Gj.out)
  have Gk_5 := Lib.hid (car hb Gk.out)
  have Ii_6 := Lib.hid (Ii.out.below hb)
  have Ij_7 := Lib.hid (Ij.out.below hb)
  have Ik_8 := Lib.hid (Ik.out.below hb)
  have B_9 := Lib.hid (below_of B0.out hb)
  clear Gi Gj Gk Ii Ij Ik B0
  have Kx_10 := Lib.hid hk
  clear hk hb
  obtain ⟨V_11, eV_11, gV, bV, hV_11⟩ := alloc1n w_2 (Obj.cells #[.int .i64 (wd : Int), .slice a_2 k_2 c_2] 28)
  have Gi_12 := Lib.hid (car bV Gi_3.out)
  have Gj_13 := Lib.hid (car bV Gj_4.out)
  have Gk_14 := Lib.hid (car bV Gk_5.out)
  have Kx_15 := Lib.hid (Kx_10.out.below bV)
  have Ii_16 := Lib.hid (Ii_6.out.below bV)
  have Ij_17 := Lib.hid (Ij_7.out.below bV)
  have Ik_18 := Lib.hid (Ik_8.out.below bV)
  have B_19 := Lib.hid (below_of B_9.out bV)
  clear Gi_3 Gj_4 Gk_5 Kx_10 Ii_6 Ij_7 Ik_8 B_9
  have G_20 := Lib.hid gV
  clear gV bV
  clear Gi_12 Ii_16
  obtain ⟨p_21, q_21, -, -, -⟩ := blk2 Gj_13.out
  go_wp2_with fail
  try rw [eV_11]
  refine (F2.out _ _ Ij_17.out).mono ?_
  rintro e w_22 ⟨a_22, k_22, c_22, rfl, hk, hb⟩
  clear p_21 q_21
  have Gx_23 := Lib.hid (car hb G_20.out)
  have Gj_24 := Lib.hid (car hb Gj_13.out)
  have Gk_25 := Lib.hid (car hb Gk_14.out)
  have Kx_26 := Lib.hid (Kx_15.out.below hb)
  have Ij_27 := Lib.hid (Ij_17.out.below hb)
  have Ik_28 := Lib.hid (Ik_18.out.below hb)
  have B_29 := Lib.hid (below_of B_19.out hb)
  clear G_20 Gj_13 Gk_14 Kx_15 Ij_17 Ik_18 B_19
  have Ky_30 := Lib.hid hk
  clear hk hb
  obtain ⟨V_31, eV_31, gV, bV, hV_31⟩ := alloc1n w_22 (Obj.cells #[.int .i64 (wd : Int), .slice a_22 k_22 c_22] 28)
  have Gx_32 := Lib.hid (car bV Gx_23.out)
  have Gj_33 := Lib.hid (car bV Gj_24.out)
  have Gk_34 := Lib.hid (car bV Gk_25.out)
  have Kx_35 := Lib.hid (Kx_26.out.below bV)
  have Ky_36 := Lib.hid (Ky_30.out.below bV)
  have Ij_37 := Lib.hid (Ij_27.out.below bV)
  have Ik_38 := Lib.hid (Ik_28.out.below bV)
  have B_39 := Lib.hid (below_of B_29.out bV)
  clear Gx_23 Gj_24 Gk_25 Kx_26 Ky_30 Ij_27 Ik_28 B_29
  have G_40 := Lib.hid gV
  clear gV bV
  clear Gj_33 Ij_37
  obtain ⟨p_41, q_41, -, -, -⟩ := blk2 Gk_34.out
  go_wp2_with fail
  try rw [eV_31]
  refine (F3.out _ _ Ik_38.out).mono ?_
  rintro e w_42 ⟨a_42, k_42, c_42, rfl, hk, hb⟩
  clear p_41 q_41
  have Gx_43 := Lib.hid (car hb Gx_32.out)
  have Gy_44 := Lib.hid (car hb G_40.out)
  have Gk_45 := Lib.hid (car hb Gk_34.out)
  have Kx_46 := Lib.hid (Kx_35.out.below hb)
  have Ky_47 := Lib.hid (Ky_36.out.below hb)
  have Ik_48 := Lib.hid (Ik_38.out.below hb)
  have B_49 := Lib.hid (below_of B_39.out hb)
  clear Gx_32 G_40 Gk_34 Kx_35 Ky_36 Ik_38 B_39
  have Kz_50 := Lib.hid hk
  clear hk hb
  obtain ⟨V_51, eV_51, gV, bV, hV_51⟩ := alloc1n w_42 (Obj.cells #[.int .i64 (wd : Int), .slice a_42 k_42 c_42] 28)
  have Gx_52 := Lib.hid (car bV Gx_43.out)
  have Gy_53 := Lib.hid (car bV Gy_44.out)
  have Gk_54 := Lib.hid (car bV Gk_45.out)
  have Kx_55 := Lib.hid (Kx_46.out.below bV)
  have Ky_56 := Lib.hid (Ky_47.out.below bV)
  have Kz_57 := Lib.hid (Kz_50.out.below bV)
  have Ik_58 := Lib.hid (Ik_48.out.below bV)
  have B_59 := Lib.hid (below_of B_49.out bV)
  clear Gx_43 Gy_44 Gk_45 Kx_46 Ky_47 Kz_50 Ik_48 B_49
  have G_60 := Lib.hid gV
  clear gV bV
  clear Gk_54 Ik_58
  obtain ⟨p_61, q_61, -, -, -⟩ := blk2 Gy_53.out
  obtain ⟨V_62, eV_62, gV, bV, hV_62⟩ := alloc1n V_51 (Obj.cells #[.int .i64 (wd : Int), .slice a_22 k_22 c_22] 28)
  have Gx_63 := Lib.hid (car bV Gx_52.out)
  have Gy_64 := Lib.hid (car bV Gy_53.out)
  have Gz_65 := Lib.hid (car bV G_60.out)
  have Kx_66 := Lib.hid (Kx_55.out.below bV)
  have Ky_67 := Lib.hid (Ky_56.out.below bV)
  have Kz_68 := Lib.hid (Kz_57.out.below bV)
  have B_69 := Lib.hid (below_of B_59.out bV)
  clear Gx_52 Gy_53 G_60 Kx_55 Ky_56 Kz_57 B_59
  have G_70 := Lib.hid gV
  clear gV bV
  have AP := Lib.hid (resBE_of (vec_lt _ _) (by omega) (apply_neg (.slice none 0 0) _ wd y h1 h2 Ky_67.out.lt V_62 ⟨_, _, _, rfl⟩ (bvl_one G_70.out Ky_67.out)))
  go_wp2_with fail
  try rw [eV_51]
  try rw [eV_62]
  refine AP.out.mono ?_
  rintro e w_71 ⟨a_71, k_71, c_71, rfl, hk, hb⟩
  clear AP p_61 q_61
  have Gx_72 := Lib.hid (car hb Gx_63.out)
  have Gy_73 := Lib.hid (car hb Gy_64.out)
  have Gz_74 := Lib.hid (car hb Gz_65.out)
  have Kx_75 := Lib.hid (Kx_66.out.below hb)
  have Ky_76 := Lib.hid (Ky_67.out.below hb)
  have Kz_77 := Lib.hid (Kz_68.out.below hb)
  have B_78 := Lib.hid (below_of B_69.out hb)
  clear Gx_63 Gy_64 Gz_65 Kx_66 Ky_67 Kz_68 B_69
  have Kn_79 := Lib.hid hk
  clear hk hb
  obtain ⟨V_80, eV_80, gV, bV, hV_80⟩ := alloc1n w_71 (Obj.cells #[.int .i64 (wd : Int), .slice a_71 k_71 c_71] 28)
  have Gx_81 := Lib.hid (car bV Gx_72.out)
  have Gy_82 := Lib.hid (car bV Gy_73.out)
  have Gz_83 := Lib.hid (car bV Gz_74.out)
  have Kx_84 := Lib.hid (Kx_75.out.below bV)
  have Ky_85 := Lib.hid (Ky_76.out.below bV)
  have Kz_86 := Lib.hid (Kz_77.out.below bV)
  have Kn_87 := Lib.hid (Kn_79.out.below bV)
  have B_88 := Lib.hid (below_of B_78.out bV)
  clear Gx_72 Gy_73 Gz_74 Kx_75 Ky_76 Kz_77 Kn_79 B_78
  have G_89 := Lib.hid gV
  clear gV bV
  go_upto_region 7 with fail
  try rw [eV_80]
  go_upto_region 7 with fail
  have STAY_90 : Hid (∀ w', Below V_80.heap.size V_80 w' → w'.cell? ⟨w_2.heap.size, 0, none⟩ = some (.int .i64 (wd : Int)) ∧ w'.cell? ⟨w_2.heap.size, 1, none⟩ = some (.slice a_2 k_2 c_2) ∧ w'.cell? ⟨w_22.heap.size, 0, none⟩ = some (.int .i64 (wd : Int)) ∧ w'.cell? ⟨w_22.heap.size, 1, none⟩ = some (.slice a_22 k_22 c_22) ∧ Below V_80.heap.size V_80 w') := Lib.hid (fun w' hb => by
    obtain ⟨e0, e1, -, -, -⟩ := blk2 (car hb Gx_81.out)
    obtain ⟨e2, e3, -, -, -⟩ := blk2 (car hb Gy_82.out)
    exact ⟨e0, e1, e2, e3, hb⟩)
  obtain ⟨p_91, q_91, -, -, -⟩ := blk2 Gx_81.out
  obtain ⟨p_92, q_92, -, -, -⟩ := blk2 Gy_82.out
  have hk_90_0 := Below.refl V_80.heap.size V_80
  clear p_91 q_91 p_92 q_92
  go_cut [70] (fun s70 wx => s70 = .bool false ∧ Below V_80.heap.size V_80 wx)
  case first =>
    go_region_held3 (fun w' => w'.cell? ⟨w_2.heap.size, 0, none⟩ = some (.int .i64 (wd : Int)) ∧ w'.cell? ⟨w_2.heap.size, 1, none⟩ = some (.slice a_2 k_2 c_2) ∧ w'.cell? ⟨w_22.heap.size, 0, none⟩ = some (.int .i64 (wd : Int)) ∧ w'.cell? ⟨w_22.heap.size, 1, none⟩ = some (.slice a_22 k_22 c_22) ∧ Below V_80.heap.size V_80 w')
      (((try go_split_ands); refine STAY_90.out _ ?_; repeat (first | (with_reducible assumption) | (with_reducible exact Below.refl _ _) | (with_reducible refine Below.drew ?_))))
      (first
      | (have tk := TK_90_5; go_at_call 20; (with_reducible refine Calls.mono (sameT (by first | exact R_90_3i.out | exact BvK.drewb R_90_3i.out) (by first | exact R_90_4.out | exact BvK.drewb R_90_4.out) E2.out) ?_); rintro e w_90_6 ⟨rfl, hb_90⟩; have hk_90_6 : Below V_80.heap.size V_80 w_90_6 := (by first | exact below_to9 hb_90 hk_90_5 | exact below_to9 hb_90 hk_90_5.drew); have TK_90_6 : True := trivial; have R_90_0iiiii := Lib.hid (by first | exact R_90_0iiii.out.below hb_90 | exact R_90_0iiii.out.below (bel_d hb_90)); have R_90_1iiii := Lib.hid (by first | exact R_90_1iii.out.below hb_90 | exact R_90_1iii.out.below (bel_d hb_90)); have R_90_3ii := Lib.hid (by first | exact R_90_3i.out.below hb_90 | exact R_90_3i.out.below (bel_d hb_90)); have R_90_4i := Lib.hid (by first | exact R_90_4.out.below hb_90 | exact R_90_4.out.below (bel_d hb_90)); clear hb_90)
      | (have tk := TK_90_4; go_at_call 31; (with_reducible refine Calls.mono (two_mul wd _ _ h1 h2 _ _ _ _ _ _ _ (Ky_85.out.below (by first | exact hk_90_4 | exact hk_90_4.drew)) (Kx_84.out.below (by first | exact hk_90_4 | exact hk_90_4.drew))) ?_); rintro e w_90_5 ⟨a_90_4, k_90_4, c_90_4, rfl, hi_90, hb_90⟩; have hk_90_5 : Below V_80.heap.size V_80 w_90_5 := (by first | exact below_to9 hb_90 hk_90_4 | exact below_to9 hb_90 hk_90_4.drew); have TK_90_5 : True := trivial; have R_90_0iiii := Lib.hid (by first | exact R_90_0iii.out.below hb_90 | exact R_90_0iii.out.below (bel_d hb_90)); have R_90_1iii := Lib.hid (by first | exact R_90_1ii.out.below hb_90 | exact R_90_1ii.out.below (bel_d hb_90)); have R_90_3i := Lib.hid (by first | exact R_90_3.out.below hb_90 | exact R_90_3.out.below (bel_d hb_90)); have R_90_4 := Lib.hid hi_90; clear hi_90 hb_90)
      | (have tk := TK_90_3; go_at_call 31; (with_reducible refine Calls.mono (two_mul wd _ _ h1 h2 _ _ _ _ _ _ _ (Kx_84.out.below (by first | exact hk_90_3 | exact hk_90_3.drew)) (Ky_85.out.below (by first | exact hk_90_3 | exact hk_90_3.drew))) ?_); rintro e w_90_4 ⟨a_90_3, k_90_3, c_90_3, rfl, hi_90, hb_90⟩; have hk_90_4 : Below V_80.heap.size V_80 w_90_4 := (by first | exact below_to9 hb_90 hk_90_3 | exact below_to9 hb_90 hk_90_3.drew); have TK_90_4 : True := trivial; have R_90_0iii := Lib.hid (by first | exact R_90_0ii.out.below hb_90 | exact R_90_0ii.out.below (bel_d hb_90)); have R_90_1ii := Lib.hid (by first | exact R_90_1i.out.below hb_90 | exact R_90_1i.out.below (bel_d hb_90)); have R_90_3 := Lib.hid hi_90; clear hi_90 hb_90)
      | (have tk := TK_90_2; go_at_call 20; (with_reducible refine Calls.mono (sameT (by first | exact R_90_0i.out | exact BvK.drewb R_90_0i.out) (by first | exact R_90_1.out | exact BvK.drewb R_90_1.out) E1.out) ?_); rintro e w_90_3 ⟨rfl, hb_90⟩; have hk_90_3 : Below V_80.heap.size V_80 w_90_3 := (by first | exact below_to9 hb_90 hk_90_2 | exact below_to9 hb_90 hk_90_2.drew); have TK_90_3 : True := trivial; have R_90_0ii := Lib.hid (by first | exact R_90_0i.out.below hb_90 | exact R_90_0i.out.below (bel_d hb_90)); have R_90_1i := Lib.hid (by first | exact R_90_1.out.below hb_90 | exact R_90_1.out.below (bel_d hb_90)); clear hb_90)
      | (have tk := TK_90_1; go_at_call 31; (with_reducible refine Calls.mono (two_add wd _ _ h1 h2 _ _ _ _ _ _ _ (Ky_85.out.below (by first | exact hk_90_1 | exact hk_90_1.drew)) (Kx_84.out.below (by first | exact hk_90_1 | exact hk_90_1.drew))) ?_); rintro e w_90_2 ⟨a_90_1, k_90_1, c_90_1, rfl, hi_90, hb_90⟩; have hk_90_2 : Below V_80.heap.size V_80 w_90_2 := (by first | exact below_to9 hb_90 hk_90_1 | exact below_to9 hb_90 hk_90_1.drew); have TK_90_2 : True := trivial; have R_90_0i := Lib.hid (by first | exact R_90_0.out.below hb_90 | exact R_90_0.out.below (bel_d hb_90)); have R_90_1 := Lib.hid hi_90; clear hi_90 hb_90)
      | (go_at_call 31; (with_reducible refine Calls.mono (two_add wd _ _ h1 h2 _ _ _ _ _ _ _ (Kx_84.out.below (by first | exact hk_90_0 | exact hk_90_0.drew)) (Ky_85.out.below (by first | exact hk_90_0 | exact hk_90_0.drew))) ?_); rintro e w_90_1 ⟨a_90_0, k_90_0, c_90_0, rfl, hi_90, hb_90⟩; have hk_90_1 : Below V_80.heap.size V_80 w_90_1 := (by first | exact below_to9 hb_90 hk_90_0 | exact below_to9 hb_90 hk_90_0.drew); have TK_90_1 : True := trivial; have R_90_0 := Lib.hid hi_90; clear hi_90 hb_90))
    all_goals
      go_wp2_with fail
      go_meet
      exact ⟨rfl, by first | exact hk_90_6 | exact hk_90_6.drew⟩
  case rest =>
    obtain ⟨rfl, hb⟩ := hcut
    generalize wc = wr_90 at *
    clear STAY_90 hk_90_0
    have Gx_93 := Lib.hid (car hb Gx_81.out)
    have Gy_94 := Lib.hid (car hb Gy_82.out)
    have Gz_95 := Lib.hid (car hb Gz_83.out)
    have Gn_96 := Lib.hid (car hb G_89.out)
    have Kx_97 := Lib.hid (Kx_84.out.below hb)
    have Ky_98 := Lib.hid (Ky_85.out.below hb)
    have Kz_99 := Lib.hid (Kz_86.out.below hb)
    have Kn_100 := Lib.hid (Kn_87.out.below hb)
    have B_101 := Lib.hid (below_of B_88.out hb)
    clear Gx_81 Gy_82 Gz_83 G_89 Kx_84 Ky_85 Kz_86 Kn_87 B_88
    clear hb
    obtain ⟨p_102, q_102, -, -, -⟩ := blk2 Gy_94.out
    obtain ⟨p_103, q_103, -, -, -⟩ := blk2 Gz_95.out
    go_wp2_with fail
    refine (two_add wd _ _ h1 h2 _ _ _ _ _ _ _ Ky_98.out Kz_99.out).mono ?_
    rintro e w_104 ⟨a_104, k_104, c_104, rfl, hk, hb⟩
    clear p_102 q_102 p_103 q_103
    have Gx_105 := Lib.hid (car hb Gx_93.out)
    have Gy_106 := Lib.hid (car hb Gy_94.out)
    have Gz_107 := Lib.hid (car hb Gz_95.out)
    have Gn_108 := Lib.hid (car hb Gn_96.out)
    have Kx_109 := Lib.hid (Kx_97.out.below hb)
    have Ky_110 := Lib.hid (Ky_98.out.below hb)
    have Kz_111 := Lib.hid (Kz_99.out.below hb)
    have Kn_112 := Lib.hid (Kn_100.out.below hb)
    have B_113 := Lib.hid (below_of B_101.out hb)
    clear Gx_93 Gy_94 Gz_95 Gn_96 Kx_97 Ky_98 Kz_99 Kn_100 B_101
    have Ks_114 := Lib.hid hk
    clear hk hb
    obtain ⟨V_115, eV_115, gV, bV, hV_115⟩ := alloc1n w_104 (Obj.cells #[.int .i64 (wd : Int), .slice a_104 k_104 c_104] 28)
    have Gx_116 := Lib.hid (car bV Gx_105.out)
    have Gy_117 := Lib.hid (car bV Gy_106.out)
    have Gz_118 := Lib.hid (car bV Gz_107.out)
    have Gn_119 := Lib.hid (car bV Gn_108.out)
    have Kx_120 := Lib.hid (Kx_109.out.below bV)
    have Ky_121 := Lib.hid (Ky_110.out.below bV)
    have Kz_122 := Lib.hid (Kz_111.out.below bV)
    have Kn_123 := Lib.hid (Kn_112.out.below bV)
    have Ks_124 := Lib.hid (Ks_114.out.below bV)
    have B_125 := Lib.hid (below_of B_113.out bV)
    clear Gx_105 Gy_106 Gz_107 Gn_108 Kx_109 Ky_110 Kz_111 Kn_112 Ks_114 B_113
    have G_126 := Lib.hid gV
    clear gV bV
    go_upto_region 10 with fail
    try rw [eV_115]
    go_upto_region 10 with fail
    have STAY_127 : Hid (∀ w', Below V_115.heap.size V_115 w' → w'.cell? ⟨w_2.heap.size, 0, none⟩ = some (.int .i64 (wd : Int)) ∧ w'.cell? ⟨w_2.heap.size, 1, none⟩ = some (.slice a_2 k_2 c_2) ∧ w'.cell? ⟨w_22.heap.size, 0, none⟩ = some (.int .i64 (wd : Int)) ∧ w'.cell? ⟨w_22.heap.size, 1, none⟩ = some (.slice a_22 k_22 c_22) ∧ w'.cell? ⟨w_42.heap.size, 0, none⟩ = some (.int .i64 (wd : Int)) ∧ w'.cell? ⟨w_42.heap.size, 1, none⟩ = some (.slice a_42 k_42 c_42) ∧ w'.cell? ⟨w_104.heap.size, 0, none⟩ = some (.int .i64 (wd : Int)) ∧ w'.cell? ⟨w_104.heap.size, 1, none⟩ = some (.slice a_104 k_104 c_104) ∧ w'.cell? ⟨w_71.heap.size, 0, none⟩ = some (.int .i64 (wd : Int)) ∧ w'.cell? ⟨w_71.heap.size, 1, none⟩ = some (.slice a_71 k_71 c_71) ∧ Below V_115.heap.size V_115 w') := Lib.hid (fun w' hb => by
      obtain ⟨e0, e1, -, -, -⟩ := blk2 (car hb Gx_116.out)
      obtain ⟨e2, e3, -, -, -⟩ := blk2 (car hb Gy_117.out)
      obtain ⟨e4, e5, -, -, -⟩ := blk2 (car hb Gz_118.out)
      obtain ⟨e6, e7, -, -, -⟩ := blk2 (car hb G_126.out)
      obtain ⟨e8, e9, -, -, -⟩ := blk2 (car hb Gn_119.out)
      exact ⟨e0, e1, e2, e3, e4, e5, e6, e7, e8, e9, hb⟩)
    obtain ⟨p_128, q_128, -, -, -⟩ := blk2 Gx_116.out
    obtain ⟨p_129, q_129, -, -, -⟩ := blk2 Gy_117.out
    obtain ⟨p_130, q_130, -, -, -⟩ := blk2 Gz_118.out
    obtain ⟨p_131, q_131, -, -, -⟩ := blk2 G_126.out
    obtain ⟨p_132, q_132, -, -, -⟩ := blk2 Gn_119.out
    have hk_127_0 := Below.refl V_115.heap.size V_115
    clear p_128 q_128 p_129 q_129 p_130 q_130 p_131 q_131 p_132 q_132
    go_cut [95] (fun s95 wx => s95 = .bool false ∧ Below V_115.heap.size V_115 wx)
    case first =>
      go_region_held3 (fun w' => w'.cell? ⟨w_2.heap.size, 0, none⟩ = some (.int .i64 (wd : Int)) ∧ w'.cell? ⟨w_2.heap.size, 1, none⟩ = some (.slice a_2 k_2 c_2) ∧ w'.cell? ⟨w_22.heap.size, 0, none⟩ = some (.int .i64 (wd : Int)) ∧ w'.cell? ⟨w_22.heap.size, 1, none⟩ = some (.slice a_22 k_22 c_22) ∧ w'.cell? ⟨w_42.heap.size, 0, none⟩ = some (.int .i64 (wd : Int)) ∧ w'.cell? ⟨w_42.heap.size, 1, none⟩ = some (.slice a_42 k_42 c_42) ∧ w'.cell? ⟨w_104.heap.size, 0, none⟩ = some (.int .i64 (wd : Int)) ∧ w'.cell? ⟨w_104.heap.size, 1, none⟩ = some (.slice a_104 k_104 c_104) ∧ w'.cell? ⟨w_71.heap.size, 0, none⟩ = some (.int .i64 (wd : Int)) ∧ w'.cell? ⟨w_71.heap.size, 1, none⟩ = some (.slice a_71 k_71 c_71) ∧ Below V_115.heap.size V_115 w')
        (((try go_split_ands); refine STAY_127.out _ ?_; repeat (first | (with_reducible assumption) | (with_reducible exact Below.refl _ _) | (with_reducible refine Below.drew ?_))))
        (first
        | (have tk := TK_127_7; go_at_call 20; (with_reducible refine Calls.mono (sameT (by first | exact R_127_5i.out | exact BvK.drewb R_127_5i.out) (by first | exact R_127_6.out | exact BvK.drewb R_127_6.out) E4.out) ?_); rintro e w_127_8 ⟨rfl, hb_127⟩; have hk_127_8 : Below V_115.heap.size V_115 w_127_8 := (by first | exact below_to9 hb_127 hk_127_7 | exact below_to9 hb_127 hk_127_7.drew); have TK_127_8 : True := trivial; have R_127_0iiiiiii := Lib.hid (by first | exact R_127_0iiiiii.out.below hb_127 | exact R_127_0iiiiii.out.below (bel_d hb_127)); have R_127_1iiiiii := Lib.hid (by first | exact R_127_1iiiii.out.below hb_127 | exact R_127_1iiiii.out.below (bel_d hb_127)); have R_127_2iiiii := Lib.hid (by first | exact R_127_2iiii.out.below hb_127 | exact R_127_2iiii.out.below (bel_d hb_127)); have R_127_3iiii := Lib.hid (by first | exact R_127_3iii.out.below hb_127 | exact R_127_3iii.out.below (bel_d hb_127)); have R_127_5ii := Lib.hid (by first | exact R_127_5i.out.below hb_127 | exact R_127_5i.out.below (bel_d hb_127)); have R_127_6i := Lib.hid (by first | exact R_127_6.out.below hb_127 | exact R_127_6.out.below (bel_d hb_127)); clear hb_127)
        | (have tk := TK_127_6; go_at_call 31; (with_reducible refine Calls.mono (two_add wd _ _ h1 h2 _ _ _ _ _ _ _ (Kx_120.out.below (by first | exact hk_127_6 | exact hk_127_6.drew)) (Kn_123.out.below (by first | exact hk_127_6 | exact hk_127_6.drew))) ?_); rintro e w_127_7 ⟨a_127_6, k_127_6, c_127_6, rfl, hi_127, hb_127⟩; have hk_127_7 : Below V_115.heap.size V_115 w_127_7 := (by first | exact below_to9 hb_127 hk_127_6 | exact below_to9 hb_127 hk_127_6.drew); have TK_127_7 : True := trivial; have R_127_0iiiiii := Lib.hid (by first | exact R_127_0iiiii.out.below hb_127 | exact R_127_0iiiii.out.below (bel_d hb_127)); have R_127_1iiiii := Lib.hid (by first | exact R_127_1iiii.out.below hb_127 | exact R_127_1iiii.out.below (bel_d hb_127)); have R_127_2iiii := Lib.hid (by first | exact R_127_2iii.out.below hb_127 | exact R_127_2iii.out.below (bel_d hb_127)); have R_127_3iii := Lib.hid (by first | exact R_127_3ii.out.below hb_127 | exact R_127_3ii.out.below (bel_d hb_127)); have R_127_5i := Lib.hid (by first | exact R_127_5.out.below hb_127 | exact R_127_5.out.below (bel_d hb_127)); have R_127_6 := Lib.hid hi_127; clear hi_127 hb_127)
        | (have tk := TK_127_5; go_at_call 31; (with_reducible refine Calls.mono (two_sub wd _ _ h1 h2 _ _ _ _ _ _ _ (Kx_120.out.below (by first | exact hk_127_5 | exact hk_127_5.drew)) (Ky_121.out.below (by first | exact hk_127_5 | exact hk_127_5.drew))) ?_); rintro e w_127_6 ⟨a_127_5, k_127_5, c_127_5, rfl, hi_127, hb_127⟩; have hk_127_6 : Below V_115.heap.size V_115 w_127_6 := (by first | exact below_to9 hb_127 hk_127_5 | exact below_to9 hb_127 hk_127_5.drew); have TK_127_6 : True := trivial; have R_127_0iiiii := Lib.hid (by first | exact R_127_0iiii.out.below hb_127 | exact R_127_0iiii.out.below (bel_d hb_127)); have R_127_1iiii := Lib.hid (by first | exact R_127_1iii.out.below hb_127 | exact R_127_1iii.out.below (bel_d hb_127)); have R_127_2iii := Lib.hid (by first | exact R_127_2ii.out.below hb_127 | exact R_127_2ii.out.below (bel_d hb_127)); have R_127_3ii := Lib.hid (by first | exact R_127_3i.out.below hb_127 | exact R_127_3i.out.below (bel_d hb_127)); have R_127_5 := Lib.hid hi_127; clear hi_127 hb_127)
        | (have tk := TK_127_4; go_at_call 20; (with_reducible refine Calls.mono (sameT (by first | exact R_127_0iii.out | exact BvK.drewb R_127_0iii.out) (by first | exact R_127_3.out | exact BvK.drewb R_127_3.out) E3.out) ?_); rintro e w_127_5 ⟨rfl, hb_127⟩; have hk_127_5 : Below V_115.heap.size V_115 w_127_5 := (by first | exact below_to9 hb_127 hk_127_4 | exact below_to9 hb_127 hk_127_4.drew); have TK_127_5 : True := trivial; have R_127_0iiii := Lib.hid (by first | exact R_127_0iii.out.below hb_127 | exact R_127_0iii.out.below (bel_d hb_127)); have R_127_1iii := Lib.hid (by first | exact R_127_1ii.out.below hb_127 | exact R_127_1ii.out.below (bel_d hb_127)); have R_127_2ii := Lib.hid (by first | exact R_127_2i.out.below hb_127 | exact R_127_2i.out.below (bel_d hb_127)); have R_127_3i := Lib.hid (by first | exact R_127_3.out.below hb_127 | exact R_127_3.out.below (bel_d hb_127)); clear hb_127)
        | (have tk := TK_127_3; go_at_call 31; (with_reducible refine Calls.mono (two_add wd _ _ h1 h2 _ _ _ _ _ _ _ (by first | exact R_127_1i.out | exact BvK.drewb R_127_1i.out) (by first | exact R_127_2.out | exact BvK.drewb R_127_2.out)) ?_); rintro e w_127_4 ⟨a_127_3, k_127_3, c_127_3, rfl, hi_127, hb_127⟩; have hk_127_4 : Below V_115.heap.size V_115 w_127_4 := (by first | exact below_to9 hb_127 hk_127_3 | exact below_to9 hb_127 hk_127_3.drew); have TK_127_4 : True := trivial; have R_127_0iii := Lib.hid (by first | exact R_127_0ii.out.below hb_127 | exact R_127_0ii.out.below (bel_d hb_127)); have R_127_1ii := Lib.hid (by first | exact R_127_1i.out.below hb_127 | exact R_127_1i.out.below (bel_d hb_127)); have R_127_2i := Lib.hid (by first | exact R_127_2.out.below hb_127 | exact R_127_2.out.below (bel_d hb_127)); have R_127_3 := Lib.hid hi_127; clear hi_127 hb_127)
        | (have tk := TK_127_2; go_at_call 31; (with_reducible refine Calls.mono (two_mul wd _ _ h1 h2 _ _ _ _ _ _ _ (Kx_120.out.below (by first | exact hk_127_2 | exact hk_127_2.drew)) (Kz_122.out.below (by first | exact hk_127_2 | exact hk_127_2.drew))) ?_); rintro e w_127_3 ⟨a_127_2, k_127_2, c_127_2, rfl, hi_127, hb_127⟩; have hk_127_3 : Below V_115.heap.size V_115 w_127_3 := (by first | exact below_to9 hb_127 hk_127_2 | exact below_to9 hb_127 hk_127_2.drew); have TK_127_3 : True := trivial; have R_127_0ii := Lib.hid (by first | exact R_127_0i.out.below hb_127 | exact R_127_0i.out.below (bel_d hb_127)); have R_127_1i := Lib.hid (by first | exact R_127_1.out.below hb_127 | exact R_127_1.out.below (bel_d hb_127)); have R_127_2 := Lib.hid hi_127; clear hi_127 hb_127)
        | (have tk := TK_127_1; go_at_call 31; (with_reducible refine Calls.mono (two_mul wd _ _ h1 h2 _ _ _ _ _ _ _ (Kx_120.out.below (by first | exact hk_127_1 | exact hk_127_1.drew)) (Ky_121.out.below (by first | exact hk_127_1 | exact hk_127_1.drew))) ?_); rintro e w_127_2 ⟨a_127_1, k_127_1, c_127_1, rfl, hi_127, hb_127⟩; have hk_127_2 : Below V_115.heap.size V_115 w_127_2 := (by first | exact below_to9 hb_127 hk_127_1 | exact below_to9 hb_127 hk_127_1.drew); have TK_127_2 : True := trivial; have R_127_0i := Lib.hid (by first | exact R_127_0.out.below hb_127 | exact R_127_0.out.below (bel_d hb_127)); have R_127_1 := Lib.hid hi_127; clear hi_127 hb_127)
        | (go_at_call 31; (with_reducible refine Calls.mono (two_mul wd _ _ h1 h2 _ _ _ _ _ _ _ (Kx_120.out.below (by first | exact hk_127_0 | exact hk_127_0.drew)) (Ks_124.out.below (by first | exact hk_127_0 | exact hk_127_0.drew))) ?_); rintro e w_127_1 ⟨a_127_0, k_127_0, c_127_0, rfl, hi_127, hb_127⟩; have hk_127_1 : Below V_115.heap.size V_115 w_127_1 := (by first | exact below_to9 hb_127 hk_127_0 | exact below_to9 hb_127 hk_127_0.drew); have TK_127_1 : True := trivial; have R_127_0 := Lib.hid hi_127; clear hi_127 hb_127))
      all_goals
        go_wp2_with fail
        go_meet
        exact ⟨rfl, by first | exact hk_127_8 | exact hk_127_8.drew⟩
    case rest =>
      obtain ⟨rfl, hb⟩ := hcut
      generalize wc = wr_127 at *
      clear STAY_127 hk_127_0
      have Gx_133 := Lib.hid (car hb Gx_116.out)
      have Gy_134 := Lib.hid (car hb Gy_117.out)
      have Gz_135 := Lib.hid (car hb Gz_118.out)
      have Gn_136 := Lib.hid (car hb Gn_119.out)
      have Gs_137 := Lib.hid (car hb G_126.out)
      have Kx_138 := Lib.hid (Kx_120.out.below hb)
      have Ky_139 := Lib.hid (Ky_121.out.below hb)
      have Kz_140 := Lib.hid (Kz_122.out.below hb)
      have Kn_141 := Lib.hid (Kn_123.out.below hb)
      have Ks_142 := Lib.hid (Ks_124.out.below hb)
      have B_143 := Lib.hid (below_of B_125.out hb)
      clear Gx_116 Gy_117 Gz_118 Gn_119 G_126 Kx_120 Ky_121 Kz_122 Kn_123 Ks_124 B_125
      clear hb
      go_upto_region 12 with fail
      have STAY_144 : Hid (∀ w', Below wr_127.heap.size wr_127 w' → w'.cell? ⟨w_71.heap.size, 0, none⟩ = some (.int .i64 (wd : Int)) ∧ w'.cell? ⟨w_71.heap.size, 1, none⟩ = some (.slice a_71 k_71 c_71) ∧ w'.cell? ⟨w_22.heap.size, 0, none⟩ = some (.int .i64 (wd : Int)) ∧ w'.cell? ⟨w_22.heap.size, 1, none⟩ = some (.slice a_22 k_22 c_22) ∧ w'.cell? ⟨w_104.heap.size, 0, none⟩ = some (.int .i64 (wd : Int)) ∧ w'.cell? ⟨w_104.heap.size, 1, none⟩ = some (.slice a_104 k_104 c_104) ∧ w'.cell? ⟨w_42.heap.size, 0, none⟩ = some (.int .i64 (wd : Int)) ∧ w'.cell? ⟨w_42.heap.size, 1, none⟩ = some (.slice a_42 k_42 c_42) ∧ Below wr_127.heap.size wr_127 w') := Lib.hid (fun w' hb => by
        obtain ⟨e0, e1, -, -, -⟩ := blk2 (car hb Gn_136.out)
        obtain ⟨e2, e3, -, -, -⟩ := blk2 (car hb Gy_134.out)
        obtain ⟨e4, e5, -, -, -⟩ := blk2 (car hb Gs_137.out)
        obtain ⟨e6, e7, -, -, -⟩ := blk2 (car hb Gz_135.out)
        exact ⟨e0, e1, e2, e3, e4, e5, e6, e7, hb⟩)
      obtain ⟨p_145, q_145, -, -, -⟩ := blk2 Gn_136.out
      obtain ⟨p_146, q_146, -, -, -⟩ := blk2 Gy_134.out
      obtain ⟨p_147, q_147, -, -, -⟩ := blk2 Gs_137.out
      obtain ⟨p_148, q_148, -, -, -⟩ := blk2 Gz_135.out
      have hk_144_0 := Below.refl wr_127.heap.size wr_127
      clear p_145 q_145 p_146 q_146 p_147 q_147 p_148 q_148
      go_region_held3 (fun w' => w'.cell? ⟨w_71.heap.size, 0, none⟩ = some (.int .i64 (wd : Int)) ∧ w'.cell? ⟨w_71.heap.size, 1, none⟩ = some (.slice a_71 k_71 c_71) ∧ w'.cell? ⟨w_22.heap.size, 0, none⟩ = some (.int .i64 (wd : Int)) ∧ w'.cell? ⟨w_22.heap.size, 1, none⟩ = some (.slice a_22 k_22 c_22) ∧ w'.cell? ⟨w_104.heap.size, 0, none⟩ = some (.int .i64 (wd : Int)) ∧ w'.cell? ⟨w_104.heap.size, 1, none⟩ = some (.slice a_104 k_104 c_104) ∧ w'.cell? ⟨w_42.heap.size, 0, none⟩ = some (.int .i64 (wd : Int)) ∧ w'.cell? ⟨w_42.heap.size, 1, none⟩ = some (.slice a_42 k_42 c_42) ∧ Below wr_127.heap.size wr_127 w')
        (((try go_split_ands); refine STAY_144.out _ ?_; repeat (first | (with_reducible assumption) | (with_reducible exact Below.refl _ _) | (with_reducible refine Below.drew ?_))))
        (first
        | (have tk := TK_144_6; go_at_call 24; (with_reducible refine Calls.mono (alive9 _) ?_); rintro e w_144_7 ⟨rfl, hb_144⟩; have hk_144_7 : Below wr_127.heap.size wr_127 w_144_7 := (by first | exact below_to9 hb_144 hk_144_6 | exact below_to9 hb_144 hk_144_6.drew); have TK_144_7 : True := trivial; clear hb_144)
        | (have tk := TK_144_5; go_at_call 20; (with_reducible refine Calls.mono (sameT (by first | exact R_144_4.out | exact BvK.drewb R_144_4.out) (Ky_139.out.below (by first | exact hk_144_5 | exact hk_144_5.drew)) E6.out) ?_); rintro e w_144_6 ⟨rfl, hb_144⟩; have hk_144_6 : Below wr_127.heap.size wr_127 w_144_6 := (by first | exact below_to9 hb_144 hk_144_5 | exact below_to9 hb_144 hk_144_5.drew); have TK_144_6 : True := trivial; have R_144_0iiiii := Lib.hid (by first | exact R_144_0iiii.out.below hb_144 | exact R_144_0iiii.out.below (bel_d hb_144)); have R_144_1iiii := Lib.hid (by first | exact R_144_1iii.out.below hb_144 | exact R_144_1iii.out.below (bel_d hb_144)); have R_144_2iii := Lib.hid (by first | exact R_144_2ii.out.below hb_144 | exact R_144_2ii.out.below (bel_d hb_144)); have R_144_4i := Lib.hid (by first | exact R_144_4.out.below hb_144 | exact R_144_4.out.below (bel_d hb_144)); clear hb_144)
        | (have tk := TK_144_4; go_at_call 31; (with_reducible refine Calls.mono (two_sub wd _ _ h1 h2 _ _ _ _ _ _ _ (Ks_142.out.below (by first | exact hk_144_4 | exact hk_144_4.drew)) (Kz_140.out.below (by first | exact hk_144_4 | exact hk_144_4.drew))) ?_); rintro e w_144_5 ⟨a_144_4, k_144_4, c_144_4, rfl, hi_144, hb_144⟩; have hk_144_5 : Below wr_127.heap.size wr_127 w_144_5 := (by first | exact below_to9 hb_144 hk_144_4 | exact below_to9 hb_144 hk_144_4.drew); have TK_144_5 : True := trivial; have R_144_0iiii := Lib.hid (by first | exact R_144_0iii.out.below hb_144 | exact R_144_0iii.out.below (bel_d hb_144)); have R_144_1iii := Lib.hid (by first | exact R_144_1ii.out.below hb_144 | exact R_144_1ii.out.below (bel_d hb_144)); have R_144_2ii := Lib.hid (by first | exact R_144_2i.out.below hb_144 | exact R_144_2i.out.below (bel_d hb_144)); have R_144_4 := Lib.hid hi_144; clear hi_144 hb_144)
        | (have tk := TK_144_3; go_at_call 20; (with_reducible refine Calls.mono (sameT (Kn_141.out.below (by first | exact hk_144_3 | exact hk_144_3.drew)) (by first | exact R_144_2.out | exact BvK.drewb R_144_2.out) E5.out) ?_); rintro e w_144_4 ⟨rfl, hb_144⟩; have hk_144_4 : Below wr_127.heap.size wr_127 w_144_4 := (by first | exact below_to9 hb_144 hk_144_3 | exact below_to9 hb_144 hk_144_3.drew); have TK_144_4 : True := trivial; have R_144_0iii := Lib.hid (by first | exact R_144_0ii.out.below hb_144 | exact R_144_0ii.out.below (bel_d hb_144)); have R_144_1ii := Lib.hid (by first | exact R_144_1i.out.below hb_144 | exact R_144_1i.out.below (bel_d hb_144)); have R_144_2i := Lib.hid (by first | exact R_144_2.out.below hb_144 | exact R_144_2.out.below (bel_d hb_144)); clear hb_144)
        | (have tk := TK_144_2; go_at_call 31; (with_reducible refine Calls.mono (two_add wd _ _ h1 h2 _ _ _ _ _ _ _ (by first | exact R_144_0i.out | exact BvK.drewb R_144_0i.out) (by first | exact R_144_1.out | exact BvK.drewb R_144_1.out)) ?_); rintro e w_144_3 ⟨a_144_2, k_144_2, c_144_2, rfl, hi_144, hb_144⟩; have hk_144_3 : Below wr_127.heap.size wr_127 w_144_3 := (by first | exact below_to9 hb_144 hk_144_2 | exact below_to9 hb_144 hk_144_2.drew); have TK_144_3 : True := trivial; have R_144_0ii := Lib.hid (by first | exact R_144_0i.out.below hb_144 | exact R_144_0i.out.below (bel_d hb_144)); have R_144_1i := Lib.hid (by first | exact R_144_1.out.below hb_144 | exact R_144_1.out.below (bel_d hb_144)); have R_144_2 := Lib.hid hi_144; clear hi_144 hb_144)
        | (have tk := TK_144_1; go_at_call 33; (with_reducible refine Calls.mono (b9 wd 1 h1 h2 (by unfold B64; omega) _) ?_); rintro e w_144_2 ⟨a_144_1, k_144_1, c_144_1, rfl, hi_144, hb_144⟩; have hk_144_2 : Below wr_127.heap.size wr_127 w_144_2 := (by first | exact below_to9 hb_144 hk_144_1 | exact below_to9 hb_144 hk_144_1.drew); have TK_144_2 : True := trivial; have R_144_0i := Lib.hid (by first | exact R_144_0.out.below hb_144 | exact R_144_0.out.below (bel_d hb_144)); have R_144_1 := Lib.hid hi_144; clear hi_144 hb_144)
        | (go_at_call 32; (with_reducible refine Calls.mono (not9 wd _ h1 h2 _ _ _ _ (Ky_139.out.below (by first | exact hk_144_0 | exact hk_144_0.drew))) ?_); rintro e w_144_1 ⟨a_144_0, k_144_0, c_144_0, rfl, hi_144, hb_144⟩; have hk_144_1 : Below wr_127.heap.size wr_127 w_144_1 := (by first | exact below_to9 hb_144 hk_144_0 | exact below_to9 hb_144 hk_144_0.drew); have TK_144_1 : True := trivial; have R_144_0 := Lib.hid hi_144; clear hi_144 hb_144))
      all_goals
        go_wp2
        go_ret
        exact ⟨rfl, below_of B_143.out (by first | exact hk_144_7 | exact hk_144_7.drew)⟩
end Go.Proofs.YtccofiakblmkhaaGreat

/- BitsRing: where the width is none; the walk. -/
namespace Go.Proofs.YtccofiakblmkhaaGreat
open Go.RowKit Mth

set_option maxHeartbeats 8000000 in
set_option maxRecDepth 100000 in
theorem ring_bad (x : Int) (hx : isW x = false) (v0 v1 v2 : Value) (i0 i1 i2 : Int) (w : World) (g0 : IntV w v0 i0) (g1 : IntV w v1 i1) (g2 : IntV w v2 i2) :
    Calls Tryz.prog 7 #[.int .i64 x, v0, v1, v2] w fun e w' => e = .returned (.bool true) ∧ Below w.heap.size w w' := by
  have FB : Hid (∀ v z w1, IntV w1 v z → Calls Tryz.prog 14 #[.int .i64 x, v] w1 fun e w' => e = .returned (.tuple #[.agg #[.int .i64 0, .slice none 0 0], .int .i64 55]) ∧ Below w1.heap.size w1 w') := Lib.hid (fun v z w1 h => from_bad x hx v z w1 h)
  obtain ⟨n0, a0, k0, c0, rfl⟩ := g0.shape
  obtain ⟨n1, a1, k1, c1, rfl⟩ := g1.shape
  obtain ⟨n2, a2, k2, c2, rfl⟩ := g2.shape
  obtain ⟨W, eW, gw0, gw1, gw2, bel, hsz⟩ := alloc3 w (Obj.cells #[.bool n0, .slice a0 k0 c0] 26) (Obj.cells #[.bool n1, .slice a1 k1 c1] 26) (Obj.cells #[.bool n2, .slice a2 k2 c2] 26)
  have B0 := Lib.hid bel
  have I0 := Lib.hid (g0.below bel); have I1 := Lib.hid (g1.below bel); have I2 := Lib.hid (g2.below bel)
  have G1 := Lib.hid gw1; have G2 := Lib.hid gw2
  obtain ⟨p0, p1, -, -, _⟩ := blk2 gw0
  clear g0 g1 g2 gw0 gw1 gw2 bel hx
  go_enter Tryz.func7, Tryz.ntmps7
  go_wp2_with fail
  try rw [eW]
  refine (FB.out _ _ _ I0.out).mono ?_
  rintro e w1 ⟨rfl, hb1⟩
  obtain ⟨V1, eV1, gV1, bV1, hV1⟩ := alloc1n w1 (Obj.cells #[.int .i64 0, .slice none 0 0] 28)
  have EV1 := Lib.hid eV1; clear eV1
  have B1 := Lib.hid (below_of B0.out (below_of hb1 bV1))
  have I1' := Lib.hid ((I1.out.below hb1).below bV1); have I2' := Lib.hid ((I2.out.below hb1).below bV1)
  have G1' := Lib.hid (car bV1 (car hb1 G1.out)); have G2' := Lib.hid (car bV1 (car hb1 G2.out))
  obtain ⟨q0, q1, -, -, _⟩ := blk2 G1'.out
  clear p0 p1 hb1 gV1 bV1
  go_upto_region 2 with fail
  rw [EV1.out]
  go_wp2_with fail
  refine (FB.out _ _ _ I1'.out).mono ?_
  rintro e w2 ⟨rfl, hb2⟩
  obtain ⟨V2, eV2, gV2, bV2, hV2⟩ := alloc1n w2 (Obj.cells #[.int .i64 0, .slice none 0 0] 28)
  have EV2 := Lib.hid eV2; clear eV2
  have B2 := Lib.hid (below_of B1.out (below_of hb2 bV2))
  have I2'' := Lib.hid ((I2'.out.below hb2).below bV2)
  have G2'' := Lib.hid (car bV2 (car hb2 G2'.out))
  obtain ⟨p0, p1, -, -, _⟩ := blk2 G2''.out
  clear q0 q1 hb2 gV2 bV2
  go_upto_region 3 with fail
  rw [EV2.out]
  go_wp2_with fail
  refine (FB.out _ _ _ I2''.out).mono ?_
  rintro e w3 ⟨rfl, hb3⟩
  obtain ⟨V3, eV3, gV3, bV3, hV3⟩ := alloc1n w3 (Obj.cells #[.int .i64 0, .slice none 0 0] 28)
  have EV3 := Lib.hid eV3; clear eV3
  have B3 := Lib.hid (below_of B2.out (below_of hb3 bV3))
  clear p0 p1 hb3 gV3 bV3
  go_upto_region 4 with fail
  rw [EV3.out]
  go_wp2_with fail
  refine (alive9 _).mono ?_
  rintro e w4 ⟨rfl, hb4⟩
  have B4 := Lib.hid (below_of B3.out hb4)
  clear hb4
  go_wp2
  go_ret
  exact ⟨rfl, B4.out⟩
theorem ring_walk (x : Int) (v0 v1 v2 : Value) (i0 i1 i2 : Int) (w : World) (g0 : IntV w v0 i0) (g1 : IntV w v1 i1) (g2 : IntV w v2 i2) :
    Calls Tryz.prog 7 #[.int .i64 x, v0, v1, v2] w fun e w' => e = .returned (.bool true) ∧ Below w.heap.size w w' := by
  cases hx : isW x
  · exact ring_bad x hx v0 v1 v2 i0 i1 i2 w g0 g1 g2
  · have h : 1 ≤ x ∧ x ≤ 4096 := by unfold isW at hx; simpa using hx
    obtain ⟨wd, rfl⟩ := Int.eq_ofNat_of_zero_le (show 0 ≤ x by omega)
    exact ring_good wd (by omega) (by omega) v0 v1 v2 i0 i1 i2 w g0 g1 g2
end Go.Proofs.YtccofiakblmkhaaGreat
