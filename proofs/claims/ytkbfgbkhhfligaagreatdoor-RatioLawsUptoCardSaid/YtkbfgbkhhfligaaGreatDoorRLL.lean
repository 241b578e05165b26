/- RatioLaws: the walk (written by genll.py). -/
import Derived.Test.YtkbfgbkhhfligaaGreatDoorRLN
set_option linter.unusedVariables false
set_option linter.unusedSimpArgs false
namespace Go.Proofs.YtkbfgbkhhfligaaGreatDoor
open Go.RowKit Mth

set_option maxHeartbeats 16000000 in
set_option maxRecDepth 100000 in
theorem laws3_walk (w : World) (va vb vc : Value) (x1 x2 x3 : Int) (d1 d2 d3 : Nat) (hz10 : TZ10 w) (ha : RatV w va x1 d1) (hb : RatV w vb x2 d2) (hc : RatV w vc x3 d3) :
    Calls Tryz.prog 10 #[va, vb, vc] w fun e w' => e = .returned (.bool true) ∧ Below w.heap.size w w' := by
  have HZ := Lib.hid hz10
  obtain ⟨m1, a1, k1, c1, s1, t1, u1, rfl⟩ := rat_shape ha
  obtain ⟨m2, a2, k2, c2, s2, t2, u2, rfl⟩ := rat_shape hb
  obtain ⟨m3, a3, k3, c3, s3, t3, u3, rfl⟩ := rat_shape hc
  obtain ⟨w0, eW, h1, h2, h3, bel, -⟩ := alloc3 w (Obj.cells #[.bool m1, .slice a1 k1 c1, .slice s1 t1 u1] 41) (Obj.cells #[.bool m2, .slice a2 k2 c2, .slice s2 t2 u2] 41) (Obj.cells #[.bool m3, .slice a3 k3 c3, .slice s3 t3 u3] 41)
  have Ga0 := Lib.hid h1; have Gb0 := Lib.hid h2; have Gc0 : Hid (w0.heap[w.heap.size + 1 + 1]? = _) := Lib.hid h3
  have Ra0 := Lib.hid (ha.below bel); have Rb0 := Lib.hid (hb.below bel); have Rc0 := Lib.hid (hc.below bel)
  have B0 := Lib.hid bel
  clear h1 h2 h3 bel ha hb hc hz10
  go_enter Tryz.func10, Tryz.ntmps10
  obtain ⟨V1, eV1, gV, bV, -⟩ := alloc1 w0 (Obj.cells #[.bool m1, .slice a1 k1 c1, .slice s1 t1 u1, .bool m2, .slice a2 k2 c2, .slice s2 t2 u2] 41)
  have AD1 := Lib.hid (radd_any3 _ _ V1 (ral_two gV (Ra0.out.below bV) (Rb0.out.below bV)) (by simp))
  obtain ⟨⟨pa0, pa1, pa2⟩, _, _⟩ := blk3 Ga0.out
  obtain ⟨⟨pb0, pb1, pb2⟩, _, _⟩ := blk3 Gb0.out
  clear gV
  go_wp2_with fail
  try rw [eW]
  try rw [eV1]
  try clear eW
  clear eV1
  refine AD1.out.mono ?_
  rintro e y1 ⟨v, Es, rfl, hg, hb⟩
  have hbV := below_of bV hb
  obtain ⟨Xs, Ds, hf, hX, hD, hC⟩ := out_add hg
  have HCs := Lib.hid hC
  obtain ⟨m4, a4, k4, c4, s4, t4, u4, rfl⟩ := frv_shape hf
  obtain ⟨w1, eU1, gU, bU, -⟩ := alloc1 y1 (Obj.cells #[.bool m4, .slice a4 k4 c4, .slice s4 t4 u4] 41)
  have hbU := below_of hbV bU
  clear pa0 pa1 pa2 pb0 pb1 pb2
  have Ga1 := Lib.hid (blk_below' hbU Ga0.out); have Ra1 := Lib.hid (Ra0.out.below hbU)
  have Gb1 := Lib.hid (blk_below' hbU Gb0.out); have Rb1 := Lib.hid (Rb0.out.below hbU)
  have Gc1 := Lib.hid (blk_below' hbU Gc0.out); have Rc1 := Lib.hid (Rc0.out.below hbU)
  have B1 := Lib.hid (below_of B0.out hbU)
  clear Ga0 Ra0 Gb0 Rb0 Gc0 Rc0 B0
  have Gs1 : Hid (w1.heap[y1.heap.size]? = _) := Lib.hid gU
  have Fs1 := Lib.hid (hf.below bU)
  have Rs1 := Lib.hid ((fr_rat hf hX hD).below bU)
  clear gU hf hg hb hC hX hD hbV hbU bU bV AD1
  obtain ⟨V2, eV2, gV, bV, -⟩ := alloc1 w1 (Obj.cells #[.bool m2, .slice a2 k2 c2, .slice s2 t2 u2, .bool m1, .slice a1 k1 c1, .slice s1 t1 u1] 41)
  have AD2 := Lib.hid (radd_any3 _ _ V2 (ral_two gV (Rb1.out.below bV) (Ra1.out.below bV)) (by simp))
  obtain ⟨⟨pb0, pb1, pb2⟩, _, _⟩ := blk3 Gb1.out
  obtain ⟨⟨pa0, pa1, pa2⟩, _, _⟩ := blk3 Ga1.out
  clear gV
  go_wp2_with fail
  try rw [eU1]
  try rw [eV2]
  try clear eU1
  clear eV2
  refine AD2.out.mono ?_
  rintro e y2 ⟨v, Et, rfl, hg, hb⟩
  have hbV := below_of bV hb
  obtain ⟨Xt, Dt, hf, hX, hD, hC⟩ := out_add hg
  have HCt := Lib.hid hC
  obtain ⟨m5, a5, k5, c5, s5, t5, u5, rfl⟩ := frv_shape hf
  obtain ⟨w2, eU2, gU, bU, -⟩ := alloc1 y2 (Obj.cells #[.bool m5, .slice a5 k5 c5, .slice s5 t5 u5] 41)
  have hbU := below_of hbV bU
  clear pb0 pb1 pb2 pa0 pa1 pa2
  have Ga2 := Lib.hid (blk_below' hbU Ga1.out); have Ra2 := Lib.hid (Ra1.out.below hbU)
  have Gb2 := Lib.hid (blk_below' hbU Gb1.out); have Rb2 := Lib.hid (Rb1.out.below hbU)
  have Gc2 := Lib.hid (blk_below' hbU Gc1.out); have Rc2 := Lib.hid (Rc1.out.below hbU)
  have Gs2 := Lib.hid (blk_below' hbU Gs1.out); have Rs2 := Lib.hid (Rs1.out.below hbU)
  have B2 := Lib.hid (below_of B1.out hbU)
  have Fs2 := Lib.hid (Fs1.out.below hbU)
  clear Fs1
  clear Ga1 Ra1 Gb1 Rb1 Gc1 Rc1 Gs1 Rs1 B1
  have Gt2 : Hid (w2.heap[y2.heap.size]? = _) := Lib.hid gU
  have Ft2 := Lib.hid (hf.below bU)
  have Rt2 := Lib.hid ((fr_rat hf hX hD).below bU)
  clear gU hf hg hb hC hX hD hbV hbU bU bV AD2
  obtain ⟨V3, eV3, gV, bV, -⟩ := alloc1 w2 (Obj.cells #[.bool m4, .slice a4 k4 c4, .slice s4 t4 u4, .bool m3, .slice a3 k3 c3, .slice s3 t3 u3] 41)
  have AD3 := Lib.hid (rmul_any3 _ _ V3 (ral_two gV (Rs2.out.below bV) (Rc2.out.below bV)) (by simp))
  obtain ⟨⟨ps0, ps1, ps2⟩, _, _⟩ := blk3 Gs2.out
  obtain ⟨⟨pc0, pc1, pc2⟩, _, _⟩ := blk3 Gc2.out
  clear gV
  go_wp2_with fail
  try rw [eU2]
  try rw [eV3]
  try clear eU2
  clear eV3
  refine AD3.out.mono ?_
  rintro e y3 ⟨v, Ep, rfl, hg, hb⟩
  have hbV := below_of bV hb
  obtain ⟨Xp, Dp, hf, hX, hD, hC⟩ := out_mul hg
  have HCp := Lib.hid hC
  obtain ⟨m6, a6, k6, c6, s6, t6, u6, rfl⟩ := frv_shape hf
  obtain ⟨w3, eU3, gU, bU, -⟩ := alloc1 y3 (Obj.cells #[.bool m6, .slice a6 k6 c6, .slice s6 t6 u6] 41)
  have hbU := below_of hbV bU
  clear ps0 ps1 ps2 pc0 pc1 pc2
  have Ga3 := Lib.hid (blk_below' hbU Ga2.out); have Ra3 := Lib.hid (Ra2.out.below hbU)
  have Gb3 := Lib.hid (blk_below' hbU Gb2.out); have Rb3 := Lib.hid (Rb2.out.below hbU)
  have Gc3 := Lib.hid (blk_below' hbU Gc2.out); have Rc3 := Lib.hid (Rc2.out.below hbU)
  have Gs3 := Lib.hid (blk_below' hbU Gs2.out); have Rs3 := Lib.hid (Rs2.out.below hbU)
  have Gt3 := Lib.hid (blk_below' hbU Gt2.out); have Rt3 := Lib.hid (Rt2.out.below hbU)
  have B3 := Lib.hid (below_of B2.out hbU)
  have Fs3 := Lib.hid (Fs2.out.below hbU)
  have Ft3 := Lib.hid (Ft2.out.below hbU)
  clear Fs2 Ft2
  clear Ga2 Ra2 Gb2 Rb2 Gc2 Rc2 Gs2 Rs2 Gt2 Rt2 B2
  have Gp3 : Hid (w3.heap[y3.heap.size]? = _) := Lib.hid gU
  have Fp3 := Lib.hid (hf.below bU)
  have Rp3 := Lib.hid ((fr_rat hf hX hD).below bU)
  clear gU hf hg hb hC hX hD hbV hbU bU bV AD3
  obtain ⟨V4, eV4, gV, bV, -⟩ := alloc1 w3 (Obj.cells #[.bool m1, .slice a1 k1 c1, .slice s1 t1 u1, .bool m3, .slice a3 k3 c3, .slice s3 t3 u3] 41)
  have AD4 := Lib.hid (rmul_any3 _ _ V4 (ral_two gV (Ra3.out.below bV) (Rc3.out.below bV)) (by simp))
  obtain ⟨⟨pa0, pa1, pa2⟩, _, _⟩ := blk3 Ga3.out
  obtain ⟨⟨pc0, pc1, pc2⟩, _, _⟩ := blk3 Gc3.out
  clear gV
  go_wp2_with fail
  try rw [eU3]
  try rw [eV4]
  try clear eU3
  clear eV4
  refine AD4.out.mono ?_
  rintro e y4 ⟨v, Ex, rfl, hg, hb⟩
  have hbV := below_of bV hb
  obtain ⟨Xx, Dx, hf, hX, hD, hC⟩ := out_mul hg
  have HCx := Lib.hid hC
  obtain ⟨m7, a7, k7, c7, s7, t7, u7, rfl⟩ := frv_shape hf
  obtain ⟨w4, eU4, gU, bU, -⟩ := alloc1 y4 (Obj.cells #[.bool m7, .slice a7 k7 c7, .slice s7 t7 u7] 41)
  have hbU := below_of hbV bU
  clear pa0 pa1 pa2 pc0 pc1 pc2
  have Ga4 := Lib.hid (blk_below' hbU Ga3.out); have Ra4 := Lib.hid (Ra3.out.below hbU)
  have Gb4 := Lib.hid (blk_below' hbU Gb3.out); have Rb4 := Lib.hid (Rb3.out.below hbU)
  have Gc4 := Lib.hid (blk_below' hbU Gc3.out); have Rc4 := Lib.hid (Rc3.out.below hbU)
  have Gs4 := Lib.hid (blk_below' hbU Gs3.out); have Rs4 := Lib.hid (Rs3.out.below hbU)
  have Gt4 := Lib.hid (blk_below' hbU Gt3.out); have Rt4 := Lib.hid (Rt3.out.below hbU)
  have Gp4 := Lib.hid (blk_below' hbU Gp3.out); have Rp4 := Lib.hid (Rp3.out.below hbU)
  have B4 := Lib.hid (below_of B3.out hbU)
  have Fs4 := Lib.hid (Fs3.out.below hbU)
  have Ft4 := Lib.hid (Ft3.out.below hbU)
  have Fp4 := Lib.hid (Fp3.out.below hbU)
  clear Fs3 Ft3 Fp3
  clear Ga3 Ra3 Gb3 Rb3 Gc3 Rc3 Gs3 Rs3 Gt3 Rt3 Gp3 Rp3 B3
  have Gx4 : Hid (w4.heap[y4.heap.size]? = _) := Lib.hid gU
  have Fx4 := Lib.hid (hf.below bU)
  have Rx4 := Lib.hid ((fr_rat hf hX hD).below bU)
  clear gU hf hg hb hC hX hD hbV hbU bU bV AD4
  obtain ⟨V5, eV5, gV, bV, -⟩ := alloc1 w4 (Obj.cells #[.bool m3, .slice a3 k3 c3, .slice s3 t3 u3, .bool m2, .slice a2 k2 c2, .slice s2 t2 u2] 41)
  have AD5 := Lib.hid (rmul_any3 _ _ V5 (ral_two gV (Rc4.out.below bV) (Rb4.out.below bV)) (by simp))
  obtain ⟨⟨pc0, pc1, pc2⟩, _, _⟩ := blk3 Gc4.out
  obtain ⟨⟨pb0, pb1, pb2⟩, _, _⟩ := blk3 Gb4.out
  clear gV
  go_wp2_with fail
  try rw [eU4]
  try rw [eV5]
  try clear eU4
  clear eV5
  refine AD5.out.mono ?_
  rintro e y5 ⟨v, Ey, rfl, hg, hb⟩
  have hbV := below_of bV hb
  obtain ⟨Xy, Dy, hf, hX, hD, hC⟩ := out_mul hg
  have HCy := Lib.hid hC
  obtain ⟨m8, a8, k8, c8, s8, t8, u8, rfl⟩ := frv_shape hf
  obtain ⟨w5, eU5, gU, bU, -⟩ := alloc1 y5 (Obj.cells #[.bool m8, .slice a8 k8 c8, .slice s8 t8 u8] 41)
  have hbU := below_of hbV bU
  clear pc0 pc1 pc2 pb0 pb1 pb2
  have Ga5 := Lib.hid (blk_below' hbU Ga4.out); have Ra5 := Lib.hid (Ra4.out.below hbU)
  have Gb5 := Lib.hid (blk_below' hbU Gb4.out); have Rb5 := Lib.hid (Rb4.out.below hbU)
  have Gc5 := Lib.hid (blk_below' hbU Gc4.out); have Rc5 := Lib.hid (Rc4.out.below hbU)
  have Gs5 := Lib.hid (blk_below' hbU Gs4.out); have Rs5 := Lib.hid (Rs4.out.below hbU)
  have Gt5 := Lib.hid (blk_below' hbU Gt4.out); have Rt5 := Lib.hid (Rt4.out.below hbU)
  have Gp5 := Lib.hid (blk_below' hbU Gp4.out); have Rp5 := Lib.hid (Rp4.out.below hbU)
  have Gx5 := Lib.hid (blk_below' hbU Gx4.out); have Rx5 := Lib.hid (Rx4.out.below hbU)
  have B5 := Lib.hid (below_of B4.out hbU)
  have Fs5 := Lib.hid (Fs4.out.below hbU)
  have Ft5 := Lib.hid (Ft4.out.below hbU)
  have Fp5 := Lib.hid (Fp4.out.below hbU)
  have Fx5 := Lib.hid (Fx4.out.below hbU)
  clear Fs4 Ft4 Fp4 Fx4
  clear Ga4 Ra4 Gb4 Rb4 Gc4 Rc4 Gs4 Rs4 Gt4 Rt4 Gp4 Rp4 Gx4 Rx4 B4
  have Gy5 : Hid (w5.heap[y5.heap.size]? = _) := Lib.hid gU
  have Fy5 := Lib.hid (hf.below bU)
  have Ry5 := Lib.hid ((fr_rat hf hX hD).below bU)
  clear gU hf hg hb hC hX hD hbV hbU bU bV AD5
  obtain ⟨V6, eV6, gV, bV, -⟩ := alloc1 w5 (Obj.cells #[.bool m7, .slice a7 k7 c7, .slice s7 t7 u7, .bool m8, .slice a8 k8 c8, .slice s8 t8 u8] 41)
  have AD6 := Lib.hid (radd_any3 _ _ V6 (ral_two gV (Rx5.out.below bV) (Ry5.out.below bV)) (by simp))
  obtain ⟨⟨px0, px1, px2⟩, _, _⟩ := blk3 Gx5.out
  obtain ⟨⟨py0, py1, py2⟩, _, _⟩ := blk3 Gy5.out
  clear gV
  go_wp2_with fail
  try rw [eU5]
  try rw [eV6]
  try clear eU5
  clear eV6
  refine AD6.out.mono ?_
  rintro e y6 ⟨v, Ez, rfl, hg, hb⟩
  have hbV := below_of bV hb
  obtain ⟨Xz, Dz, hf, hX, hD, hC⟩ := out_add hg
  have HCz := Lib.hid hC
  obtain ⟨m9, a9, k9, c9, s9, t9, u9, rfl⟩ := frv_shape hf
  obtain ⟨w6, eU6, gU, bU, -⟩ := alloc1 y6 (Obj.cells #[.bool m9, .slice a9 k9 c9, .slice s9 t9 u9] 41)
  have hbU := below_of hbV bU
  clear px0 px1 px2 py0 py1 py2
  have Ga6 := Lib.hid (blk_below' hbU Ga5.out); have Ra6 := Lib.hid (Ra5.out.below hbU)
  have Gb6 := Lib.hid (blk_below' hbU Gb5.out); have Rb6 := Lib.hid (Rb5.out.below hbU)
  have Gc6 := Lib.hid (blk_below' hbU Gc5.out); have Rc6 := Lib.hid (Rc5.out.below hbU)
  have Gs6 := Lib.hid (blk_below' hbU Gs5.out); have Rs6 := Lib.hid (Rs5.out.below hbU)
  have Gt6 := Lib.hid (blk_below' hbU Gt5.out); have Rt6 := Lib.hid (Rt5.out.below hbU)
  have Gp6 := Lib.hid (blk_below' hbU Gp5.out); have Rp6 := Lib.hid (Rp5.out.below hbU)
  have Gx6 := Lib.hid (blk_below' hbU Gx5.out); have Rx6 := Lib.hid (Rx5.out.below hbU)
  have Gy6 := Lib.hid (blk_below' hbU Gy5.out); have Ry6 := Lib.hid (Ry5.out.below hbU)
  have B6 := Lib.hid (below_of B5.out hbU)
  have Fs6 := Lib.hid (Fs5.out.below hbU)
  have Ft6 := Lib.hid (Ft5.out.below hbU)
  have Fp6 := Lib.hid (Fp5.out.below hbU)
  have Fx6 := Lib.hid (Fx5.out.below hbU)
  have Fy6 := Lib.hid (Fy5.out.below hbU)
  clear Fs5 Ft5 Fp5 Fx5 Fy5
  clear Ga5 Ra5 Gb5 Rb5 Gc5 Rc5 Gs5 Rs5 Gt5 Rt5 Gp5 Rp5 Gx5 Rx5 Gy5 Ry5 B5
  have Gz6 : Hid (w6.heap[y6.heap.size]? = _) := Lib.hid gU
  have Fz6 := Lib.hid (hf.below bU)
  have Rz6 := Lib.hid ((fr_rat hf hX hD).below bU)
  clear gU hf hg hb hC hX hD hbV hbU bU bV AD6
  have HT := op_turn (Int.add_comm _ _) (Nat.mul_comm _ _) HCs.out HCt.out
  obtain ⟨rfl, rfl, rfl⟩ := HT
  have AL := Lib.hid (alive3_any w6 (HZ.out.below B6.out))
  go_wp2_with fail
  try rw [eU6]
  try clear eU6
  refine AL.out.mono ?_
  rintro e w7 ⟨rfl, hb7⟩
  have SM1 := Lib.hid (rsame3_any _ _ _ _ w7 (Fs6.out.below hb7) (Ft6.out.below hb7))
  obtain ⟨⟨q0, q1, q2⟩, _, _⟩ := blk3 (blk_below' hb7 Gs6.out)
  obtain ⟨⟨r0, r1, r2⟩, _, _⟩ := blk3 (blk_below' hb7 Gt6.out)
  have B7 := Lib.hid (below_of B6.out hb7)
  have HB7 := Lib.hid hb7
  clear hb7
  go_wp2_with fail
  refine SM1.out.mono ?_
  rintro e w8 ⟨rfl, hb8⟩
  have B8 := Lib.hid (below_of B7.out hb8)
  have HB8 := Lib.hid (below_of HB7.out hb8)
  clear hb8 q0 q1 q2 r0 r1 r2
  have Cs := op_err HCs.out; have Cp := op_err HCp.out; have Cx := op_err HCx.out; have Cy := op_err HCy.out; have Cz := op_err HCz.out
  rcases Cs with ⟨rfl, _⟩ | rfl | ⟨rfl, g1, g2, Cs⟩
  · clear HCs HCp HCx HCy HCz HCt; (try clear Cs); (try clear Cp); (try clear Cx); (try clear Cy); (try clear Cz)
    go_wp2
    go_ret
    exact ⟨rfl, B8.out⟩
  · clear HCs HCp HCx HCy HCz HCt; (try clear Cs); (try clear Cp); (try clear Cx); (try clear Cy); (try clear Cz)
    go_wp2
    go_ret
    exact ⟨rfl, B8.out⟩
  rcases Cp with ⟨rfl, _⟩ | rfl | ⟨rfl, _, g3, Cp⟩
  · clear HCs HCp HCx HCy HCz HCt; (try clear Cs); (try clear Cp); (try clear Cx); (try clear Cy); (try clear Cz)
    go_wp2
    go_ret
    exact ⟨rfl, B8.out⟩
  · clear HCs HCp HCx HCy HCz HCt; (try clear Cs); (try clear Cp); (try clear Cx); (try clear Cy); (try clear Cz)
    go_wp2
    go_ret
    exact ⟨rfl, B8.out⟩
  rcases Cx with ⟨rfl, _⟩ | rfl | ⟨rfl, _, _, Cx⟩
  · exfalso; omega
  · clear HCs HCp HCx HCy HCz HCt; (try clear Cs); (try clear Cp); (try clear Cx); (try clear Cy); (try clear Cz)
    go_wp2
    go_ret
    exact ⟨rfl, B8.out⟩
  rcases Cy with ⟨rfl, _⟩ | rfl | ⟨rfl, _, _, Cy⟩
  · exfalso; omega
  · clear HCs HCp HCx HCy HCz HCt; (try clear Cs); (try clear Cp); (try clear Cx); (try clear Cy); (try clear Cz)
    go_wp2
    go_ret
    exact ⟨rfl, B8.out⟩
  obtain ⟨hSD, hS, hSl, hS1, hS2⟩ := Cs (Nat.mul_pos g1 g2)
  obtain ⟨hXD, hX, _, _, _⟩ := Cx (Nat.mul_pos g1 g3)
  obtain ⟨hYD, hY, _, _, _⟩ := Cy (Nat.mul_pos g3 g2)
  rcases Cz with ⟨rfl, _⟩ | rfl | ⟨rfl, _, _, Cz⟩
  · exfalso; omega
  · clear Cp HCs HCp HCx HCy HCz HCt hS hSl hS1 hS2 hX hY
    go_wp2
    go_ret
    exact ⟨rfl, B8.out⟩
  obtain ⟨hPD, hP, hPl, hP1, hP2⟩ := Cp (Nat.mul_pos hSD g3)
  obtain ⟨hZD, hZ, hZl, hZ1, hZ2⟩ := Cz (Nat.mul_pos hXD hYD)
  obtain ⟨hpz1, hpz2⟩ := laws_math g1 g2 g3 hSD hXD hYD hS hX hY ⟨hP1, hP2⟩ ⟨hZ1, hZ2⟩
  have HS := Lib.hid hS
  have HPOS : Hid (0 < d1 ∧ 0 < d2 ∧ 0 < Ds) := Lib.hid ⟨g1, g2, hSD⟩
  have HSL := Lib.hid hSl
  have HDL : Hid (¬ longQ (x1, d1)) := Lib.hid (by
    rcases HCs.out with ⟨_, h, _⟩ | ⟨_, _, _, h, _⟩ | ⟨_, _, h, _⟩
    · cases h
    · cases h
    · exact h)
  have Rs8 := Lib.hid (Rs6.out.below HB8.out); have Rb8 := Lib.hid (Rb6.out.below HB8.out); have Ra8 := Lib.hid (Ra6.out.below HB8.out)
  have Gs8 := Lib.hid (blk_below' HB8.out Gs6.out); have Gb8 := Lib.hid (blk_below' HB8.out Gb6.out); have Ga8 := Lib.hid (blk_below' HB8.out Ga6.out); have Gp8 := Lib.hid (blk_below' HB8.out Gp6.out); have Gz8 := Lib.hid (blk_below' HB8.out Gz6.out)
  have Fp8 := Lib.hid (Fp6.out.below HB8.out); have Fz8 := Lib.hid (Fz6.out.below HB8.out)
  clear g1 g2 g3 hSD hS hSl hS1 hS2 hXD hX hYD hY hPD hP hPl hP1 hP2 hZD hZ hZl hZ1 hZ2 HCs HCp HCx HCy HCz HCt
  subst hpz1 hpz2
  have SU := Lib.hid (rsub_any3 _ _ _ _ _ _ w8 Rs8.out Rb8.out)
  obtain ⟨⟨q0, q1, q2⟩, _, _⟩ := blk3 Gs8.out
  obtain ⟨⟨r0, r1, r2⟩, _, _⟩ := blk3 Gb8.out
  go_wp2_with fail
  refine SU.out.mono ?_
  rintro e w9 ⟨v, k, rfl, hg, hb⟩
  obtain ⟨DN, DD, hf, hX, hD, hC⟩ := out_add hg
  have HC := Lib.hid hC
  obtain ⟨m9, a9, k9, c9, s9, t9, u9, rfl⟩ := frv_shape hf
  obtain ⟨V, eV, gV, bV, -⟩ := alloc1 w9 (Obj.cells #[.bool m9, .slice a9 k9 c9, .slice s9 t9 u9] 41)
  have bb := below_of hb bV
  have CM := Lib.hid (rcmp_any _ _ _ _ _ _ V ((fr_rat hf hX hD).below bV) (Ra8.out.below bb))
  have GaV := Lib.hid (blk_below' bb Ga8.out); have GpV := Lib.hid (blk_below' bb Gp8.out); have GzV := Lib.hid (blk_below' bb Gz8.out)
  have FpV := Lib.hid (Fp8.out.below bb); have FzV := Lib.hid (Fz8.out.below bb)
  have BV := Lib.hid (below_of B8.out bb)
  clear q0 q1 q2 r0 r1 r2
  obtain ⟨⟨q0, q1, q2⟩, _, _⟩ := blk3 gV
  obtain ⟨⟨r0, r1, r2⟩, _, _⟩ := blk3 GaV.out
  clear hf hX hD hC hg hb bb gV bV SU
  go_wp2_with fail
  try rw [eV]
  clear eV
  refine CM.out.mono ?_
  rintro e wA ⟨oo, l, rfl, hc, hb⟩
  have HCM := Lib.hid hc
  have BA := Lib.hid (below_of BV.out hb)
  have SM2 := Lib.hid (rsame3_any _ _ _ _ wA (FpV.out.below hb) (FzV.out.below hb))
  clear q0 q1 q2 r0 r1 r2
  obtain ⟨⟨q0, q1, q2⟩, _, _⟩ := blk3 (blk_below' hb GpV.out)
  obtain ⟨⟨r0, r1, r2⟩, _, _⟩ := blk3 (blk_below' hb GzV.out)
  clear hc hb CM
  by_cases hk : k = 0
  · have hlo : l = 0 ∧ oo = 0 := by
      rcases HC.out with ⟨_, h, _⟩ | ⟨_, _, _, h, _⟩ | ⟨n1, n2, n3, n4, n5, n6, n7, n8⟩
      · omega
      · omega
      have hDD := lowD_pos (n := Xs * d2 + -x2 * Ds) (Nat.mul_pos n1 n2)
      have hle := low_eq (Xs * d2 + -x2 * Ds) (Nat.mul_pos n1 n2)
      rw [← n8] at hDD hle n5
      rw [← n7] at hle n5
      have hbm := back_math HPOS.out.1 HPOS.out.2.1 HPOS.out.2.2 HS.out hle
      rcases HCM.out with ⟨h, _⟩ | ⟨_, _, h, _⟩ | ⟨_, _, _, _, h1, h2⟩
      · have := HPOS.out; omega
      · rcases h with h | h
        · exact absurd h n5
        · exact absurd h HDL.out
      · exact ⟨h2, h1.trans (zcmp_eq hbm)⟩
    obtain ⟨rfl, rfl⟩ := hlo
    subst hk
    clear HC HCM HS HPOS HSL HDL
    go_wp2_with (go_at_call 29; refine SM2.out.mono ?_; rintro e wB ⟨rfl, hb⟩; have BB := Lib.hid (below_of BA.out hb); clear hb)
    go_ret
    exact ⟨rfl, BB.out⟩
  · have ek : (k != 0) = true := bne_iff_ne.2 hk
    clear HC HCM HS HPOS HSL HDL hk
    go_wp2_with (go_at_call 29; refine SM2.out.mono ?_; rintro e wB ⟨rfl, hb⟩; have BB := Lib.hid (below_of BA.out hb); clear hb)
    go_ret
    exact ⟨rfl, BB.out⟩
end Go.Proofs.YtkbfgbkhhfligaaGreatDoor
