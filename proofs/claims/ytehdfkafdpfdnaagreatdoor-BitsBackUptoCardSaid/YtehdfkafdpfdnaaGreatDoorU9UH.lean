/- BitsBack: the law's own walk (genback9.py). -/
import Derived.Test.YtehdfkafdpfdnaaGreatDoorUNU2
import Derived.Test.YtehdfkafdpfdnaaGreatDoorUN5
import Derived.Test.YtehdfkafdpfdnaaGreatDoorUN7
import Derived.Test.YtehdfkafdpfdnaaGreatDoorU9M
import Derived.Test.YtehdfkafdpfdnaaGreatDoorU9UC
set_option linter.unusedVariables false
set_option linter.unusedSimpArgs false
namespace Go.Proofs.YtehdfkafdpfdnaaGreatDoor
open Go.RowKit Mth

theorem vec_back {wd m : Nat} (hm : m < 2 ^ wd) : vecN wd (sgV wd m) = m := by
  refine (vec_of hm ?_).symm
  unfold sgV
  split
  · rw [Int.sub_emod, Int.emod_self, Int.sub_zero, Int.emod_emod]
  · rfl
set_option maxHeartbeats 8000000 in
set_option maxRecDepth 100000 in
theorem back9_bad (v : Value) (x : Int) (xs : List Nat) (w : World) (h : BvA w v x xs) (hr : rightF x (val B64 xs) = false) : Calls Tryz.prog 4 #[v] w fun e w' => e = .returned (.bool true) ∧ Below w.heap.size w w' := by
  have RB : Hid (∀ w1, Below w.heap.size w w1 → Calls Tryz.prog 8 #[v] w1 fun e w' => e = .returned (.bool false) ∧ Below w1.heap.size w1 w') := Lib.hid (fun w1 hw => by rw [← hr]; exact (h.below hw).right)
  obtain ⟨u, rfl, hs, hl, -⟩ := h
  obtain ⟨ao, cap, hu⟩ := hs.shape
  subst hu
  obtain ⟨W, eW, gW, bW, hWs⟩ := alloc1n w (Obj.cells #[.int .i64 x, .slice ao xs.length cap] 25)
  have P1 := Lib.hid (text9_bad x 2 (.inl rfl) _ xs W (hs.below bW) hl hr)
  have BW := Lib.hid bW; have EW := Lib.hid eW; have GW := Lib.hid gW
  obtain ⟨c0, c1, f0, f1, _⟩ := blk2 gW
  clear hs gW bW eW hl hr
  go_enter Tryz.func4, Tryz.ntmps4
  go_upto_region 1 with fail
  rw [EW.out]
  go_wp2_with fail
  refine P1.out.mono ?_
  rintro e w2 ⟨rfl, hb2⟩
  have B2 := Lib.hid (below_of BW.out hb2)
  obtain ⟨d0, d1, _, _, _⟩ := blk2 (car hb2 GW.out)
  clear hb2 c0 c1 f0 f1
  go_wp2_with fail
  refine (RB.out _ B2.out).mono ?_
  rintro e w3 ⟨rfl, hb3⟩
  have B3 := Lib.hid (below_of B2.out hb3)
  clear hb3 d0 d1
  go_wp2_with fail
  refine (alive9 _).mono ?_
  rintro e w4 ⟨rfl, hb4⟩
  have B4 := Lib.hid (below_of B3.out hb4)
  clear hb4
  go_wp2
  go_ret
  exact ⟨rfl, B4.out⟩
set_option maxHeartbeats 16000000 in
set_option maxRecDepth 100000 in
theorem back9_odd (wd : Nat) (h1 : 1 ≤ wd) (h2 : wd ≤ 4096) (h4 : wd % 4 ≠ 0) (v : Value) (xs : List Nat) (w : World) (hz : TZ w) (h : BvA w v (wd : Int) xs) (hr : rightF (wd : Int) (val B64 xs) = true) (hn : val B64 xs < 2 ^ wd) : Calls Tryz.prog 4 #[v] w fun e w' => e = .returned (.bool true) ∧ Below w.heap.size w w' := by
  have UN : Hid (∀ w1, Below w.heap.size w w1 → Calls Tryz.prog 10 #[v] w1 fun e w' => ResI w1 w' e ((val B64 xs : Nat) : Int) 0) := Lib.hid (fun w1 hw => uns_good v wd xs h1 h2 hn w1 (h.below hw))
  have SI : Hid (∀ w1, Below w.heap.size w w1 → Calls Tryz.prog 11 #[v] w1 fun e w' => ResI w1 w' e (sgV wd (val B64 xs)) 0) := Lib.hid (fun w1 hw => sig_good v wd xs h1 h2 hn w1 (h.below hw))
  obtain ⟨u, rfl, hs, hl, -⟩ := h
  have T2 : Hid (∀ w1, Below w.heap.size w w1 → Calls Tryz.prog 5 #[.agg #[.int .i64 (wd : Int), u], .int .i64 2] w1 fun e w' => ResS w1 w' e (txB 98 (digs 2 wd (val B64 xs))) 0) := Lib.hid (fun w1 hw => text9_b wd h1 h2 u xs w1 (hs.below hw) hl hr hn (hz.below hw))
  have PB : Hid (∀ w1, Calls Tryz.prog 9 #[.string (txB 98 (digs 2 wd (val B64 xs)))] w1 fun e w' => ResN w1 w' e (wd : Int) 0 (val B64 xs)) := Lib.hid (fun w1 => parse_b wd _ h1 h2 hn w1)
  have FY : Hid (∀ va w1, IntV w1 va ((val B64 xs : Nat) : Int) → Calls Tryz.prog 12 #[.int .i64 (wd : Int), va] w1 fun e w' => ResN w1 w' e (wd : Int) 0 (val B64 xs)) := Lib.hid (fun va w1 hv => by
    have hh := from_form (wd : Int) va _ w1 hv
    rwa [(frs wd h1 h2 _ hn).1, (frs wd h1 h2 _ hn).2.1, (frs wd h1 h2 _ hn).2.2] at hh)
  have FZ : Hid (∀ va w1, IntV w1 va (sgV wd (val B64 xs)) → Calls Tryz.prog 12 #[.int .i64 (wd : Int), va] w1 fun e w' => ResN w1 w' e (wd : Int) 0 (val B64 xs)) := Lib.hid (fun va w1 hv => by
    have hh := from_form (wd : Int) va _ w1 hv
    have e : frN (wd : Int) (sgV wd (val B64 xs)) = val B64 xs := by
      unfold frN
      rw [isW_nat h1 h2]
      show vecN wd (sgV wd (val B64 xs)) = _
      exact vec_back hn
    rwa [(frs wd h1 h2 _ hn).1, (frs wd h1 h2 _ hn).2.1, e] at hh)
  have T16 : Hid (∀ w1, Below w.heap.size w w1 → Calls Tryz.prog 5 #[.agg #[.int .i64 (wd : Int), u], .int .i64 16] w1 fun e w' => ResS w1 w' e ⟨#[]⟩ 12) := Lib.hid (fun w1 hw => text9_odd wd h2 h4 u xs w1 (hs.below hw) hl hr)
  have hm : (wd : Int) % 4 = ((wd % 4 : Nat) : Int) := by omega
  have hmd : (((wd % 4 : Nat) : Int) != 0) = true := bne_iff_ne.2 (by omega)
  generalize wd % 4 = r4 at *
  generalize txB 98 (digs 2 wd (val B64 xs)) = S2 at *
  generalize sgV wd (val B64 xs) = sg at *
  generalize val B64 xs = n at *
  have dxx : ((wd : Int) != (wd : Int)) = false := bne_self_eq_false _
  obtain ⟨ao, cap, rfl⟩ := hs.shape
  obtain ⟨W, eW, gW, bW, hWs⟩ := alloc1n w (Obj.cells #[.int .i64 (wd : Int), .slice ao xs.length cap] 25)
  have GY_0 := Lib.hid gW; have B_0 := Lib.hid bW; have EW := Lib.hid eW
  clear hs hl hr hn hz gW bW eW h1 h4
  go_enter Tryz.func4, Tryz.ntmps4
  go_upto_region 1 with fail
  rw [EW.out]
  obtain ⟨e0, f0, -, -, _⟩ := blk2 GY_0.out
  go_wp2_with fail
  refine (T2.out _ B_0.out).mono ?_
  rintro e wt2 ⟨rfl, hb⟩
  clear e0 f0
  have GY_1 := Lib.hid (car hb GY_0.out)
  have B_1 := Lib.hid (below_of B_0.out hb)
  clear GY_0 B_0
  clear hb
  go_wp2_with fail
  refine (PB.out _).mono ?_
  rintro e wxx ⟨axx, kxx, cxx, rfl, hs, hb⟩
  have GY_2 := Lib.hid (car hb GY_1.out)
  have B_2 := Lib.hid (below_of B_1.out hb)
  clear GY_1 B_1
  have Hxx_2 := Lib.hid hs
  clear hs hb
  obtain ⟨Vxx, eVxx, gV, bV, hVxx⟩ := alloc1n wxx (Obj.cells #[.int .i64 (wd : Int), .slice axx kxx cxx] 25)
  have GY_3 := Lib.hid (car bV GY_2.out)
  have Hxx_3 := Lib.hid (Hxx_2.out.below bV)
  have B_3 := Lib.hid (below_of B_2.out bV)
  clear GY_2 Hxx_2 B_2
  have Gxx_3 := Lib.hid gV
  have EVxx := Lib.hid eVxx
  clear gV bV eVxx
  go_upto_region 5 with fail
  try rw [EVxx.out]
  obtain ⟨e0, f0, -, -, _⟩ := blk2 GY_3.out
  go_wp2_with fail
  refine (UN.out _ B_3.out).mono ?_
  rintro e wnn ⟨nnn, ann, knn, cnn, rfl, hs, hb⟩
  clear e0 f0
  have GY_4 := Lib.hid (car hb GY_3.out)
  have Gxx_4 := Lib.hid (car hb Gxx_3.out)
  have Hxx_4 := Lib.hid (Hxx_3.out.below hb)
  have B_4 := Lib.hid (below_of B_3.out hb)
  clear GY_3 Gxx_3 Hxx_3 B_3
  have Hnn_4 := Lib.hid hs
  clear hs hb
  obtain ⟨Vnn, eVnn, gV, bV, hVnn⟩ := alloc1n wnn (Obj.cells #[.bool nnn, .slice ann knn cnn] 37)
  have GY_5 := Lib.hid (car bV GY_4.out)
  have Gxx_5 := Lib.hid (car bV Gxx_4.out)
  have Hxx_5 := Lib.hid (Hxx_4.out.below bV)
  have Hnn_5 := Lib.hid (Hnn_4.out.below bV)
  have B_5 := Lib.hid (below_of B_4.out bV)
  clear GY_4 Gxx_4 Hxx_4 Hnn_4 B_4
  have Gnn_5 := Lib.hid gV
  have EVnn := Lib.hid eVnn
  clear gV bV eVnn
  go_upto_region 6 with fail
  try rw [EVnn.out]
  obtain ⟨e0, f0, -, -, _⟩ := blk2 GY_5.out
  go_wp2_with fail
  refine (SI.out _ B_5.out).mono ?_
  rintro e wmm ⟨nmm, amm, kmm, cmm, rfl, hs, hb⟩
  clear e0 f0
  have GY_6 := Lib.hid (car hb GY_5.out)
  have Gxx_6 := Lib.hid (car hb Gxx_5.out)
  have Gnn_6 := Lib.hid (car hb Gnn_5.out)
  have Hxx_6 := Lib.hid (Hxx_5.out.below hb)
  have Hnn_6 := Lib.hid (Hnn_5.out.below hb)
  have B_6 := Lib.hid (below_of B_5.out hb)
  clear GY_5 Gxx_5 Gnn_5 Hxx_5 Hnn_5 B_5
  have Hmm_6 := Lib.hid hs
  clear hs hb
  obtain ⟨Vmm, eVmm, gV, bV, hVmm⟩ := alloc1n wmm (Obj.cells #[.bool nmm, .slice amm kmm cmm] 37)
  have GY_7 := Lib.hid (car bV GY_6.out)
  have Gxx_7 := Lib.hid (car bV Gxx_6.out)
  have Gnn_7 := Lib.hid (car bV Gnn_6.out)
  have Hxx_7 := Lib.hid (Hxx_6.out.below bV)
  have Hnn_7 := Lib.hid (Hnn_6.out.below bV)
  have Hmm_7 := Lib.hid (Hmm_6.out.below bV)
  have B_7 := Lib.hid (below_of B_6.out bV)
  clear GY_6 Gxx_6 Gnn_6 Hxx_6 Hnn_6 Hmm_6 B_6
  have Gmm_7 := Lib.hid gV
  have EVmm := Lib.hid eVmm
  clear gV bV eVmm
  go_upto_region 7 with fail
  try rw [EVmm.out]
  obtain ⟨e0, f0, -, -, _⟩ := blk2 GY_7.out
  obtain ⟨e1, f1, -, -, _⟩ := blk2 Gnn_7.out
  go_wp2_with fail
  refine (FY.out _ _ Hnn_7.out).mono ?_
  rintro e wyy ⟨ayy, kyy, cyy, rfl, hs, hb⟩
  clear e0 f0 e1 f1
  have GY_8 := Lib.hid (car hb GY_7.out)
  have Gxx_8 := Lib.hid (car hb Gxx_7.out)
  have Gnn_8 := Lib.hid (car hb Gnn_7.out)
  have Gmm_8 := Lib.hid (car hb Gmm_7.out)
  have Hxx_8 := Lib.hid (Hxx_7.out.below hb)
  have Hnn_8 := Lib.hid (Hnn_7.out.below hb)
  have Hmm_8 := Lib.hid (Hmm_7.out.below hb)
  have B_8 := Lib.hid (below_of B_7.out hb)
  clear GY_7 Gxx_7 Gnn_7 Gmm_7 Hxx_7 Hnn_7 Hmm_7 B_7
  have Hyy_8 := Lib.hid hs
  clear hs hb
  obtain ⟨Vyy, eVyy, gV, bV, hVyy⟩ := alloc1n wyy (Obj.cells #[.int .i64 (wd : Int), .slice ayy kyy cyy] 25)
  have GY_9 := Lib.hid (car bV GY_8.out)
  have Gxx_9 := Lib.hid (car bV Gxx_8.out)
  have Gnn_9 := Lib.hid (car bV Gnn_8.out)
  have Gmm_9 := Lib.hid (car bV Gmm_8.out)
  have Hxx_9 := Lib.hid (Hxx_8.out.below bV)
  have Hyy_9 := Lib.hid (Hyy_8.out.below bV)
  have Hnn_9 := Lib.hid (Hnn_8.out.below bV)
  have Hmm_9 := Lib.hid (Hmm_8.out.below bV)
  have B_9 := Lib.hid (below_of B_8.out bV)
  clear GY_8 Gxx_8 Gnn_8 Gmm_8 Hxx_8 Hyy_8 Hnn_8 Hmm_8 B_8
  have Gyy_9 := Lib.hid gV
  have EVyy := Lib.hid eVyy
  clear gV bV eVyy
  go_upto_region 8 with fail
  try rw [EVyy.out]
  obtain ⟨e0, f0, -, -, _⟩ := blk2 GY_9.out
  obtain ⟨e1, f1, -, -, _⟩ := blk2 Gmm_9.out
  go_wp2_with fail
  refine (FZ.out _ _ Hmm_9.out).mono ?_
  rintro e wzz ⟨azz, kzz, czz, rfl, hs, hb⟩
  clear e0 f0 e1 f1
  have GY_10 := Lib.hid (car hb GY_9.out)
  have Gxx_10 := Lib.hid (car hb Gxx_9.out)
  have Gnn_10 := Lib.hid (car hb Gnn_9.out)
  have Gmm_10 := Lib.hid (car hb Gmm_9.out)
  have Gyy_10 := Lib.hid (car hb Gyy_9.out)
  have Hxx_10 := Lib.hid (Hxx_9.out.below hb)
  have Hyy_10 := Lib.hid (Hyy_9.out.below hb)
  have Hnn_10 := Lib.hid (Hnn_9.out.below hb)
  have Hmm_10 := Lib.hid (Hmm_9.out.below hb)
  have B_10 := Lib.hid (below_of B_9.out hb)
  clear GY_9 Gxx_9 Gnn_9 Gmm_9 Gyy_9 Hxx_9 Hyy_9 Hnn_9 Hmm_9 B_9
  have Hzz_10 := Lib.hid hs
  clear hs hb
  obtain ⟨Vzz, eVzz, gV, bV, hVzz⟩ := alloc1n wzz (Obj.cells #[.int .i64 (wd : Int), .slice azz kzz czz] 25)
  have GY_11 := Lib.hid (car bV GY_10.out)
  have Gxx_11 := Lib.hid (car bV Gxx_10.out)
  have Gnn_11 := Lib.hid (car bV Gnn_10.out)
  have Gmm_11 := Lib.hid (car bV Gmm_10.out)
  have Gyy_11 := Lib.hid (car bV Gyy_10.out)
  have Hxx_11 := Lib.hid (Hxx_10.out.below bV)
  have Hyy_11 := Lib.hid (Hyy_10.out.below bV)
  have Hzz_11 := Lib.hid (Hzz_10.out.below bV)
  have Hnn_11 := Lib.hid (Hnn_10.out.below bV)
  have Hmm_11 := Lib.hid (Hmm_10.out.below bV)
  have B_11 := Lib.hid (below_of B_10.out bV)
  clear GY_10 Gxx_10 Gnn_10 Gmm_10 Gyy_10 Hxx_10 Hyy_10 Hzz_10 Hnn_10 Hmm_10 B_10
  have Gzz_11 := Lib.hid gV
  have EVzz := Lib.hid eVzz
  clear gV bV eVzz
  go_upto_region 9 with fail
  try rw [EVzz.out]
  obtain ⟨rGxx0, rGxx1, -, -, _⟩ := blk2 Gxx_11.out
  obtain ⟨rGyy0, rGyy1, -, -, _⟩ := blk2 Gyy_11.out
  obtain ⟨rGzz0, rGzz1, -, -, _⟩ := blk2 Gzz_11.out
  obtain ⟨rGY0, rGY1, -, -, _⟩ := blk2 GY_11.out
  go_wp2_with fail
  refine (sameN Hxx_11.out Hyy_11.out).mono ?_
  rintro e wq1 ⟨rfl, hb⟩
  clear rGxx0 rGxx1 rGyy0 rGyy1 rGzz0 rGzz1 rGY0 rGY1
  have GY_12 := Lib.hid (car hb GY_11.out)
  have Gxx_12 := Lib.hid (car hb Gxx_11.out)
  have Gnn_12 := Lib.hid (car hb Gnn_11.out)
  have Gmm_12 := Lib.hid (car hb Gmm_11.out)
  have Gyy_12 := Lib.hid (car hb Gyy_11.out)
  have Gzz_12 := Lib.hid (car hb Gzz_11.out)
  have Hxx_12 := Lib.hid (Hxx_11.out.below hb)
  have Hyy_12 := Lib.hid (Hyy_11.out.below hb)
  have Hzz_12 := Lib.hid (Hzz_11.out.below hb)
  have Hnn_12 := Lib.hid (Hnn_11.out.below hb)
  have Hmm_12 := Lib.hid (Hmm_11.out.below hb)
  have B_12 := Lib.hid (below_of B_11.out hb)
  clear GY_11 Gxx_11 Gnn_11 Gmm_11 Gyy_11 Gzz_11 Hxx_11 Hyy_11 Hzz_11 Hnn_11 Hmm_11 B_11
  clear hb
  obtain ⟨sGxx0, sGxx1, -, -, _⟩ := blk2 Gxx_12.out
  obtain ⟨sGyy0, sGyy1, -, -, _⟩ := blk2 Gyy_12.out
  obtain ⟨sGzz0, sGzz1, -, -, _⟩ := blk2 Gzz_12.out
  obtain ⟨sGY0, sGY1, -, -, _⟩ := blk2 GY_12.out
  go_wp2_with fail
  refine (sameN Hxx_12.out Hzz_12.out).mono ?_
  rintro e wq2 ⟨rfl, hb⟩
  clear sGxx0 sGxx1 sGyy0 sGyy1 sGzz0 sGzz1 sGY0 sGY1
  have GY_13 := Lib.hid (car hb GY_12.out)
  have Gxx_13 := Lib.hid (car hb Gxx_12.out)
  have Gnn_13 := Lib.hid (car hb Gnn_12.out)
  have Gmm_13 := Lib.hid (car hb Gmm_12.out)
  have Gyy_13 := Lib.hid (car hb Gyy_12.out)
  have Gzz_13 := Lib.hid (car hb Gzz_12.out)
  have Hxx_13 := Lib.hid (Hxx_12.out.below hb)
  have Hyy_13 := Lib.hid (Hyy_12.out.below hb)
  have Hzz_13 := Lib.hid (Hzz_12.out.below hb)
  have Hnn_13 := Lib.hid (Hnn_12.out.below hb)
  have Hmm_13 := Lib.hid (Hmm_12.out.below hb)
  have B_13 := Lib.hid (below_of B_12.out hb)
  clear GY_12 Gxx_12 Gnn_12 Gmm_12 Gyy_12 Gzz_12 Hxx_12 Hyy_12 Hzz_12 Hnn_12 Hmm_12 B_12
  clear hb
  obtain ⟨tGxx0, tGxx1, -, -, _⟩ := blk2 Gxx_13.out
  obtain ⟨tGY0, tGY1, -, -, _⟩ := blk2 GY_13.out
  go_wp2_with fail
  refine (T16.out _ B_13.out).mono ?_
  rintro e w16 ⟨rfl, hb⟩
  have B16 := Lib.hid (below_of B_13.out hb)
  have GY16 := Lib.hid (car hb GY_13.out)
  have Gxx16 := Lib.hid (car hb Gxx_13.out)
  have Hxx16 := Lib.hid (Hxx_13.out.below hb)
  obtain ⟨p0, p1, -, -, _⟩ := blk2 GY16.out
  clear tGxx0 tGxx1 tGY0 tGY1 hb
  go_wp2_with fail
  refine (alive9 _).mono ?_
  rintro e w17 ⟨rfl, hb⟩
  have B17 := Lib.hid (below_of B16.out hb)
  clear hb
  go_wp2
  go_ret
  exact ⟨rfl, B17.out⟩
set_option maxHeartbeats 16000000 in
set_option maxRecDepth 100000 in
theorem back9_even (q : Nat) (h0 : 1 ≤ q) (h2 : 4 * q ≤ 4096) (v : Value) (xs : List Nat) (w : World) (hz : TZ w) (h : BvA w v ((4 * q : Nat) : Int) xs) (hr : rightF ((4 * q : Nat) : Int) (val B64 xs) = true) (hn : val B64 xs < 2 ^ (4 * q)) : Calls Tryz.prog 4 #[v] w fun e w' => e = .returned (.bool true) ∧ Below w.heap.size w w' := by
  have h1 : 1 ≤ 4 * q := by omega
  have UN : Hid (∀ w1, Below w.heap.size w w1 → Calls Tryz.prog 10 #[v] w1 fun e w' => ResI w1 w' e ((val B64 xs : Nat) : Int) 0) := Lib.hid (fun w1 hw => uns_good v (4 * q) xs h1 h2 hn w1 (h.below hw))
  have SI : Hid (∀ w1, Below w.heap.size w w1 → Calls Tryz.prog 11 #[v] w1 fun e w' => ResI w1 w' e (sgV (4 * q) (val B64 xs)) 0) := Lib.hid (fun w1 hw => sig_good v (4 * q) xs h1 h2 hn w1 (h.below hw))
  obtain ⟨u, rfl, hs, hl, -⟩ := h
  have T2 : Hid (∀ w1, Below w.heap.size w w1 → Calls Tryz.prog 5 #[.agg #[.int .i64 ((4 * q : Nat) : Int), u], .int .i64 2] w1 fun e w' => ResS w1 w' e (txB 98 (digs 2 (4 * q) (val B64 xs))) 0) := Lib.hid (fun w1 hw => text9_b (4 * q) h1 h2 u xs w1 (hs.below hw) hl hr hn (hz.below hw))
  have PB : Hid (∀ w1, Calls Tryz.prog 9 #[.string (txB 98 (digs 2 (4 * q) (val B64 xs)))] w1 fun e w' => ResN w1 w' e ((4 * q : Nat) : Int) 0 (val B64 xs)) := Lib.hid (fun w1 => parse_b (4 * q) _ h1 h2 hn w1)
  have FY : Hid (∀ va w1, IntV w1 va ((val B64 xs : Nat) : Int) → Calls Tryz.prog 12 #[.int .i64 ((4 * q : Nat) : Int), va] w1 fun e w' => ResN w1 w' e ((4 * q : Nat) : Int) 0 (val B64 xs)) := Lib.hid (fun va w1 hv => by
    have hh := from_form ((4 * q : Nat) : Int) va _ w1 hv
    rwa [(frs (4 * q) h1 h2 _ hn).1, (frs (4 * q) h1 h2 _ hn).2.1, (frs (4 * q) h1 h2 _ hn).2.2] at hh)
  have FZ : Hid (∀ va w1, IntV w1 va (sgV (4 * q) (val B64 xs)) → Calls Tryz.prog 12 #[.int .i64 ((4 * q : Nat) : Int), va] w1 fun e w' => ResN w1 w' e ((4 * q : Nat) : Int) 0 (val B64 xs)) := Lib.hid (fun va w1 hv => by
    have hh := from_form ((4 * q : Nat) : Int) va _ w1 hv
    have e : frN ((4 * q : Nat) : Int) (sgV (4 * q) (val B64 xs)) = val B64 xs := by
      unfold frN
      rw [isW_nat h1 h2]
      show vecN (4 * q) (sgV (4 * q) (val B64 xs)) = _
      exact vec_back hn
    rwa [(frs (4 * q) h1 h2 _ hn).1, (frs (4 * q) h1 h2 _ hn).2.1, e] at hh)
  have T16 : Hid (∀ w1, Below w.heap.size w w1 → Calls Tryz.prog 5 #[.agg #[.int .i64 ((4 * q : Nat) : Int), u], .int .i64 16] w1 fun e w' => ResS w1 w' e (txB 120 (digs 16 q (val B64 xs))) 0) := Lib.hid (fun w1 hw => text9_x q h0 h2 u xs w1 (hs.below hw) hl hr hn (hz.below hw))
  have PX : Hid (∀ w1, Calls Tryz.prog 9 #[.string (txB 120 (digs 16 q (val B64 xs)))] w1 fun e w' => ResN w1 w' e ((4 * q : Nat) : Int) 0 (val B64 xs)) := Lib.hid (fun w1 => parse_x q _ h0 h2 hn w1)
  have hm : ((4 * q : Nat) : Int) % 4 = 0 := by omega
  generalize txB 120 (digs 16 q (val B64 xs)) = S16 at *
  generalize txB 98 (digs 2 (4 * q) (val B64 xs)) = S2 at *
  generalize sgV (4 * q) (val B64 xs) = sg at *
  generalize val B64 xs = n at *
  have dxx : (((4 * q : Nat) : Int) != ((4 * q : Nat) : Int)) = false := bne_self_eq_false _
  obtain ⟨ao, cap, rfl⟩ := hs.shape
  obtain ⟨W, eW, gW, bW, hWs⟩ := alloc1n w (Obj.cells #[.int .i64 ((4 * q : Nat) : Int), .slice ao xs.length cap] 25)
  generalize hQ : 4 * q = Q at *
  clear hQ
  have GY_0 := Lib.hid gW; have B_0 := Lib.hid bW; have EW := Lib.hid eW
  clear hs hl hr hn hz gW bW eW h1 h0
  go_enter Tryz.func4, Tryz.ntmps4
  go_upto_region 1 with fail
  rw [EW.out]
  obtain ⟨e0, f0, -, -, _⟩ := blk2 GY_0.out
  go_wp2_with fail
  refine (T2.out _ B_0.out).mono ?_
  rintro e wt2 ⟨rfl, hb⟩
  clear e0 f0
  have GY_1 := Lib.hid (car hb GY_0.out)
  have B_1 := Lib.hid (below_of B_0.out hb)
  clear GY_0 B_0
  clear hb
  go_wp2_with fail
  refine (PB.out _).mono ?_
  rintro e wxx ⟨axx, kxx, cxx, rfl, hs, hb⟩
  have GY_2 := Lib.hid (car hb GY_1.out)
  have B_2 := Lib.hid (below_of B_1.out hb)
  clear GY_1 B_1
  have Hxx_2 := Lib.hid hs
  clear hs hb
  obtain ⟨Vxx, eVxx, gV, bV, hVxx⟩ := alloc1n wxx (Obj.cells #[.int .i64 (Q : Int), .slice axx kxx cxx] 25)
  have GY_3 := Lib.hid (car bV GY_2.out)
  have Hxx_3 := Lib.hid (Hxx_2.out.below bV)
  have B_3 := Lib.hid (below_of B_2.out bV)
  clear GY_2 Hxx_2 B_2
  have Gxx_3 := Lib.hid gV
  have EVxx := Lib.hid eVxx
  clear gV bV eVxx
  go_upto_region 5 with fail
  try rw [EVxx.out]
  obtain ⟨e0, f0, -, -, _⟩ := blk2 GY_3.out
  go_wp2_with fail
  refine (UN.out _ B_3.out).mono ?_
  rintro e wnn ⟨nnn, ann, knn, cnn, rfl, hs, hb⟩
  clear e0 f0
  have GY_4 := Lib.hid (car hb GY_3.out)
  have Gxx_4 := Lib.hid (car hb Gxx_3.out)
  have Hxx_4 := Lib.hid (Hxx_3.out.below hb)
  have B_4 := Lib.hid (below_of B_3.out hb)
  clear GY_3 Gxx_3 Hxx_3 B_3
  have Hnn_4 := Lib.hid hs
  clear hs hb
  obtain ⟨Vnn, eVnn, gV, bV, hVnn⟩ := alloc1n wnn (Obj.cells #[.bool nnn, .slice ann knn cnn] 37)
  have GY_5 := Lib.hid (car bV GY_4.out)
  have Gxx_5 := Lib.hid (car bV Gxx_4.out)
  have Hxx_5 := Lib.hid (Hxx_4.out.below bV)
  have Hnn_5 := Lib.hid (Hnn_4.out.below bV)
  have B_5 := Lib.hid (below_of B_4.out bV)
  clear GY_4 Gxx_4 Hxx_4 Hnn_4 B_4
  have Gnn_5 := Lib.hid gV
  have EVnn := Lib.hid eVnn
  clear gV bV eVnn
  go_upto_region 6 with fail
  try rw [EVnn.out]
  obtain ⟨e0, f0, -, -, _⟩ := blk2 GY_5.out
  go_wp2_with fail
  refine (SI.out _ B_5.out).mono ?_
  rintro e wmm ⟨nmm, amm, kmm, cmm, rfl, hs, hb⟩
  clear e0 f0
  have GY_6 := Lib.hid (car hb GY_5.out)
  have Gxx_6 := Lib.hid (car hb Gxx_5.out)
  have Gnn_6 := Lib.hid (car hb Gnn_5.out)
  have Hxx_6 := Lib.hid (Hxx_5.out.below hb)
  have Hnn_6 := Lib.hid (Hnn_5.out.below hb)
  have B_6 := Lib.hid (below_of B_5.out hb)
  clear GY_5 Gxx_5 Gnn_5 Hxx_5 Hnn_5 B_5
  have Hmm_6 := Lib.hid hs
  clear hs hb
  obtain ⟨Vmm, eVmm, gV, bV, hVmm⟩ := alloc1n wmm (Obj.cells #[.bool nmm, .slice amm kmm cmm] 37)
  have GY_7 := Lib.hid (car bV GY_6.out)
  have Gxx_7 := Lib.hid (car bV Gxx_6.out)
  have Gnn_7 := Lib.hid (car bV Gnn_6.out)
  have Hxx_7 := Lib.hid (Hxx_6.out.below bV)
  have Hnn_7 := Lib.hid (Hnn_6.out.below bV)
  have Hmm_7 := Lib.hid (Hmm_6.out.below bV)
  have B_7 := Lib.hid (below_of B_6.out bV)
  clear GY_6 Gxx_6 Gnn_6 Hxx_6 Hnn_6 Hmm_6 B_6
  have Gmm_7 := Lib.hid gV
  have EVmm := Lib.hid eVmm
  clear gV bV eVmm
  go_upto_region 7 with fail
  try rw [EVmm.out]
  obtain ⟨e0, f0, -, -, _⟩ := blk2 GY_7.out
  obtain ⟨e1, f1, -, -, _⟩ := blk2 Gnn_7.out
  go_wp2_with fail
  refine (FY.out _ _ Hnn_7.out).mono ?_
  rintro e wyy ⟨ayy, kyy, cyy, rfl, hs, hb⟩
  clear e0 f0 e1 f1
  have GY_8 := Lib.hid (car hb GY_7.out)
  have Gxx_8 := Lib.hid (car hb Gxx_7.out)
  have Gnn_8 := Lib.hid (car hb Gnn_7.out)
  have Gmm_8 := Lib.hid (car hb Gmm_7.out)
  have Hxx_8 := Lib.hid (Hxx_7.out.below hb)
  have Hnn_8 := Lib.hid (Hnn_7.out.below hb)
  have Hmm_8 := Lib.hid (Hmm_7.out.below hb)
  have B_8 := Lib.hid (below_of B_7.out hb)
  clear GY_7 Gxx_7 Gnn_7 Gmm_7 Hxx_7 Hnn_7 Hmm_7 B_7
  have Hyy_8 := Lib.hid hs
  clear hs hb
  obtain ⟨Vyy, eVyy, gV, bV, hVyy⟩ := alloc1n wyy (Obj.cells #[.int .i64 (Q : Int), .slice ayy kyy cyy] 25)
  have GY_9 := Lib.hid (car bV GY_8.out)
  have Gxx_9 := Lib.hid (car bV Gxx_8.out)
  have Gnn_9 := Lib.hid (car bV Gnn_8.out)
  have Gmm_9 := Lib.hid (car bV Gmm_8.out)
  have Hxx_9 := Lib.hid (Hxx_8.out.below bV)
  have Hyy_9 := Lib.hid (Hyy_8.out.below bV)
  have Hnn_9 := Lib.hid (Hnn_8.out.below bV)
  have Hmm_9 := Lib.hid (Hmm_8.out.below bV)
  have B_9 := Lib.hid (below_of B_8.out bV)
  clear GY_8 Gxx_8 Gnn_8 Gmm_8 Hxx_8 Hyy_8 Hnn_8 Hmm_8 B_8
  have Gyy_9 := Lib.hid gV
  have EVyy := Lib.hid eVyy
  clear gV bV eVyy
  go_upto_region 8 with fail
  try rw [EVyy.out]
  obtain ⟨e0, f0, -, -, _⟩ := blk2 GY_9.out
  obtain ⟨e1, f1, -, -, _⟩ := blk2 Gmm_9.out
  go_wp2_with fail
  refine (FZ.out _ _ Hmm_9.out).mono ?_
  rintro e wzz ⟨azz, kzz, czz, rfl, hs, hb⟩
  clear e0 f0 e1 f1
  have GY_10 := Lib.hid (car hb GY_9.out)
  have Gxx_10 := Lib.hid (car hb Gxx_9.out)
  have Gnn_10 := Lib.hid (car hb Gnn_9.out)
  have Gmm_10 := Lib.hid (car hb Gmm_9.out)
  have Gyy_10 := Lib.hid (car hb Gyy_9.out)
  have Hxx_10 := Lib.hid (Hxx_9.out.below hb)
  have Hyy_10 := Lib.hid (Hyy_9.out.below hb)
  have Hnn_10 := Lib.hid (Hnn_9.out.below hb)
  have Hmm_10 := Lib.hid (Hmm_9.out.below hb)
  have B_10 := Lib.hid (below_of B_9.out hb)
  clear GY_9 Gxx_9 Gnn_9 Gmm_9 Gyy_9 Hxx_9 Hyy_9 Hnn_9 Hmm_9 B_9
  have Hzz_10 := Lib.hid hs
  clear hs hb
  obtain ⟨Vzz, eVzz, gV, bV, hVzz⟩ := alloc1n wzz (Obj.cells #[.int .i64 (Q : Int), .slice azz kzz czz] 25)
  have GY_11 := Lib.hid (car bV GY_10.out)
  have Gxx_11 := Lib.hid (car bV Gxx_10.out)
  have Gnn_11 := Lib.hid (car bV Gnn_10.out)
  have Gmm_11 := Lib.hid (car bV Gmm_10.out)
  have Gyy_11 := Lib.hid (car bV Gyy_10.out)
  have Hxx_11 := Lib.hid (Hxx_10.out.below bV)
  have Hyy_11 := Lib.hid (Hyy_10.out.below bV)
  have Hzz_11 := Lib.hid (Hzz_10.out.below bV)
  have Hnn_11 := Lib.hid (Hnn_10.out.below bV)
  have Hmm_11 := Lib.hid (Hmm_10.out.below bV)
  have B_11 := Lib.hid (below_of B_10.out bV)
  clear GY_10 Gxx_10 Gnn_10 Gmm_10 Gyy_10 Hxx_10 Hyy_10 Hzz_10 Hnn_10 Hmm_10 B_10
  have Gzz_11 := Lib.hid gV
  have EVzz := Lib.hid eVzz
  clear gV bV eVzz
  go_upto_region 9 with fail
  try rw [EVzz.out]
  obtain ⟨rGxx0, rGxx1, -, -, _⟩ := blk2 Gxx_11.out
  obtain ⟨rGyy0, rGyy1, -, -, _⟩ := blk2 Gyy_11.out
  obtain ⟨rGzz0, rGzz1, -, -, _⟩ := blk2 Gzz_11.out
  obtain ⟨rGY0, rGY1, -, -, _⟩ := blk2 GY_11.out
  go_wp2_with fail
  refine (sameN Hxx_11.out Hyy_11.out).mono ?_
  rintro e wq1 ⟨rfl, hb⟩
  clear rGxx0 rGxx1 rGyy0 rGyy1 rGzz0 rGzz1 rGY0 rGY1
  have GY_12 := Lib.hid (car hb GY_11.out)
  have Gxx_12 := Lib.hid (car hb Gxx_11.out)
  have Gnn_12 := Lib.hid (car hb Gnn_11.out)
  have Gmm_12 := Lib.hid (car hb Gmm_11.out)
  have Gyy_12 := Lib.hid (car hb Gyy_11.out)
  have Gzz_12 := Lib.hid (car hb Gzz_11.out)
  have Hxx_12 := Lib.hid (Hxx_11.out.below hb)
  have Hyy_12 := Lib.hid (Hyy_11.out.below hb)
  have Hzz_12 := Lib.hid (Hzz_11.out.below hb)
  have Hnn_12 := Lib.hid (Hnn_11.out.below hb)
  have Hmm_12 := Lib.hid (Hmm_11.out.below hb)
  have B_12 := Lib.hid (below_of B_11.out hb)
  clear GY_11 Gxx_11 Gnn_11 Gmm_11 Gyy_11 Gzz_11 Hxx_11 Hyy_11 Hzz_11 Hnn_11 Hmm_11 B_11
  clear hb
  obtain ⟨sGxx0, sGxx1, -, -, _⟩ := blk2 Gxx_12.out
  obtain ⟨sGyy0, sGyy1, -, -, _⟩ := blk2 Gyy_12.out
  obtain ⟨sGzz0, sGzz1, -, -, _⟩ := blk2 Gzz_12.out
  obtain ⟨sGY0, sGY1, -, -, _⟩ := blk2 GY_12.out
  go_wp2_with fail
  refine (sameN Hxx_12.out Hzz_12.out).mono ?_
  rintro e wq2 ⟨rfl, hb⟩
  clear sGxx0 sGxx1 sGyy0 sGyy1 sGzz0 sGzz1 sGY0 sGY1
  have GY_13 := Lib.hid (car hb GY_12.out)
  have Gxx_13 := Lib.hid (car hb Gxx_12.out)
  have Gnn_13 := Lib.hid (car hb Gnn_12.out)
  have Gmm_13 := Lib.hid (car hb Gmm_12.out)
  have Gyy_13 := Lib.hid (car hb Gyy_12.out)
  have Gzz_13 := Lib.hid (car hb Gzz_12.out)
  have Hxx_13 := Lib.hid (Hxx_12.out.below hb)
  have Hyy_13 := Lib.hid (Hyy_12.out.below hb)
  have Hzz_13 := Lib.hid (Hzz_12.out.below hb)
  have Hnn_13 := Lib.hid (Hnn_12.out.below hb)
  have Hmm_13 := Lib.hid (Hmm_12.out.below hb)
  have B_13 := Lib.hid (below_of B_12.out hb)
  clear GY_12 Gxx_12 Gnn_12 Gmm_12 Gyy_12 Gzz_12 Hxx_12 Hyy_12 Hzz_12 Hnn_12 Hmm_12 B_12
  clear hb
  obtain ⟨tGxx0, tGxx1, -, -, _⟩ := blk2 Gxx_13.out
  obtain ⟨tGY0, tGY1, -, -, _⟩ := blk2 GY_13.out
  go_wp2_with fail
  refine (T16.out _ B_13.out).mono ?_
  rintro e w16 ⟨rfl, hb⟩
  have B16 := Lib.hid (below_of B_13.out hb)
  have GY16 := Lib.hid (car hb GY_13.out)
  have Gxx16 := Lib.hid (car hb Gxx_13.out)
  have Hxx16 := Lib.hid (Hxx_13.out.below hb)
  obtain ⟨p0, p1, -, -, _⟩ := blk2 GY16.out
  clear tGxx0 tGxx1 tGY0 tGY1 hb
  go_wp2_with fail
  refine (PX.out _).mono ?_
  rintro e w17 ⟨a17, k17, c17, rfl, hs, hb⟩
  obtain ⟨V17, eV17, gV, bV, hV17⟩ := alloc1n w17 (Obj.cells #[.int .i64 (Q : Int), .slice a17 k17 c17] 25)
  have B17 := Lib.hid (below_of (below_of B16.out hb) bV)
  have Gxx17 := Lib.hid (car bV (car hb Gxx16.out))
  have Hxx17 := Lib.hid ((Hxx16.out.below hb).below bV)
  have Hww17 := Lib.hid (hs.below bV)
  have Gww17 := Lib.hid gV
  have EV17 := Lib.hid eV17
  clear p0 p1 hs hb gV bV eV17
  go_upto_region 15 with fail
  try rw [EV17.out]
  obtain ⟨p0, p1, -, -, _⟩ := blk2 Gww17.out
  obtain ⟨q0, q1, -, -, _⟩ := blk2 Gxx17.out
  go_wp2_with fail
  refine (sameN Hww17.out Hxx17.out).mono ?_
  rintro e w18 ⟨rfl, hb⟩
  have B18 := Lib.hid (below_of B17.out hb)
  clear hb p0 p1 q0 q1
  go_wp2_with fail
  refine (alive9 _).mono ?_
  rintro e w19 ⟨rfl, hb⟩
  have B19 := Lib.hid (below_of B18.out hb)
  clear hb
  go_wp2
  go_ret
  exact ⟨rfl, B19.out⟩
theorem back9_walk (v : Value) (x : Int) (xs : List Nat) (w : World) (hz : TZ w) (h : BvA w v x xs) : Calls Tryz.prog 4 #[v] w fun e w' => e = .returned (.bool true) ∧ Below w.heap.size w w' := by
  cases hr : rightF x (val B64 xs)
  · exact back9_bad v x xs w h hr
  · obtain ⟨wd, rfl, h1, h2, hlt⟩ := right_nat hr
    by_cases h4 : wd % 4 = 0
    · obtain ⟨q, rfl⟩ : ∃ q, wd = 4 * q := ⟨wd / 4, by omega⟩
      exact back9_even q (by omega) h2 v xs w hz h hr hlt
    · exact back9_odd wd h1 h2 h4 v xs w hz h hr hlt
end Go.Proofs.YtehdfkafdpfdnaaGreatDoor
