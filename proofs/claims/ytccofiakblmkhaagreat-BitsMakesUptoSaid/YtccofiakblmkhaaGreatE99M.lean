/- BitsMakes: the law's own walk (genmakes9.py). -/
import Derived.Test.YtccofiakblmkhaaGreatE9NB9
import Derived.Test.YtccofiakblmkhaaGreatE9N5
set_option linter.unusedVariables false
set_option linter.unusedSimpArgs false
namespace Go.Proofs.YtccofiakblmkhaaGreat
open Go.RowKit Mth

theorem sameN {w : World} {x : Int} {k c k' c' n : Nat} {a a' : Option Addr} (ha : SlN w a k c n) (hb : SlN w a' k' c' n) :
    Calls Tryz.prog 20 #[.agg #[.int .i64 x, .slice a k c], .agg #[.int .i64 x, .slice a' k' c']] w fun e w' => e = .returned (.bool true) ∧ Below w.heap.size w w' := by
  obtain ⟨xs, rfl, s, l, t, e⟩ := ha
  obtain ⟨ys, rfl, s', l', t', e'⟩ := hb
  obtain rfl : xs = ys := top_uniq B64_pos l l' t t' (by rw [e, e'])
  exact same9_yes _ _ x xs w ⟨_, rfl, s⟩ ⟨_, rfl, s'⟩
theorem cmp0 {w : World} {va vb : Value} {z : Int} (ha : IntV w va z) (hb : IntV w vb z) : Calls Tryz.prog 21 #[va, vb] w fun e w' => e = .returned (.int .i64 0) ∧ Below w.heap.size w w' := cmpF va vb z z 0 w ha hb (zcmp_eq rfl)
set_option maxHeartbeats 16000000 in
set_option maxRecDepth 100000 in
theorem makes_core (x : Int) (n : Nat) (hn : n < B64) (v2 v3 : Value) (z y : Int) (ys : List Nat) (rb : Bool) (w : World) (s2 : IntV w v2 z) (s3 : BvA w v3 y ys) (hrb : rightF y (val B64 ys) = rb) :
    Calls Tryz.prog 3 #[.int .i64 x, .int .u64 (n : Int), v2, v3] w fun e w' => e = .returned (.bool true) ∧ Below w.heap.size w w' := by
  have C1 : Hid (∀ w1, Calls Tryz.prog 12 #[.int .i64 x, .int .u64 (n : Int)] w1 fun e w' => ResN w1 w' e (frX x) (frE x) (frN x (n : Int))) := Lib.hid (of_form x n hn)
  have C2 : Hid (∀ w1, Calls Tryz.prog 13 #[.int .i64 x, .int .u64 (n : Int)] w1 fun e w' => ResN w1 w' e (frX x) (frE x) (frN x (n : Int))) := Lib.hid (rof_form x n hn)
  have C3 : Hid (∀ w1, Below w.heap.size w w1 → Calls Tryz.prog 14 #[.int .i64 x, v2] w1 fun e w' => ResN w1 w' e (frX x) (frE x) (frN x z)) := Lib.hid (fun w1 hw => from_form x v2 z w1 (s2.below hw))
  have C4 : Hid (∀ w1, Below w.heap.size w w1 → Calls Tryz.prog 15 #[.int .i64 x, v2] w1 fun e w' => ResN w1 w' e (frX x) (frE x) (frN x z)) := Lib.hid (fun w1 hw => rfrom_form x v2 z w1 (s2.below hw))
  have C5 : Hid (∀ w1, Below w.heap.size w w1 → Calls Tryz.prog 16 #[v3] w1 fun e w' => ResI w1 w' e (usZ y (val B64 ys)) (rgE y (val B64 ys))) := Lib.hid (fun w1 hw => uns_form v3 y ys w1 (s3.below hw))
  have C6 : Hid (∀ w1, Below w.heap.size w w1 → Calls Tryz.prog 17 #[v3] w1 fun e w' => ResI w1 w' e (usZ y (val B64 ys)) (rgE y (val B64 ys))) := Lib.hid (fun w1 hw => runs_form v3 y ys w1 (s3.below hw))
  have C7 : Hid (∀ w1, Below w.heap.size w w1 → Calls Tryz.prog 18 #[v3] w1 fun e w' => ResI w1 w' e (sgZ y (val B64 ys)) (rgE y (val B64 ys))) := Lib.hid (fun w1 hw => sig_form v3 y ys w1 (s3.below hw))
  have C8 : Hid (∀ w1, Below w.heap.size w w1 → Calls Tryz.prog 19 #[v3] w1 fun e w' => ResI w1 w' e (sgZ y (val B64 ys)) (rgE y (val B64 ys))) := Lib.hid (fun w1 hw => rsig_form v3 y ys w1 (s3.below hw))
  have R1 : Hid (∀ w1, Below w.heap.size w w1 → Calls Tryz.prog 22 #[v3] w1 fun e w' => e = .returned (.bool rb) ∧ Below w1.heap.size w1 w') := Lib.hid (fun w1 hw => by rw [← hrb]; exact (s3.below hw).right)
  have R2 : Hid (∀ w1, Below w.heap.size w w1 → Calls Tryz.prog 23 #[v3] w1 fun e w' => e = .returned (.bool rb) ∧ Below w1.heap.size w1 w') := Lib.hid (fun w1 hw => by rw [← hrb]; exact (s3.below hw).rright)
  generalize frX x = fx at *
  generalize frE x = fe at *
  generalize frN x (n : Int) = m1 at *
  generalize frN x z = m2 at *
  generalize usZ y (val B64 ys) = z1 at *
  generalize sgZ y (val B64 ys) = z2 at *
  generalize rgE y (val B64 ys) = ge at *
  have dfe : (fe == fe) = true := beq_self_eq_true fe
  have dge : (ge == ge) = true := beq_self_eq_true ge
  have drb : (rb == rb) = true := beq_self_eq_true rb
  clear hrb
  obtain ⟨nz, az, kz, cz, rfl⟩ := s2.shape
  obtain ⟨uy, rfl, sy, -, -⟩ := s3
  obtain ⟨ay, cy, rfl⟩ := sy.shape
  generalize ys.length = ky at *
  obtain ⟨W, eW, g1, g2, bel, hsz⟩ := alloc2 w (Obj.cells #[.bool nz, .slice az kz cz] 26) (Obj.cells #[.int .i64 y, .slice ay ky cy] 28)
  have GZ_0 := Lib.hid g1; have GY_0 := Lib.hid g2; have B_0 := Lib.hid bel
  clear s2 sy g1 g2 bel
  go_enter Tryz.func3, Tryz.ntmps3
  go_wp2_with fail
  try rw [eW]
  refine (C1.out _).mono ?_
  rintro e wcc ⟨acc, kcc, ccc, rfl, hs, hb⟩
  have GZ_1 := Lib.hid (car hb GZ_0.out)
  have GY_1 := Lib.hid (car hb GY_0.out)
  have B_1 := Lib.hid (below_of B_0.out hb)
  clear GZ_0 GY_0 B_0
  have Hcc_1 := Lib.hid hs
  clear hs hb
  obtain ⟨Vcc, eVcc, gV, bV, hVcc⟩ := alloc1n wcc (Obj.cells #[.int .i64 fx, .slice acc kcc ccc] 28)
  have GZ_2 := Lib.hid (car bV GZ_1.out)
  have GY_2 := Lib.hid (car bV GY_1.out)
  have Hcc_2 := Lib.hid (Hcc_1.out.below bV)
  have B_2 := Lib.hid (below_of B_1.out bV)
  clear GZ_1 GY_1 Hcc_1 B_1
  have Gcc_2 := Lib.hid gV
  have EVcc := Lib.hid eVcc
  clear gV bV eVcc
  go_upto_region 2 with fail
  try rw [EVcc.out]
  go_wp2_with fail
  try rw [EVcc.out]
  refine (C2.out _).mono ?_
  rintro e wdd ⟨add, kdd, cdd, rfl, hs, hb⟩
  have GZ_3 := Lib.hid (car hb GZ_2.out)
  have GY_3 := Lib.hid (car hb GY_2.out)
  have Gcc_3 := Lib.hid (car hb Gcc_2.out)
  have Hcc_3 := Lib.hid (Hcc_2.out.below hb)
  have B_3 := Lib.hid (below_of B_2.out hb)
  clear GZ_2 GY_2 Gcc_2 Hcc_2 B_2
  have Hdd_3 := Lib.hid hs
  clear hs hb
  obtain ⟨Vdd, eVdd, gV, bV, hVdd⟩ := alloc1n wdd (Obj.cells #[.int .i64 fx, .slice add kdd cdd] 28)
  have GZ_4 := Lib.hid (car bV GZ_3.out)
  have GY_4 := Lib.hid (car bV GY_3.out)
  have Gcc_4 := Lib.hid (car bV Gcc_3.out)
  have Hcc_4 := Lib.hid (Hcc_3.out.below bV)
  have Hdd_4 := Lib.hid (Hdd_3.out.below bV)
  have B_4 := Lib.hid (below_of B_3.out bV)
  clear GZ_3 GY_3 Gcc_3 Hcc_3 Hdd_3 B_3
  have Gdd_4 := Lib.hid gV
  have EVdd := Lib.hid eVdd
  clear gV bV eVdd
  go_upto_region 3 with fail
  try rw [EVdd.out]
  obtain ⟨e2, f2, -, -, _⟩ := blk2 GZ_4.out
  go_wp2_with fail
  try rw [EVdd.out]
  refine (C3.out _ B_4.out).mono ?_
  rintro e wxx ⟨axx, kxx, cxx, rfl, hs, hb⟩
  clear e2 f2
  have GZ_5 := Lib.hid (car hb GZ_4.out)
  have GY_5 := Lib.hid (car hb GY_4.out)
  have Gcc_5 := Lib.hid (car hb Gcc_4.out)
  have Gdd_5 := Lib.hid (car hb Gdd_4.out)
  have Hcc_5 := Lib.hid (Hcc_4.out.below hb)
  have Hdd_5 := Lib.hid (Hdd_4.out.below hb)
  have B_5 := Lib.hid (below_of B_4.out hb)
  clear GZ_4 GY_4 Gcc_4 Gdd_4 Hcc_4 Hdd_4 B_4
  have Hxx_5 := Lib.hid hs
  clear hs hb
  obtain ⟨Vxx, eVxx, gV, bV, hVxx⟩ := alloc1n wxx (Obj.cells #[.int .i64 fx, .slice axx kxx cxx] 28)
  have GZ_6 := Lib.hid (car bV GZ_5.out)
  have GY_6 := Lib.hid (car bV GY_5.out)
  have Gcc_6 := Lib.hid (car bV Gcc_5.out)
  have Gdd_6 := Lib.hid (car bV Gdd_5.out)
  have Hcc_6 := Lib.hid (Hcc_5.out.below bV)
  have Hdd_6 := Lib.hid (Hdd_5.out.below bV)
  have Hxx_6 := Lib.hid (Hxx_5.out.below bV)
  have B_6 := Lib.hid (below_of B_5.out bV)
  clear GZ_5 GY_5 Gcc_5 Gdd_5 Hcc_5 Hdd_5 Hxx_5 B_5
  have Gxx_6 := Lib.hid gV
  have EVxx := Lib.hid eVxx
  clear gV bV eVxx
  go_upto_region 4 with fail
  try rw [EVxx.out]
  obtain ⟨e3, f3, -, -, _⟩ := blk2 GZ_6.out
  go_wp2_with fail
  try rw [EVxx.out]
  refine (C4.out _ B_6.out).mono ?_
  rintro e wyy ⟨ayy, kyy, cyy, rfl, hs, hb⟩
  clear e3 f3
  have GZ_7 := Lib.hid (car hb GZ_6.out)
  have GY_7 := Lib.hid (car hb GY_6.out)
  have Gcc_7 := Lib.hid (car hb Gcc_6.out)
  have Gdd_7 := Lib.hid (car hb Gdd_6.out)
  have Gxx_7 := Lib.hid (car hb Gxx_6.out)
  have Hcc_7 := Lib.hid (Hcc_6.out.below hb)
  have Hdd_7 := Lib.hid (Hdd_6.out.below hb)
  have Hxx_7 := Lib.hid (Hxx_6.out.below hb)
  have B_7 := Lib.hid (below_of B_6.out hb)
  clear GZ_6 GY_6 Gcc_6 Gdd_6 Gxx_6 Hcc_6 Hdd_6 Hxx_6 B_6
  have Hyy_7 := Lib.hid hs
  clear hs hb
  obtain ⟨Vyy, eVyy, gV, bV, hVyy⟩ := alloc1n wyy (Obj.cells #[.int .i64 fx, .slice ayy kyy cyy] 28)
  have GZ_8 := Lib.hid (car bV GZ_7.out)
  have GY_8 := Lib.hid (car bV GY_7.out)
  have Gcc_8 := Lib.hid (car bV Gcc_7.out)
  have Gdd_8 := Lib.hid (car bV Gdd_7.out)
  have Gxx_8 := Lib.hid (car bV Gxx_7.out)
  have Hcc_8 := Lib.hid (Hcc_7.out.below bV)
  have Hdd_8 := Lib.hid (Hdd_7.out.below bV)
  have Hxx_8 := Lib.hid (Hxx_7.out.below bV)
  have Hyy_8 := Lib.hid (Hyy_7.out.below bV)
  have B_8 := Lib.hid (below_of B_7.out bV)
  clear GZ_7 GY_7 Gcc_7 Gdd_7 Gxx_7 Hcc_7 Hdd_7 Hxx_7 Hyy_7 B_7
  have Gyy_8 := Lib.hid gV
  have EVyy := Lib.hid eVyy
  clear gV bV eVyy
  go_upto_region 5 with fail
  try rw [EVyy.out]
  obtain ⟨e4, f4, -, -, _⟩ := blk2 GY_8.out
  go_wp2_with fail
  try rw [EVyy.out]
  refine (C5.out _ B_8.out).mono ?_
  rintro e wpp ⟨npp, app, kpp, cpp, rfl, hs, hb⟩
  clear e4 f4
  have GZ_9 := Lib.hid (car hb GZ_8.out)
  have GY_9 := Lib.hid (car hb GY_8.out)
  have Gcc_9 := Lib.hid (car hb Gcc_8.out)
  have Gdd_9 := Lib.hid (car hb Gdd_8.out)
  have Gxx_9 := Lib.hid (car hb Gxx_8.out)
  have Gyy_9 := Lib.hid (car hb Gyy_8.out)
  have Hcc_9 := Lib.hid (Hcc_8.out.below hb)
  have Hdd_9 := Lib.hid (Hdd_8.out.below hb)
  have Hxx_9 := Lib.hid (Hxx_8.out.below hb)
  have Hyy_9 := Lib.hid (Hyy_8.out.below hb)
  have B_9 := Lib.hid (below_of B_8.out hb)
  clear GZ_8 GY_8 Gcc_8 Gdd_8 Gxx_8 Gyy_8 Hcc_8 Hdd_8 Hxx_8 Hyy_8 B_8
  have Hpp_9 := Lib.hid hs
  clear hs hb
  obtain ⟨Vpp, eVpp, gV, bV, hVpp⟩ := alloc1n wpp (Obj.cells #[.bool npp, .slice app kpp cpp] 26)
  have GZ_10 := Lib.hid (car bV GZ_9.out)
  have GY_10 := Lib.hid (car bV GY_9.out)
  have Gcc_10 := Lib.hid (car bV Gcc_9.out)
  have Gdd_10 := Lib.hid (car bV Gdd_9.out)
  have Gxx_10 := Lib.hid (car bV Gxx_9.out)
  have Gyy_10 := Lib.hid (car bV Gyy_9.out)
  have Hcc_10 := Lib.hid (Hcc_9.out.below bV)
  have Hdd_10 := Lib.hid (Hdd_9.out.below bV)
  have Hxx_10 := Lib.hid (Hxx_9.out.below bV)
  have Hyy_10 := Lib.hid (Hyy_9.out.below bV)
  have Hpp_10 := Lib.hid (Hpp_9.out.below bV)
  have B_10 := Lib.hid (below_of B_9.out bV)
  clear GZ_9 GY_9 Gcc_9 Gdd_9 Gxx_9 Gyy_9 Hcc_9 Hdd_9 Hxx_9 Hyy_9 Hpp_9 B_9
  have Gpp_10 := Lib.hid gV
  have EVpp := Lib.hid eVpp
  clear gV bV eVpp
  go_upto_region 6 with fail
  try rw [EVpp.out]
  obtain ⟨e5, f5, -, -, _⟩ := blk2 GY_10.out
  go_wp2_with fail
  try rw [EVpp.out]
  refine (C6.out _ B_10.out).mono ?_
  rintro e wqq ⟨nqq, aqq, kqq, cqq, rfl, hs, hb⟩
  clear e5 f5
  have GZ_11 := Lib.hid (car hb GZ_10.out)
  have GY_11 := Lib.hid (car hb GY_10.out)
  have Gcc_11 := Lib.hid (car hb Gcc_10.out)
  have Gdd_11 := Lib.hid (car hb Gdd_10.out)
  have Gxx_11 := Lib.hid (car hb Gxx_10.out)
  have Gyy_11 := Lib.hid (car hb Gyy_10.out)
  have Gpp_11 := Lib.hid (car hb Gpp_10.out)
  have Hcc_11 := Lib.hid (Hcc_10.out.below hb)
  have Hdd_11 := Lib.hid (Hdd_10.out.below hb)
  have Hxx_11 := Lib.hid (Hxx_10.out.below hb)
  have Hyy_11 := Lib.hid (Hyy_10.out.below hb)
  have Hpp_11 := Lib.hid (Hpp_10.out.below hb)
  have B_11 := Lib.hid (below_of B_10.out hb)
  clear GZ_10 GY_10 Gcc_10 Gdd_10 Gxx_10 Gyy_10 Gpp_10 Hcc_10 Hdd_10 Hxx_10 Hyy_10 Hpp_10 B_10
  have Hqq_11 := Lib.hid hs
  clear hs hb
  obtain ⟨Vqq, eVqq, gV, bV, hVqq⟩ := alloc1n wqq (Obj.cells #[.bool nqq, .slice aqq kqq cqq] 26)
  have GZ_12 := Lib.hid (car bV GZ_11.out)
  have GY_12 := Lib.hid (car bV GY_11.out)
  have Gcc_12 := Lib.hid (car bV Gcc_11.out)
  have Gdd_12 := Lib.hid (car bV Gdd_11.out)
  have Gxx_12 := Lib.hid (car bV Gxx_11.out)
  have Gyy_12 := Lib.hid (car bV Gyy_11.out)
  have Gpp_12 := Lib.hid (car bV Gpp_11.out)
  have Hcc_12 := Lib.hid (Hcc_11.out.below bV)
  have Hdd_12 := Lib.hid (Hdd_11.out.below bV)
  have Hxx_12 := Lib.hid (Hxx_11.out.below bV)
  have Hyy_12 := Lib.hid (Hyy_11.out.below bV)
  have Hpp_12 := Lib.hid (Hpp_11.out.below bV)
  have Hqq_12 := Lib.hid (Hqq_11.out.below bV)
  have B_12 := Lib.hid (below_of B_11.out bV)
  clear GZ_11 GY_11 Gcc_11 Gdd_11 Gxx_11 Gyy_11 Gpp_11 Hcc_11 Hdd_11 Hxx_11 Hyy_11 Hpp_11 Hqq_11 B_11
  have Gqq_12 := Lib.hid gV
  have EVqq := Lib.hid eVqq
  clear gV bV eVqq
  go_upto_region 7 with fail
  try rw [EVqq.out]
  obtain ⟨e6, f6, -, -, _⟩ := blk2 GY_12.out
  go_wp2_with fail
  try rw [EVqq.out]
  refine (C7.out _ B_12.out).mono ?_
  rintro e wss ⟨nss, ass, kss, css, rfl, hs, hb⟩
  clear e6 f6
  have GZ_13 := Lib.hid (car hb GZ_12.out)
  have GY_13 := Lib.hid (car hb GY_12.out)
  have Gcc_13 := Lib.hid (car hb Gcc_12.out)
  have Gdd_13 := Lib.hid (car hb Gdd_12.out)
  have Gxx_13 := Lib.hid (car hb Gxx_12.out)
  have Gyy_13 := Lib.hid (car hb Gyy_12.out)
  have Gpp_13 := Lib.hid (car hb Gpp_12.out)
  have Gqq_13 := Lib.hid (car hb Gqq_12.out)
  have Hcc_13 := Lib.hid (Hcc_12.out.below hb)
  have Hdd_13 := Lib.hid (Hdd_12.out.below hb)
  have Hxx_13 := Lib.hid (Hxx_12.out.below hb)
  have Hyy_13 := Lib.hid (Hyy_12.out.below hb)
  have Hpp_13 := Lib.hid (Hpp_12.out.below hb)
  have Hqq_13 := Lib.hid (Hqq_12.out.below hb)
  have B_13 := Lib.hid (below_of B_12.out hb)
  clear GZ_12 GY_12 Gcc_12 Gdd_12 Gxx_12 Gyy_12 Gpp_12 Gqq_12 Hcc_12 Hdd_12 Hxx_12 Hyy_12 Hpp_12 Hqq_12 B_12
  have Hss_13 := Lib.hid hs
  clear hs hb
  obtain ⟨Vss, eVss, gV, bV, hVss⟩ := alloc1n wss (Obj.cells #[.bool nss, .slice ass kss css] 26)
  have GZ_14 := Lib.hid (car bV GZ_13.out)
  have GY_14 := Lib.hid (car bV GY_13.out)
  have Gcc_14 := Lib.hid (car bV Gcc_13.out)
  have Gdd_14 := Lib.hid (car bV Gdd_13.out)
  have Gxx_14 := Lib.hid (car bV Gxx_13.out)
  have Gyy_14 := Lib.hid (car bV Gyy_13.out)
  have Gpp_14 := Lib.hid (car bV Gpp_13.out)
  have Gqq_14 := Lib.hid (car bV Gqq_13.out)
  have Hcc_14 := Lib.hid (Hcc_13.out.below bV)
  have Hdd_14 := Lib.hid (Hdd_13.out.below bV)
  have Hxx_14 := Lib.hid (Hxx_13.out.below bV)
  have Hyy_14 := Lib.hid (Hyy_13.out.below bV)
  have Hpp_14 := Lib.hid (Hpp_13.out.below bV)
  have Hqq_14 := Lib.hid (Hqq_13.out.below bV)
  have Hss_14 := Lib.hid (Hss_13.out.below bV)
  have B_14 := Lib.hid (below_of B_13.out bV)
  clear GZ_13 GY_13 Gcc_13 Gdd_13 Gxx_13 Gyy_13 Gpp_13 Gqq_13 Hcc_13 Hdd_13 Hxx_13 Hyy_13 Hpp_13 Hqq_13 Hss_13 B_13
  have Gss_14 := Lib.hid gV
  have EVss := Lib.hid eVss
  clear gV bV eVss
  go_upto_region 8 with fail
  try rw [EVss.out]
  obtain ⟨e7, f7, -, -, _⟩ := blk2 GY_14.out
  go_wp2_with fail
  try rw [EVss.out]
  refine (C8.out _ B_14.out).mono ?_
  rintro e wtt ⟨ntt, att, ktt, ctt, rfl, hs, hb⟩
  clear e7 f7
  have GZ_15 := Lib.hid (car hb GZ_14.out)
  have GY_15 := Lib.hid (car hb GY_14.out)
  have Gcc_15 := Lib.hid (car hb Gcc_14.out)
  have Gdd_15 := Lib.hid (car hb Gdd_14.out)
  have Gxx_15 := Lib.hid (car hb Gxx_14.out)
  have Gyy_15 := Lib.hid (car hb Gyy_14.out)
  have Gpp_15 := Lib.hid (car hb Gpp_14.out)
  have Gqq_15 := Lib.hid (car hb Gqq_14.out)
  have Gss_15 := Lib.hid (car hb Gss_14.out)
  have Hcc_15 := Lib.hid (Hcc_14.out.below hb)
  have Hdd_15 := Lib.hid (Hdd_14.out.below hb)
  have Hxx_15 := Lib.hid (Hxx_14.out.below hb)
  have Hyy_15 := Lib.hid (Hyy_14.out.below hb)
  have Hpp_15 := Lib.hid (Hpp_14.out.below hb)
  have Hqq_15 := Lib.hid (Hqq_14.out.below hb)
  have Hss_15 := Lib.hid (Hss_14.out.below hb)
  have B_15 := Lib.hid (below_of B_14.out hb)
  clear GZ_14 GY_14 Gcc_14 Gdd_14 Gxx_14 Gyy_14 Gpp_14 Gqq_14 Gss_14 Hcc_14 Hdd_14 Hxx_14 Hyy_14 Hpp_14 Hqq_14 Hss_14 B_14
  have Htt_15 := Lib.hid hs
  clear hs hb
  obtain ⟨Vtt, eVtt, gV, bV, hVtt⟩ := alloc1n wtt (Obj.cells #[.bool ntt, .slice att ktt ctt] 26)
  have GZ_16 := Lib.hid (car bV GZ_15.out)
  have GY_16 := Lib.hid (car bV GY_15.out)
  have Gcc_16 := Lib.hid (car bV Gcc_15.out)
  have Gdd_16 := Lib.hid (car bV Gdd_15.out)
  have Gxx_16 := Lib.hid (car bV Gxx_15.out)
  have Gyy_16 := Lib.hid (car bV Gyy_15.out)
  have Gpp_16 := Lib.hid (car bV Gpp_15.out)
  have Gqq_16 := Lib.hid (car bV Gqq_15.out)
  have Gss_16 := Lib.hid (car bV Gss_15.out)
  have Hcc_16 := Lib.hid (Hcc_15.out.below bV)
  have Hdd_16 := Lib.hid (Hdd_15.out.below bV)
  have Hxx_16 := Lib.hid (Hxx_15.out.below bV)
  have Hyy_16 := Lib.hid (Hyy_15.out.below bV)
  have Hpp_16 := Lib.hid (Hpp_15.out.below bV)
  have Hqq_16 := Lib.hid (Hqq_15.out.below bV)
  have Hss_16 := Lib.hid (Hss_15.out.below bV)
  have Htt_16 := Lib.hid (Htt_15.out.below bV)
  have B_16 := Lib.hid (below_of B_15.out bV)
  clear GZ_15 GY_15 Gcc_15 Gdd_15 Gxx_15 Gyy_15 Gpp_15 Gqq_15 Gss_15 Hcc_15 Hdd_15 Hxx_15 Hyy_15 Hpp_15 Hqq_15 Hss_15 Htt_15 B_15
  have Gtt_16 := Lib.hid gV
  have EVtt := Lib.hid eVtt
  clear gV bV eVtt
  go_upto_region 9 with fail
  try rw [EVtt.out]
  have STAY : Hid (∀ w', Below Vtt.heap.size Vtt w' → w'.cell? ⟨wcc.heap.size, 0, none⟩ = some (.int .i64 fx) ∧ w'.cell? ⟨wcc.heap.size, 1, none⟩ = some (.slice acc kcc ccc) ∧ w'.cell? ⟨wdd.heap.size, 0, none⟩ = some (.int .i64 fx) ∧ w'.cell? ⟨wdd.heap.size, 1, none⟩ = some (.slice add kdd cdd) ∧ w'.cell? ⟨wxx.heap.size, 0, none⟩ = some (.int .i64 fx) ∧ w'.cell? ⟨wxx.heap.size, 1, none⟩ = some (.slice axx kxx cxx) ∧ w'.cell? ⟨wyy.heap.size, 0, none⟩ = some (.int .i64 fx) ∧ w'.cell? ⟨wyy.heap.size, 1, none⟩ = some (.slice ayy kyy cyy) ∧ w'.cell? ⟨wpp.heap.size, 0, none⟩ = some (.bool npp) ∧ w'.cell? ⟨wpp.heap.size, 1, none⟩ = some (.slice app kpp cpp) ∧ w'.cell? ⟨wqq.heap.size, 0, none⟩ = some (.bool nqq) ∧ w'.cell? ⟨wqq.heap.size, 1, none⟩ = some (.slice aqq kqq cqq) ∧ w'.cell? ⟨wss.heap.size, 0, none⟩ = some (.bool nss) ∧ w'.cell? ⟨wss.heap.size, 1, none⟩ = some (.slice ass kss css) ∧ w'.cell? ⟨wtt.heap.size, 0, none⟩ = some (.bool ntt) ∧ w'.cell? ⟨wtt.heap.size, 1, none⟩ = some (.slice att ktt ctt) ∧ w'.cell? ⟨w.heap.size + 1, 0, none⟩ = some (.int .i64 y) ∧ w'.cell? ⟨w.heap.size + 1, 1, none⟩ = some (.slice ay ky cy)) := Lib.hid (fun w' hb => by
    obtain ⟨e0, e1, -, -, -⟩ := blk2 (car hb Gcc_16.out)
    obtain ⟨e2, e3, -, -, -⟩ := blk2 (car hb Gdd_16.out)
    obtain ⟨e4, e5, -, -, -⟩ := blk2 (car hb Gxx_16.out)
    obtain ⟨e6, e7, -, -, -⟩ := blk2 (car hb Gyy_16.out)
    obtain ⟨e8, e9, -, -, -⟩ := blk2 (car hb Gpp_16.out)
    obtain ⟨e10, e11, -, -, -⟩ := blk2 (car hb Gqq_16.out)
    obtain ⟨e12, e13, -, -, -⟩ := blk2 (car hb Gss_16.out)
    obtain ⟨e14, e15, -, -, -⟩ := blk2 (car hb Gtt_16.out)
    obtain ⟨e16, e17, -, -, -⟩ := blk2 (car hb GY_16.out)
    exact ⟨e0, e1, e2, e3, e4, e5, e6, e7, e8, e9, e10, e11, e12, e13, e14, e15, e16, e17⟩)
  have hk0 := Below.refl Vtt.heap.size Vtt
  go_region_held3 (fun w' => w'.cell? ⟨wcc.heap.size, 0, none⟩ = some (.int .i64 fx) ∧ w'.cell? ⟨wcc.heap.size, 1, none⟩ = some (.slice acc kcc ccc) ∧ w'.cell? ⟨wdd.heap.size, 0, none⟩ = some (.int .i64 fx) ∧ w'.cell? ⟨wdd.heap.size, 1, none⟩ = some (.slice add kdd cdd) ∧ w'.cell? ⟨wxx.heap.size, 0, none⟩ = some (.int .i64 fx) ∧ w'.cell? ⟨wxx.heap.size, 1, none⟩ = some (.slice axx kxx cxx) ∧ w'.cell? ⟨wyy.heap.size, 0, none⟩ = some (.int .i64 fx) ∧ w'.cell? ⟨wyy.heap.size, 1, none⟩ = some (.slice ayy kyy cyy) ∧ w'.cell? ⟨wpp.heap.size, 0, none⟩ = some (.bool npp) ∧ w'.cell? ⟨wpp.heap.size, 1, none⟩ = some (.slice app kpp cpp) ∧ w'.cell? ⟨wqq.heap.size, 0, none⟩ = some (.bool nqq) ∧ w'.cell? ⟨wqq.heap.size, 1, none⟩ = some (.slice aqq kqq cqq) ∧ w'.cell? ⟨wss.heap.size, 0, none⟩ = some (.bool nss) ∧ w'.cell? ⟨wss.heap.size, 1, none⟩ = some (.slice ass kss css) ∧ w'.cell? ⟨wtt.heap.size, 0, none⟩ = some (.bool ntt) ∧ w'.cell? ⟨wtt.heap.size, 1, none⟩ = some (.slice att ktt ctt) ∧ w'.cell? ⟨w.heap.size + 1, 0, none⟩ = some (.int .i64 y) ∧ w'.cell? ⟨w.heap.size + 1, 1, none⟩ = some (.slice ay ky cy))
    ((refine STAY.out _ ?_; first | exact hk7 | exact hk7.drew | exact hk6 | exact hk6.drew | exact hk5 | exact hk5.drew | exact hk4 | exact hk4.drew | exact hk3 | exact hk3.drew | exact hk2 | exact hk2.drew | exact hk1 | exact hk1.drew | exact hk0 | exact hk0.drew))
    (first
    | (have tk := TK6; go_at_call 24; (with_reducible refine Calls.mono (alive9 _) ?_); rintro e u7 ⟨rfl, hb⟩; have hk7 : Below Vtt.heap.size Vtt u7 := (by first | exact below_of hk6 hb | exact below_of hk6.drew hb); have TK7 : True := trivial; clear hb)
    | (have tk := TK5; go_at_call 23; (with_reducible refine Calls.mono (R2.out _ (below_of B_16.out (by first | exact hk5 | exact hk5.drew))) ?_); rintro e u6 ⟨rfl, hb⟩; have hk6 : Below Vtt.heap.size Vtt u6 := (by first | exact below_of hk5 hb | exact below_of hk5.drew hb); have TK6 : True := trivial; clear hb)
    | (have tk := TK4; go_at_call 22; (with_reducible refine Calls.mono (R1.out _ (below_of B_16.out (by first | exact hk4 | exact hk4.drew))) ?_); rintro e u5 ⟨rfl, hb⟩; have hk5 : Below Vtt.heap.size Vtt u5 := (by first | exact below_of hk4 hb | exact below_of hk4.drew hb); have TK5 : True := trivial; clear hb)
    | (have tk := TK3; go_at_call 21; (with_reducible refine Calls.mono (cmp0 (Hss_16.out.below (by first | exact hk3 | exact hk3.drew)) (Htt_16.out.below (by first | exact hk3 | exact hk3.drew))) ?_); rintro e u4 ⟨rfl, hb⟩; have hk4 : Below Vtt.heap.size Vtt u4 := (by first | exact below_of hk3 hb | exact below_of hk3.drew hb); have TK4 : True := trivial; clear hb)
    | (have tk := TK2; go_at_call 21; (with_reducible refine Calls.mono (cmp0 (Hpp_16.out.below (by first | exact hk2 | exact hk2.drew)) (Hqq_16.out.below (by first | exact hk2 | exact hk2.drew))) ?_); rintro e u3 ⟨rfl, hb⟩; have hk3 : Below Vtt.heap.size Vtt u3 := (by first | exact below_of hk2 hb | exact below_of hk2.drew hb); have TK3 : True := trivial; clear hb)
    | (have tk := TK1; go_at_call 20; (with_reducible refine Calls.mono (sameN (Hxx_16.out.below (by first | exact hk1 | exact hk1.drew)) (Hyy_16.out.below (by first | exact hk1 | exact hk1.drew))) ?_); rintro e u2 ⟨rfl, hb⟩; have hk2 : Below Vtt.heap.size Vtt u2 := (by first | exact below_of hk1 hb | exact below_of hk1.drew hb); have TK2 : True := trivial; clear hb)
    | (go_at_call 20; (with_reducible refine Calls.mono (sameN (Hcc_16.out.below (by first | exact hk0 | exact hk0.drew)) (Hdd_16.out.below (by first | exact hk0 | exact hk0.drew))) ?_); rintro e u1 ⟨rfl, hb⟩; have hk1 : Below Vtt.heap.size Vtt u1 := (by first | exact below_of hk0 hb | exact below_of hk0.drew hb); have TK1 : True := trivial; clear hb))
  all_goals
    go_wp2
    go_ret
    exact ⟨rfl, below_of B_16.out (by first | exact hk7 | exact hk7.drew)⟩
theorem makes9_walk (x : Int) (n : Nat) (v2 v3 : Value) (z y : Int) (ys : List Nat) (w : World) (b1 : (0 : Int) ≤ (n : Int) ∧ (n : Int) ≤ 18446744073709551615) (s2 : IntV w v2 z) (s3 : BvA w v3 y ys) :
    Calls Tryz.prog 3 #[.int .i64 x, .int .u64 (n : Int), v2, v3] w fun e w' => e = .returned (.bool true) ∧ Below w.heap.size w w' := by
  cases hrb : rightF y (val B64 ys)
  · exact makes_core x n (by unfold B64; omega) v2 v3 z y ys false w s2 s3 hrb
  · exact makes_core x n (by unfold B64; omega) v2 v3 z y ys true w s2 s3 hrb
end Go.Proofs.YtccofiakblmkhaaGreat
