/- BitsOrders: its cases (gen9p.py). -/
import Derived.Test.YtccofiakblmkhaaGreatC99LC
import Derived.Test.YtccofiakblmkhaaGreatC9N5
set_option linter.unusedVariables false
set_option linter.unusedSimpArgs false
namespace Go.Proofs.YtccofiakblmkhaaGreat
open Go.RowKit Mth

set_option maxHeartbeats 16000000 in
set_option maxRecDepth 100000 in
theorem orders_gl (v0 v1 : Value) (x y : Int) (xs ys : List Nat) (w : World) (s0 : BvA w v0 x xs) (s1 : BvA w v1 y ys)
    (H68 : ∀ w1, Below w.heap.size w w1 → Calls Tryz.prog 27 #[.int .i64 68, v0, v1] w1 fun e w' => e = .returned (.tuple #[.bool false, .int .i64 0]) ∧ Below w1.heap.size w1 w')
    (H69 : ∀ w1, Below w.heap.size w w1 → Calls Tryz.prog 27 #[.int .i64 69, v0, v1] w1 fun e w' => e = .returned (.tuple #[.bool false, .int .i64 0]) ∧ Below w1.heap.size w1 w')
    (H70 : ∀ w1, Below w.heap.size w w1 → Calls Tryz.prog 27 #[.int .i64 70, v0, v1] w1 fun e w' => e = .returned (.tuple #[.bool true, .int .i64 0]) ∧ Below w1.heap.size w1 w')
    (H71 : ∀ w1, Below w.heap.size w w1 → Calls Tryz.prog 27 #[.int .i64 71, v0, v1] w1 fun e w' => e = .returned (.tuple #[.bool true, .int .i64 0]) ∧ Below w1.heap.size w1 w')
    (H72 : ∀ w1, Below w.heap.size w w1 → Calls Tryz.prog 27 #[.int .i64 72, v0, v1] w1 fun e w' => e = .returned (.tuple #[.bool true, .int .i64 0]) ∧ Below w1.heap.size w1 w')
    (H74 : ∀ w1, Below w.heap.size w w1 → Calls Tryz.prog 27 #[.int .i64 74, v0, v1] w1 fun e w' => e = .returned (.tuple #[.bool false, .int .i64 0]) ∧ Below w1.heap.size w1 w')
    (H73 : ∀ w1, Below w.heap.size w w1 → Calls Tryz.prog 27 #[.int .i64 73, v0, v1] w1 fun e w' => e = .returned (.tuple #[.bool true, .int .i64 0]) ∧ Below w1.heap.size w1 w')
    (H75 : ∀ w1, Below w.heap.size w w1 → Calls Tryz.prog 27 #[.int .i64 75, v0, v1] w1 fun e w' => e = .returned (.tuple #[.bool false, .int .i64 0]) ∧ Below w1.heap.size w1 w')
    (HF : ∀ w1, Below w.heap.size w w1 → Calls Tryz.prog 27 #[.int .i64 68, v1, v0] w1 fun e w' => e = .returned (.tuple #[.bool true, .int .i64 0]) ∧ Below w1.heap.size w1 w')
    (HC : ∀ w1 av, Below w.heap.size w w1 → BvLX w1 av [(x, xs), (y, ys)] → Calls Tryz.prog 25 #[.int .i64 51, .slice none 0 0, av] w1 fun e w' => ∃ a c, e = .returned (.tuple #[.agg #[.int .i64 1, .slice a 0 c], .int .i64 0]) ∧ Below w1.heap.size w1 w') :
    Calls Tryz.prog 10 #[v0, v1] w fun e w' => e = .returned (.bool true) ∧ Below w.heap.size w w' := by
  have J68 := Lib.hid H68
  have J69 := Lib.hid H69
  have J70 := Lib.hid H70
  have J71 := Lib.hid H71
  have J72 := Lib.hid H72
  have J74 := Lib.hid H74
  have J73 := Lib.hid H73
  have J75 := Lib.hid H75
  have JF := Lib.hid HF
  have JC := Lib.hid HC
  have S0 := Lib.hid s0; have S1 := Lib.hid s1
  obtain ⟨u1, rfl, t1, -, -⟩ := s0
  obtain ⟨u2, rfl, t2, -, -⟩ := s1
  obtain ⟨a1, c1, rfl⟩ := t1.shape
  obtain ⟨a2, c2, rfl⟩ := t2.shape
  generalize xs.length = k1 at *
  generalize ys.length = k2 at *
  clear H68 H69 H70 H71 H72 H74 H73 H75 HC t1 t2 HF
  obtain ⟨W, eW, g1, g2, bel, hsz⟩ := alloc2 w (Obj.cells #[.int .i64 x, .slice a1 k1 c1] 28) (Obj.cells #[.int .i64 y, .slice a2 k2 c2] 28)
  have G1_0 := Lib.hid g1; have G2_0 := Lib.hid g2; have B_0 := Lib.hid bel
  clear g1 g2 bel
  go_enter Tryz.func10, Tryz.ntmps10
  obtain ⟨p0, p0', -, -, _⟩ := blk2 G1_0.out
  obtain ⟨q0, q0', -, -, _⟩ := blk2 G2_0.out
  go_wp2_with fail
  try rw [eW]
  refine (J68.out _ B_0.out).mono ?_
  rintro e w1 ⟨rfl, hb⟩
  clear p0 p0' q0 q0'
  have B_1 := Lib.hid (below_of B_0.out hb)
  have G1_1 := Lib.hid (car hb G1_0.out); have G2_1 := Lib.hid (car hb G2_0.out)
  clear G1_0 G2_0 B_0
  clear hb
  obtain ⟨p1, p1', -, -, _⟩ := blk2 G1_1.out
  obtain ⟨q1, q1', -, -, _⟩ := blk2 G2_1.out
  go_wp2_with fail
  refine (J69.out _ B_1.out).mono ?_
  rintro e w2 ⟨rfl, hb⟩
  clear p1 p1' q1 q1'
  have B_2 := Lib.hid (below_of B_1.out hb)
  have G1_2 := Lib.hid (car hb G1_1.out); have G2_2 := Lib.hid (car hb G2_1.out)
  clear G1_1 G2_1 B_1
  clear hb
  obtain ⟨p2, p2', -, -, _⟩ := blk2 G1_2.out
  obtain ⟨q2, q2', -, -, _⟩ := blk2 G2_2.out
  go_wp2_with fail
  refine (J70.out _ B_2.out).mono ?_
  rintro e w3 ⟨rfl, hb⟩
  clear p2 p2' q2 q2'
  have B_3 := Lib.hid (below_of B_2.out hb)
  have G1_3 := Lib.hid (car hb G1_2.out); have G2_3 := Lib.hid (car hb G2_2.out)
  clear G1_2 G2_2 B_2
  clear hb
  obtain ⟨p3, p3', -, -, _⟩ := blk2 G1_3.out
  obtain ⟨q3, q3', -, -, _⟩ := blk2 G2_3.out
  go_wp2_with fail
  refine (J71.out _ B_3.out).mono ?_
  rintro e w4 ⟨rfl, hb⟩
  clear p3 p3' q3 q3'
  have B_4 := Lib.hid (below_of B_3.out hb)
  have G1_4 := Lib.hid (car hb G1_3.out); have G2_4 := Lib.hid (car hb G2_3.out)
  clear G1_3 G2_3 B_3
  clear hb
  obtain ⟨p4, p4', -, -, _⟩ := blk2 G1_4.out
  obtain ⟨q4, q4', -, -, _⟩ := blk2 G2_4.out
  go_wp2_with fail
  refine (J72.out _ B_4.out).mono ?_
  rintro e w5 ⟨rfl, hb⟩
  clear p4 p4' q4 q4'
  have B_5 := Lib.hid (below_of B_4.out hb)
  have G1_5 := Lib.hid (car hb G1_4.out); have G2_5 := Lib.hid (car hb G2_4.out)
  clear G1_4 G2_4 B_4
  clear hb
  obtain ⟨p5, p5', -, -, _⟩ := blk2 G1_5.out
  obtain ⟨q5, q5', -, -, _⟩ := blk2 G2_5.out
  go_wp2_with fail
  refine (J74.out _ B_5.out).mono ?_
  rintro e w6 ⟨rfl, hb⟩
  clear p5 p5' q5 q5'
  have B_6 := Lib.hid (below_of B_5.out hb)
  have G1_6 := Lib.hid (car hb G1_5.out); have G2_6 := Lib.hid (car hb G2_5.out)
  clear G1_5 G2_5 B_5
  clear hb
  obtain ⟨p6, p6', -, -, _⟩ := blk2 G1_6.out
  obtain ⟨q6, q6', -, -, _⟩ := blk2 G2_6.out
  go_wp2_with fail
  refine (J73.out _ B_6.out).mono ?_
  rintro e w7 ⟨rfl, hb⟩
  clear p6 p6' q6 q6'
  have B_7 := Lib.hid (below_of B_6.out hb)
  have G1_7 := Lib.hid (car hb G1_6.out); have G2_7 := Lib.hid (car hb G2_6.out)
  clear G1_6 G2_6 B_6
  clear hb
  obtain ⟨p7, p7', -, -, _⟩ := blk2 G1_7.out
  obtain ⟨q7, q7', -, -, _⟩ := blk2 G2_7.out
  go_wp2_with fail
  refine (J75.out _ B_7.out).mono ?_
  rintro e w8 ⟨rfl, hb⟩
  clear p7 p7' q7 q7'
  have B_8 := Lib.hid (below_of B_7.out hb)
  have G1_8 := Lib.hid (car hb G1_7.out); have G2_8 := Lib.hid (car hb G2_7.out)
  clear G1_7 G2_7 B_7
  clear hb
  obtain ⟨p8, p8', -, -, _⟩ := blk2 G1_8.out
  obtain ⟨q8, q8', -, -, _⟩ := blk2 G2_8.out
  obtain ⟨V, eV, gV, bV, hVs⟩ := alloc1n w8 (Obj.cells #[.int .i64 x, .slice a1 k1 c1, .int .i64 y, .slice a2 k2 c2] 28)
  have CC := Lib.hid (JC.out V _ (below_of B_8.out bV) (bvlx_two gV (S0.out.below (below_of B_8.out bV)) (S1.out.below (below_of B_8.out bV))))
  go_wp2_with fail
  try rw [eV]
  refine CC.out.mono ?_
  rintro e wc ⟨ac, cc, rfl, hbc⟩
  have hbc' := below_of bV hbc
  clear p8 p8' q8 q8' gV bV eV CC
  have B_9 := Lib.hid (below_of B_8.out hbc')
  have G1_9 := Lib.hid (car hbc' G1_8.out); have G2_9 := Lib.hid (car hbc' G2_8.out)
  clear G1_8 G2_8 B_8
  clear hbc hbc'
  obtain ⟨V2, eV2, gV2, bV2, hVs2⟩ := alloc1n wc (Obj.cells #[.int .i64 1, .slice ac 0 cc] 28)
  have EV2 := Lib.hid eV2
  have GC := Lib.hid gV2
  have B_10 := Lib.hid (below_of B_9.out bV2)
  have G1_10 := Lib.hid (car bV2 G1_9.out); have G2_10 := Lib.hid (car bV2 G2_9.out)
  clear G1_9 G2_9 B_9
  clear bV2 gV2 eV2
  go_upto_region 10 with fail
  rw [EV2.out]
  obtain ⟨z0, z1, -, -, _⟩ := blk2 GC.out
  obtain ⟨p10, p10', -, -, _⟩ := blk2 G1_10.out
  obtain ⟨q10, q10', -, -, _⟩ := blk2 G2_10.out
  go_wp2_with fail
  refine (JF.out _ B_10.out).mono ?_
  rintro e wf ⟨rfl, hb⟩
  have BF := Lib.hid (below_of B_10.out hb)
  clear p10 p10' q10 q10' hb z0 z1
  go_wp2_with fail
  refine (alive9 _).mono ?_
  rintro e wl ⟨rfl, hb⟩
  have BL := Lib.hid (below_of BF.out hb)
  clear hb
  go_wp2
  go_ret
  exact ⟨rfl, BL.out⟩
set_option maxHeartbeats 16000000 in
set_option maxRecDepth 100000 in
theorem orders_gg (v0 v1 : Value) (x y : Int) (xs ys : List Nat) (w : World) (s0 : BvA w v0 x xs) (s1 : BvA w v1 y ys)
    (H68 : ∀ w1, Below w.heap.size w w1 → Calls Tryz.prog 27 #[.int .i64 68, v0, v1] w1 fun e w' => e = .returned (.tuple #[.bool false, .int .i64 0]) ∧ Below w1.heap.size w1 w')
    (H69 : ∀ w1, Below w.heap.size w w1 → Calls Tryz.prog 27 #[.int .i64 69, v0, v1] w1 fun e w' => e = .returned (.tuple #[.bool false, .int .i64 0]) ∧ Below w1.heap.size w1 w')
    (H70 : ∀ w1, Below w.heap.size w w1 → Calls Tryz.prog 27 #[.int .i64 70, v0, v1] w1 fun e w' => e = .returned (.tuple #[.bool true, .int .i64 0]) ∧ Below w1.heap.size w1 w')
    (H71 : ∀ w1, Below w.heap.size w w1 → Calls Tryz.prog 27 #[.int .i64 71, v0, v1] w1 fun e w' => e = .returned (.tuple #[.bool true, .int .i64 0]) ∧ Below w1.heap.size w1 w')
    (H72 : ∀ w1, Below w.heap.size w w1 → Calls Tryz.prog 27 #[.int .i64 72, v0, v1] w1 fun e w' => e = .returned (.tuple #[.bool false, .int .i64 0]) ∧ Below w1.heap.size w1 w')
    (H74 : ∀ w1, Below w.heap.size w w1 → Calls Tryz.prog 27 #[.int .i64 74, v0, v1] w1 fun e w' => e = .returned (.tuple #[.bool true, .int .i64 0]) ∧ Below w1.heap.size w1 w')
    (H73 : ∀ w1, Below w.heap.size w w1 → Calls Tryz.prog 27 #[.int .i64 73, v0, v1] w1 fun e w' => e = .returned (.tuple #[.bool false, .int .i64 0]) ∧ Below w1.heap.size w1 w')
    (H75 : ∀ w1, Below w.heap.size w w1 → Calls Tryz.prog 27 #[.int .i64 75, v0, v1] w1 fun e w' => e = .returned (.tuple #[.bool true, .int .i64 0]) ∧ Below w1.heap.size w1 w')
    (HF : ∀ w1, Below w.heap.size w w1 → Calls Tryz.prog 27 #[.int .i64 68, v1, v0] w1 fun e w' => e = .returned (.tuple #[.bool true, .int .i64 0]) ∧ Below w1.heap.size w1 w')
    (HC : ∀ w1 av, Below w.heap.size w w1 → BvLX w1 av [(x, xs), (y, ys)] → Calls Tryz.prog 25 #[.int .i64 51, .slice none 0 0, av] w1 fun e w' => ∃ a c, e = .returned (.tuple #[.agg #[.int .i64 1, .slice a 0 c], .int .i64 0]) ∧ Below w1.heap.size w1 w') :
    Calls Tryz.prog 10 #[v0, v1] w fun e w' => e = .returned (.bool true) ∧ Below w.heap.size w w' := by
  have J68 := Lib.hid H68
  have J69 := Lib.hid H69
  have J70 := Lib.hid H70
  have J71 := Lib.hid H71
  have J72 := Lib.hid H72
  have J74 := Lib.hid H74
  have J73 := Lib.hid H73
  have J75 := Lib.hid H75
  have JF := Lib.hid HF
  have JC := Lib.hid HC
  have S0 := Lib.hid s0; have S1 := Lib.hid s1
  obtain ⟨u1, rfl, t1, -, -⟩ := s0
  obtain ⟨u2, rfl, t2, -, -⟩ := s1
  obtain ⟨a1, c1, rfl⟩ := t1.shape
  obtain ⟨a2, c2, rfl⟩ := t2.shape
  generalize xs.length = k1 at *
  generalize ys.length = k2 at *
  clear H68 H69 H70 H71 H72 H74 H73 H75 HC t1 t2 HF
  obtain ⟨W, eW, g1, g2, bel, hsz⟩ := alloc2 w (Obj.cells #[.int .i64 x, .slice a1 k1 c1] 28) (Obj.cells #[.int .i64 y, .slice a2 k2 c2] 28)
  have G1_0 := Lib.hid g1; have G2_0 := Lib.hid g2; have B_0 := Lib.hid bel
  clear g1 g2 bel
  go_enter Tryz.func10, Tryz.ntmps10
  obtain ⟨p0, p0', -, -, _⟩ := blk2 G1_0.out
  obtain ⟨q0, q0', -, -, _⟩ := blk2 G2_0.out
  go_wp2_with fail
  try rw [eW]
  refine (J68.out _ B_0.out).mono ?_
  rintro e w1 ⟨rfl, hb⟩
  clear p0 p0' q0 q0'
  have B_1 := Lib.hid (below_of B_0.out hb)
  have G1_1 := Lib.hid (car hb G1_0.out); have G2_1 := Lib.hid (car hb G2_0.out)
  clear G1_0 G2_0 B_0
  clear hb
  obtain ⟨p1, p1', -, -, _⟩ := blk2 G1_1.out
  obtain ⟨q1, q1', -, -, _⟩ := blk2 G2_1.out
  go_wp2_with fail
  refine (J69.out _ B_1.out).mono ?_
  rintro e w2 ⟨rfl, hb⟩
  clear p1 p1' q1 q1'
  have B_2 := Lib.hid (below_of B_1.out hb)
  have G1_2 := Lib.hid (car hb G1_1.out); have G2_2 := Lib.hid (car hb G2_1.out)
  clear G1_1 G2_1 B_1
  clear hb
  obtain ⟨p2, p2', -, -, _⟩ := blk2 G1_2.out
  obtain ⟨q2, q2', -, -, _⟩ := blk2 G2_2.out
  go_wp2_with fail
  refine (J70.out _ B_2.out).mono ?_
  rintro e w3 ⟨rfl, hb⟩
  clear p2 p2' q2 q2'
  have B_3 := Lib.hid (below_of B_2.out hb)
  have G1_3 := Lib.hid (car hb G1_2.out); have G2_3 := Lib.hid (car hb G2_2.out)
  clear G1_2 G2_2 B_2
  clear hb
  obtain ⟨p3, p3', -, -, _⟩ := blk2 G1_3.out
  obtain ⟨q3, q3', -, -, _⟩ := blk2 G2_3.out
  go_wp2_with fail
  refine (J71.out _ B_3.out).mono ?_
  rintro e w4 ⟨rfl, hb⟩
  clear p3 p3' q3 q3'
  have B_4 := Lib.hid (below_of B_3.out hb)
  have G1_4 := Lib.hid (car hb G1_3.out); have G2_4 := Lib.hid (car hb G2_3.out)
  clear G1_3 G2_3 B_3
  clear hb
  obtain ⟨p4, p4', -, -, _⟩ := blk2 G1_4.out
  obtain ⟨q4, q4', -, -, _⟩ := blk2 G2_4.out
  go_wp2_with fail
  refine (J72.out _ B_4.out).mono ?_
  rintro e w5 ⟨rfl, hb⟩
  clear p4 p4' q4 q4'
  have B_5 := Lib.hid (below_of B_4.out hb)
  have G1_5 := Lib.hid (car hb G1_4.out); have G2_5 := Lib.hid (car hb G2_4.out)
  clear G1_4 G2_4 B_4
  clear hb
  obtain ⟨p5, p5', -, -, _⟩ := blk2 G1_5.out
  obtain ⟨q5, q5', -, -, _⟩ := blk2 G2_5.out
  go_wp2_with fail
  refine (J74.out _ B_5.out).mono ?_
  rintro e w6 ⟨rfl, hb⟩
  clear p5 p5' q5 q5'
  have B_6 := Lib.hid (below_of B_5.out hb)
  have G1_6 := Lib.hid (car hb G1_5.out); have G2_6 := Lib.hid (car hb G2_5.out)
  clear G1_5 G2_5 B_5
  clear hb
  obtain ⟨p6, p6', -, -, _⟩ := blk2 G1_6.out
  obtain ⟨q6, q6', -, -, _⟩ := blk2 G2_6.out
  go_wp2_with fail
  refine (J73.out _ B_6.out).mono ?_
  rintro e w7 ⟨rfl, hb⟩
  clear p6 p6' q6 q6'
  have B_7 := Lib.hid (below_of B_6.out hb)
  have G1_7 := Lib.hid (car hb G1_6.out); have G2_7 := Lib.hid (car hb G2_6.out)
  clear G1_6 G2_6 B_6
  clear hb
  obtain ⟨p7, p7', -, -, _⟩ := blk2 G1_7.out
  obtain ⟨q7, q7', -, -, _⟩ := blk2 G2_7.out
  go_wp2_with fail
  refine (J75.out _ B_7.out).mono ?_
  rintro e w8 ⟨rfl, hb⟩
  clear p7 p7' q7 q7'
  have B_8 := Lib.hid (below_of B_7.out hb)
  have G1_8 := Lib.hid (car hb G1_7.out); have G2_8 := Lib.hid (car hb G2_7.out)
  clear G1_7 G2_7 B_7
  clear hb
  obtain ⟨p8, p8', -, -, _⟩ := blk2 G1_8.out
  obtain ⟨q8, q8', -, -, _⟩ := blk2 G2_8.out
  obtain ⟨V, eV, gV, bV, hVs⟩ := alloc1n w8 (Obj.cells #[.int .i64 x, .slice a1 k1 c1, .int .i64 y, .slice a2 k2 c2] 28)
  have CC := Lib.hid (JC.out V _ (below_of B_8.out bV) (bvlx_two gV (S0.out.below (below_of B_8.out bV)) (S1.out.below (below_of B_8.out bV))))
  go_wp2_with fail
  try rw [eV]
  refine CC.out.mono ?_
  rintro e wc ⟨ac, cc, rfl, hbc⟩
  have hbc' := below_of bV hbc
  clear p8 p8' q8 q8' gV bV eV CC
  have B_9 := Lib.hid (below_of B_8.out hbc')
  have G1_9 := Lib.hid (car hbc' G1_8.out); have G2_9 := Lib.hid (car hbc' G2_8.out)
  clear G1_8 G2_8 B_8
  clear hbc hbc'
  obtain ⟨V2, eV2, gV2, bV2, hVs2⟩ := alloc1n wc (Obj.cells #[.int .i64 1, .slice ac 0 cc] 28)
  have EV2 := Lib.hid eV2
  have GC := Lib.hid gV2
  have B_10 := Lib.hid (below_of B_9.out bV2)
  have G1_10 := Lib.hid (car bV2 G1_9.out); have G2_10 := Lib.hid (car bV2 G2_9.out)
  clear G1_9 G2_9 B_9
  clear bV2 gV2 eV2
  go_upto_region 10 with fail
  rw [EV2.out]
  obtain ⟨z0, z1, -, -, _⟩ := blk2 GC.out
  obtain ⟨p10, p10', -, -, _⟩ := blk2 G1_10.out
  obtain ⟨q10, q10', -, -, _⟩ := blk2 G2_10.out
  go_wp2_with fail
  refine (JF.out _ B_10.out).mono ?_
  rintro e wf ⟨rfl, hb⟩
  have BF := Lib.hid (below_of B_10.out hb)
  clear p10 p10' q10 q10' hb z0 z1
  go_wp2_with fail
  refine (alive9 _).mono ?_
  rintro e wl ⟨rfl, hb⟩
  have BL := Lib.hid (below_of BF.out hb)
  clear hb
  go_wp2
  go_ret
  exact ⟨rfl, BL.out⟩
end Go.Proofs.YtccofiakblmkhaaGreat
