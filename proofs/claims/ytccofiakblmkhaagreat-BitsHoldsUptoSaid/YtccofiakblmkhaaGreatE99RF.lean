/- tribunalref09: Holds (gen9rf.py). -/
import Derived.Test.YtccofiakblmkhaaGreatE9NB9
import Derived.Test.YtccofiakblmkhaaGreatE99LC
set_option linter.unusedVariables false
set_option linter.unusedSimpArgs false
namespace Go.Proofs.YtccofiakblmkhaaGreat
open Go.RowKit Mth

theorem BvA.sS {w : World} {v : Value} {wd : Nat} {xs : List Nat} (h1 : 1 ≤ wd) (h2 : wd ≤ 4096) (hn : val B64 xs < 2 ^ wd) (h : BvA w v (wd : Int) xs) : Calls Tryz.prog 44 #[v] w fun e w' => ResZ9 w w' e (sgV wd (val B64 xs)) := rS_any v wd _ h1 h2 hn w h.v
set_option maxHeartbeats 16000000 in
set_option maxRecDepth 100000 in
theorem rholds_err (op : Int) (v0 v1 : Value) (x y : Int) (xs ys : List Nat) (er : Int) (her : er ≠ 0) (w : World) (s0 : BvA w v0 x xs) (s1 : BvA w v1 y ys)
    (CK : ∀ w1 av, BvLX w1 av [(x, xs), (y, ys)] → Calls Tryz.prog 51 #[.int .i64 op, .slice none 0 0, av, .int .i64 2] w1 fun e w' => e = .returned (.int .i64 er) ∧ Below w1.heap.size w1 w') :
    Calls Tryz.prog 28 #[.int .i64 op, v0, v1] w fun e w' => e = .returned (.tuple #[.bool false, .int .i64 er]) ∧ Below w.heap.size w w' := by
  have S0 := Lib.hid s0; have S1 := Lib.hid s1
  obtain ⟨u1, rfl, t1, -, -⟩ := s0
  obtain ⟨u2, rfl, t2, -, -⟩ := s1
  obtain ⟨a1, c1, rfl⟩ := t1.shape
  obtain ⟨a2, c2, rfl⟩ := t2.shape
  generalize xs.length = k1 at *
  generalize ys.length = k2 at *
  obtain ⟨W, eW, g1, g2, bel, hsz⟩ := alloc2 w (Obj.cells #[.int .i64 x, .slice a1 k1 c1] 28) (Obj.cells #[.int .i64 y, .slice a2 k2 c2] 28)
  obtain ⟨V, eV, gV, bV, hVs⟩ := alloc1n W (Obj.cells #[.int .i64 x, .slice a1 k1 c1, .int .i64 y, .slice a2 k2 c2] 28)
  have hw : W.heap.size = w.heap.size + 1 + 1 := by rw [← eW]; simp
  have BV := Lib.hid (below_of bel bV)
  have CC := Lib.hid (CK V _ (bvlx_two gV (S0.out.below BV.out) (S1.out.below BV.out)))
  rw [hw] at CC
  have G1 := Lib.hid (car bV g1); have G2 := Lib.hid (car bV g2)
  obtain ⟨p0, p1, -, -, _⟩ := blk2 g1
  obtain ⟨q0, q1, -, -, _⟩ := blk2 g2
  clear t1 t2 g1 g2 bel gV bV CK
  have d1 : (er != 0) = true := bne_iff_ne.2 her
  clear her
  go_enter Tryz.func28, Tryz.ntmps28
  go_wp2_with fail
  try rw [eW]
  try rw [eV]
  refine CC.out.mono ?_
  rintro e w2 ⟨rfl, hb⟩
  have B2 := Lib.hid (below_of BV.out hb)
  clear hb
  go_wp2
  go_ret2
  exact ⟨rfl, B2.out⟩
set_option maxHeartbeats 16000000 in
set_option maxRecDepth 100000 in
theorem rholds_ult (wd : Nat) (h1 : 1 ≤ wd) (h2 : wd ≤ 4096) (v0 v1 : Value) (xs ys : List Nat) (hx : val B64 xs < 2 ^ wd) (hy : val B64 ys < 2 ^ wd) (w : World) (s0 : BvA w v0 (wd : Int) xs) (s1 : BvA w v1 (wd : Int) ys)
    (CK : ∀ w1 av, BvLX w1 av [((wd : Int), xs), ((wd : Int), ys)] → Calls Tryz.prog 51 #[.int .i64 68, .slice none 0 0, av, .int .i64 2] w1 fun e w' => e = .returned (.int .i64 0) ∧ Below w1.heap.size w1 w') :
    Calls Tryz.prog 28 #[.int .i64 68, v0, v1] w fun e w' => e = .returned (.tuple #[.bool (decide ((((val B64 xs : Nat) : Int)) < (((val B64 ys : Nat) : Int)))), .int .i64 0]) ∧ Below w.heap.size w w' := by
  have S0 := Lib.hid s0; have S1 := Lib.hid s1
  have UA : Hid (∀ w1, Below w.heap.size w w1 → Calls Tryz.prog 42 #[v0] w1 fun e w' => ResZ9 w1 w' e ((val B64 xs : Nat) : Int)) := Lib.hid (fun w1 hw => (S0.out.below hw).u)
  have UB : Hid (∀ w1, Below w.heap.size w w1 → Calls Tryz.prog 42 #[v1] w1 fun e w' => ResZ9 w1 w' e ((val B64 ys : Nat) : Int)) := Lib.hid (fun w1 hw => (S1.out.below hw).u)
  have CU : Hid (∀ va vb w1, ZV w1 va ((val B64 xs : Nat) : Int) → ZV w1 vb ((val B64 ys : Nat) : Int) → Calls Tryz.prog 59 #[va, vb] w1 fun e w' => e = .returned (.int .i64 (zcmp ((val B64 xs : Nat) : Int) ((val B64 ys : Nat) : Int))) ∧ Below w1.heap.size w1 w') := Lib.hid (fun va vb w1 a b => cmp1_any va vb _ _ w1 a b)
  have SA : Hid (∀ w1, Below w.heap.size w w1 → Calls Tryz.prog 44 #[v0] w1 fun e w' => ResZ9 w1 w' e (sgV wd (val B64 xs))) := Lib.hid (fun w1 hw => (S0.out.below hw).sS h1 h2 hx)
  have SB : Hid (∀ w1, Below w.heap.size w w1 → Calls Tryz.prog 44 #[v1] w1 fun e w' => ResZ9 w1 w' e (sgV wd (val B64 ys))) := Lib.hid (fun w1 hw => (S1.out.below hw).sS h1 h2 hy)
  have CS : Hid (∀ va vb w1, ZV w1 va (sgV wd (val B64 xs)) → ZV w1 vb (sgV wd (val B64 ys)) → Calls Tryz.prog 59 #[va, vb] w1 fun e w' => e = .returned (.int .i64 (zcmp (sgV wd (val B64 xs)) (sgV wd (val B64 ys)))) ∧ Below w1.heap.size w1 w') := Lib.hid (fun va vb w1 a b => cmp1_any va vb _ _ w1 a b)
  have hd : decide (zcmp (((val B64 xs : Nat) : Int)) (((val B64 ys : Nat) : Int)) < 0) = decide ((((val B64 xs : Nat) : Int)) < (((val B64 ys : Nat) : Int))) := by
    rw [decide_eq_decide]
    generalize ((val B64 xs : Nat) : Int) = X
    generalize ((val B64 ys : Nat) : Int) = Y
    unfold zcmp
    (repeat' split) <;> omega
  rw [← hd]
  clear hd
  generalize zcmp ((val B64 xs : Nat) : Int) ((val B64 ys : Nat) : Int) = ou at *
  generalize zcmp (sgV wd (val B64 xs)) (sgV wd (val B64 ys)) = os at *
  generalize ((val B64 xs : Nat) : Int) = ux at *
  generalize ((val B64 ys : Nat) : Int) = uy at *
  generalize sgV wd (val B64 xs) = sx at *
  generalize sgV wd (val B64 ys) = sy at *
  clear h1 h2
  obtain ⟨u1, rfl, t1, -, -⟩ := s0
  obtain ⟨u2, rfl, t2, -, -⟩ := s1
  obtain ⟨a1, c1, rfl⟩ := t1.shape
  obtain ⟨a2, c2, rfl⟩ := t2.shape
  generalize xs.length = k1 at *
  generalize ys.length = k2 at *
  obtain ⟨W, eW, g1, g2, bel, hsz⟩ := alloc2 w (Obj.cells #[.int .i64 (wd : Int), .slice a1 k1 c1] 28) (Obj.cells #[.int .i64 (wd : Int), .slice a2 k2 c2] 28)
  obtain ⟨V, eV, gV, bV, hVs⟩ := alloc1n W (Obj.cells #[.int .i64 (wd : Int), .slice a1 k1 c1, .int .i64 (wd : Int), .slice a2 k2 c2] 28)
  have hw : W.heap.size = w.heap.size + 1 + 1 := by rw [← eW]; simp
  have BV := Lib.hid (below_of bel bV)
  have CC := Lib.hid (CK V _ (bvlx_two gV (S0.out.below BV.out) (S1.out.below BV.out)))
  rw [hw] at CC
  have G1 := Lib.hid (car bV g1); have G2 := Lib.hid (car bV g2)
  obtain ⟨p0, p1, -, -, _⟩ := blk2 g1
  obtain ⟨q0, q1, -, -, _⟩ := blk2 g2
  clear t1 t2 g1 g2 bel gV bV CK
  clear hx hy
  go_enter Tryz.func28, Tryz.ntmps28
  go_wp2_with fail
  try rw [eW]
  try rw [eV]
  refine CC.out.mono ?_
  rintro e X ⟨rfl, hb⟩
  have BX := Lib.hid (below_of BV.out hb)
  have GAu := Lib.hid (car hb G1.out); have GBu := Lib.hid (car hb G2.out)
  clear hb p0 p1 q0 q1
  have STAYu : Hid (∀ w', Below X.heap.size X w' → w'.cell? ⟨w.heap.size, 0, none⟩ = some (.int .i64 (wd : Int)) ∧ w'.cell? ⟨w.heap.size, 1, none⟩ = some (.slice a1 k1 c1) ∧ w'.cell? ⟨w.heap.size + 1, 0, none⟩ = some (.int .i64 (wd : Int)) ∧ w'.cell? ⟨w.heap.size + 1, 1, none⟩ = some (.slice a2 k2 c2)) := Lib.hid (fun w' hb => by
    obtain ⟨e0, e1, -, -, _⟩ := blk2 (car hb GAu.out)
    obtain ⟨e2, e3, -, -, _⟩ := blk2 (car hb GBu.out)
    exact ⟨e0, e1, e2, e3⟩)
  have hku0 := Below.refl X.heap.size X
  go_upto_region 4 with fail
  go_cut [9] (fun s wx => s = .int .i64 ou ∧ Below X.heap.size X wx)
  case first =>
    go_region_held3 (fun w' => w'.cell? ⟨w.heap.size, 0, none⟩ = some (.int .i64 (wd : Int)) ∧ w'.cell? ⟨w.heap.size, 1, none⟩ = some (.slice a1 k1 c1) ∧ w'.cell? ⟨w.heap.size + 1, 0, none⟩ = some (.int .i64 (wd : Int)) ∧ w'.cell? ⟨w.heap.size + 1, 1, none⟩ = some (.slice a2 k2 c2))
      ((refine STAYu.out _ ?_; first | exact hku3 | exact hku3.drew | exact hku2 | exact hku2.drew | exact hku1 | exact hku1.drew | exact hku0 | exact hku0.drew))
      (first
      | (have tk := I2; go_at_call 59; (with_reducible refine Calls.mono (CU.out _ _ _ ?_ ?_) ?_); (first | exact I1.out | exact zv_drew I1.out); (first | exact I2.out | exact zv_drew I2.out); rintro e x3 ⟨rfl, hb3⟩; have hku3 : Below X.heap.size X x3 := (by first | exact below_of hku2 hb3 | exact below_of hku2.drew hb3); clear hb3)
      | (have tk := I1; go_at_call 42; (with_reducible refine Calls.mono (UB.out _ (below_of BX.out (by first | exact hku1 | exact hku1.drew))) ?_); rintro e x2 ⟨n2, b2, l2, d2, rfl, hi2, hb2⟩; have hku2 : Below X.heap.size X x2 := (by first | exact below_of hku1 hb2 | exact below_of hku1.drew hb2); have I2 := Lib.hid hi2; (first | (have I1' := Lib.hid (zv_call hb2 I1.out)) | (have I1' := Lib.hid (zv_call hb2 (zv_drew I1.out)))); clear I1; have I1 := I1'; clear I1' hi2 hb2)
      | (go_at_call 42; (with_reducible refine Calls.mono (UA.out _ (below_of BX.out (by first | exact hku0 | exact hku0.drew))) ?_); rintro e x1 ⟨n1, b1, l1, d1, rfl, hi1, hb1⟩; have hku1 : Below X.heap.size X x1 := (by first | exact below_of hku0 hb1 | exact below_of hku0.drew hb1); have I1 := Lib.hid hi1; clear hi1 hb1))
    all_goals
      go_wp2_with fail
      go_meet
      exact ⟨rfl, by first | exact hku3 | exact hku3.drew⟩
  case rest =>
  obtain ⟨rfl, hb⟩ := hcut
  generalize wc = Y at *
  have BY := Lib.hid (below_of BX.out hb)
  have GAs := Lib.hid (car hb GAu.out); have GBs := Lib.hid (car hb GBu.out)
  clear hb STAYu hku0
  go_wp2
  go_ret2
  exact ⟨rfl, BY.out⟩
set_option maxHeartbeats 16000000 in
set_option maxRecDepth 100000 in
theorem rholds_ule (wd : Nat) (h1 : 1 ≤ wd) (h2 : wd ≤ 4096) (v0 v1 : Value) (xs ys : List Nat) (hx : val B64 xs < 2 ^ wd) (hy : val B64 ys < 2 ^ wd) (w : World) (s0 : BvA w v0 (wd : Int) xs) (s1 : BvA w v1 (wd : Int) ys)
    (CK : ∀ w1 av, BvLX w1 av [((wd : Int), xs), ((wd : Int), ys)] → Calls Tryz.prog 51 #[.int .i64 69, .slice none 0 0, av, .int .i64 2] w1 fun e w' => e = .returned (.int .i64 0) ∧ Below w1.heap.size w1 w') :
    Calls Tryz.prog 28 #[.int .i64 69, v0, v1] w fun e w' => e = .returned (.tuple #[.bool (decide ((((val B64 xs : Nat) : Int)) ≤ (((val B64 ys : Nat) : Int)))), .int .i64 0]) ∧ Below w.heap.size w w' := by
  have S0 := Lib.hid s0; have S1 := Lib.hid s1
  have UA : Hid (∀ w1, Below w.heap.size w w1 → Calls Tryz.prog 42 #[v0] w1 fun e w' => ResZ9 w1 w' e ((val B64 xs : Nat) : Int)) := Lib.hid (fun w1 hw => (S0.out.below hw).u)
  have UB : Hid (∀ w1, Below w.heap.size w w1 → Calls Tryz.prog 42 #[v1] w1 fun e w' => ResZ9 w1 w' e ((val B64 ys : Nat) : Int)) := Lib.hid (fun w1 hw => (S1.out.below hw).u)
  have CU : Hid (∀ va vb w1, ZV w1 va ((val B64 xs : Nat) : Int) → ZV w1 vb ((val B64 ys : Nat) : Int) → Calls Tryz.prog 59 #[va, vb] w1 fun e w' => e = .returned (.int .i64 (zcmp ((val B64 xs : Nat) : Int) ((val B64 ys : Nat) : Int))) ∧ Below w1.heap.size w1 w') := Lib.hid (fun va vb w1 a b => cmp1_any va vb _ _ w1 a b)
  have SA : Hid (∀ w1, Below w.heap.size w w1 → Calls Tryz.prog 44 #[v0] w1 fun e w' => ResZ9 w1 w' e (sgV wd (val B64 xs))) := Lib.hid (fun w1 hw => (S0.out.below hw).sS h1 h2 hx)
  have SB : Hid (∀ w1, Below w.heap.size w w1 → Calls Tryz.prog 44 #[v1] w1 fun e w' => ResZ9 w1 w' e (sgV wd (val B64 ys))) := Lib.hid (fun w1 hw => (S1.out.below hw).sS h1 h2 hy)
  have CS : Hid (∀ va vb w1, ZV w1 va (sgV wd (val B64 xs)) → ZV w1 vb (sgV wd (val B64 ys)) → Calls Tryz.prog 59 #[va, vb] w1 fun e w' => e = .returned (.int .i64 (zcmp (sgV wd (val B64 xs)) (sgV wd (val B64 ys)))) ∧ Below w1.heap.size w1 w') := Lib.hid (fun va vb w1 a b => cmp1_any va vb _ _ w1 a b)
  have hd : decide (zcmp (((val B64 xs : Nat) : Int)) (((val B64 ys : Nat) : Int)) ≤ 0) = decide ((((val B64 xs : Nat) : Int)) ≤ (((val B64 ys : Nat) : Int))) := by
    rw [decide_eq_decide]
    generalize ((val B64 xs : Nat) : Int) = X
    generalize ((val B64 ys : Nat) : Int) = Y
    unfold zcmp
    (repeat' split) <;> omega
  rw [← hd]
  clear hd
  generalize zcmp ((val B64 xs : Nat) : Int) ((val B64 ys : Nat) : Int) = ou at *
  generalize zcmp (sgV wd (val B64 xs)) (sgV wd (val B64 ys)) = os at *
  generalize ((val B64 xs : Nat) : Int) = ux at *
  generalize ((val B64 ys : Nat) : Int) = uy at *
  generalize sgV wd (val B64 xs) = sx at *
  generalize sgV wd (val B64 ys) = sy at *
  clear h1 h2
  obtain ⟨u1, rfl, t1, -, -⟩ := s0
  obtain ⟨u2, rfl, t2, -, -⟩ := s1
  obtain ⟨a1, c1, rfl⟩ := t1.shape
  obtain ⟨a2, c2, rfl⟩ := t2.shape
  generalize xs.length = k1 at *
  generalize ys.length = k2 at *
  obtain ⟨W, eW, g1, g2, bel, hsz⟩ := alloc2 w (Obj.cells #[.int .i64 (wd : Int), .slice a1 k1 c1] 28) (Obj.cells #[.int .i64 (wd : Int), .slice a2 k2 c2] 28)
  obtain ⟨V, eV, gV, bV, hVs⟩ := alloc1n W (Obj.cells #[.int .i64 (wd : Int), .slice a1 k1 c1, .int .i64 (wd : Int), .slice a2 k2 c2] 28)
  have hw : W.heap.size = w.heap.size + 1 + 1 := by rw [← eW]; simp
  have BV := Lib.hid (below_of bel bV)
  have CC := Lib.hid (CK V _ (bvlx_two gV (S0.out.below BV.out) (S1.out.below BV.out)))
  rw [hw] at CC
  have G1 := Lib.hid (car bV g1); have G2 := Lib.hid (car bV g2)
  obtain ⟨p0, p1, -, -, _⟩ := blk2 g1
  obtain ⟨q0, q1, -, -, _⟩ := blk2 g2
  clear t1 t2 g1 g2 bel gV bV CK
  clear hx hy
  go_enter Tryz.func28, Tryz.ntmps28
  go_wp2_with fail
  try rw [eW]
  try rw [eV]
  refine CC.out.mono ?_
  rintro e X ⟨rfl, hb⟩
  have BX := Lib.hid (below_of BV.out hb)
  have GAu := Lib.hid (car hb G1.out); have GBu := Lib.hid (car hb G2.out)
  clear hb p0 p1 q0 q1
  have STAYu : Hid (∀ w', Below X.heap.size X w' → w'.cell? ⟨w.heap.size, 0, none⟩ = some (.int .i64 (wd : Int)) ∧ w'.cell? ⟨w.heap.size, 1, none⟩ = some (.slice a1 k1 c1) ∧ w'.cell? ⟨w.heap.size + 1, 0, none⟩ = some (.int .i64 (wd : Int)) ∧ w'.cell? ⟨w.heap.size + 1, 1, none⟩ = some (.slice a2 k2 c2)) := Lib.hid (fun w' hb => by
    obtain ⟨e0, e1, -, -, _⟩ := blk2 (car hb GAu.out)
    obtain ⟨e2, e3, -, -, _⟩ := blk2 (car hb GBu.out)
    exact ⟨e0, e1, e2, e3⟩)
  have hku0 := Below.refl X.heap.size X
  go_upto_region 4 with fail
  go_cut [9] (fun s wx => s = .int .i64 ou ∧ Below X.heap.size X wx)
  case first =>
    go_region_held3 (fun w' => w'.cell? ⟨w.heap.size, 0, none⟩ = some (.int .i64 (wd : Int)) ∧ w'.cell? ⟨w.heap.size, 1, none⟩ = some (.slice a1 k1 c1) ∧ w'.cell? ⟨w.heap.size + 1, 0, none⟩ = some (.int .i64 (wd : Int)) ∧ w'.cell? ⟨w.heap.size + 1, 1, none⟩ = some (.slice a2 k2 c2))
      ((refine STAYu.out _ ?_; first | exact hku3 | exact hku3.drew | exact hku2 | exact hku2.drew | exact hku1 | exact hku1.drew | exact hku0 | exact hku0.drew))
      (first
      | (have tk := I2; go_at_call 59; (with_reducible refine Calls.mono (CU.out _ _ _ ?_ ?_) ?_); (first | exact I1.out | exact zv_drew I1.out); (first | exact I2.out | exact zv_drew I2.out); rintro e x3 ⟨rfl, hb3⟩; have hku3 : Below X.heap.size X x3 := (by first | exact below_of hku2 hb3 | exact below_of hku2.drew hb3); clear hb3)
      | (have tk := I1; go_at_call 42; (with_reducible refine Calls.mono (UB.out _ (below_of BX.out (by first | exact hku1 | exact hku1.drew))) ?_); rintro e x2 ⟨n2, b2, l2, d2, rfl, hi2, hb2⟩; have hku2 : Below X.heap.size X x2 := (by first | exact below_of hku1 hb2 | exact below_of hku1.drew hb2); have I2 := Lib.hid hi2; (first | (have I1' := Lib.hid (zv_call hb2 I1.out)) | (have I1' := Lib.hid (zv_call hb2 (zv_drew I1.out)))); clear I1; have I1 := I1'; clear I1' hi2 hb2)
      | (go_at_call 42; (with_reducible refine Calls.mono (UA.out _ (below_of BX.out (by first | exact hku0 | exact hku0.drew))) ?_); rintro e x1 ⟨n1, b1, l1, d1, rfl, hi1, hb1⟩; have hku1 : Below X.heap.size X x1 := (by first | exact below_of hku0 hb1 | exact below_of hku0.drew hb1); have I1 := Lib.hid hi1; clear hi1 hb1))
    all_goals
      go_wp2_with fail
      go_meet
      exact ⟨rfl, by first | exact hku3 | exact hku3.drew⟩
  case rest =>
  obtain ⟨rfl, hb⟩ := hcut
  generalize wc = Y at *
  have BY := Lib.hid (below_of BX.out hb)
  have GAs := Lib.hid (car hb GAu.out); have GBs := Lib.hid (car hb GBu.out)
  clear hb STAYu hku0
  go_wp2
  go_ret2
  exact ⟨rfl, BY.out⟩
set_option maxHeartbeats 16000000 in
set_option maxRecDepth 100000 in
theorem rholds_ugt (wd : Nat) (h1 : 1 ≤ wd) (h2 : wd ≤ 4096) (v0 v1 : Value) (xs ys : List Nat) (hx : val B64 xs < 2 ^ wd) (hy : val B64 ys < 2 ^ wd) (w : World) (s0 : BvA w v0 (wd : Int) xs) (s1 : BvA w v1 (wd : Int) ys)
    (CK : ∀ w1 av, BvLX w1 av [((wd : Int), xs), ((wd : Int), ys)] → Calls Tryz.prog 51 #[.int .i64 70, .slice none 0 0, av, .int .i64 2] w1 fun e w' => e = .returned (.int .i64 0) ∧ Below w1.heap.size w1 w') :
    Calls Tryz.prog 28 #[.int .i64 70, v0, v1] w fun e w' => e = .returned (.tuple #[.bool (decide ((((val B64 ys : Nat) : Int)) < (((val B64 xs : Nat) : Int)))), .int .i64 0]) ∧ Below w.heap.size w w' := by
  have S0 := Lib.hid s0; have S1 := Lib.hid s1
  have UA : Hid (∀ w1, Below w.heap.size w w1 → Calls Tryz.prog 42 #[v0] w1 fun e w' => ResZ9 w1 w' e ((val B64 xs : Nat) : Int)) := Lib.hid (fun w1 hw => (S0.out.below hw).u)
  have UB : Hid (∀ w1, Below w.heap.size w w1 → Calls Tryz.prog 42 #[v1] w1 fun e w' => ResZ9 w1 w' e ((val B64 ys : Nat) : Int)) := Lib.hid (fun w1 hw => (S1.out.below hw).u)
  have CU : Hid (∀ va vb w1, ZV w1 va ((val B64 xs : Nat) : Int) → ZV w1 vb ((val B64 ys : Nat) : Int) → Calls Tryz.prog 59 #[va, vb] w1 fun e w' => e = .returned (.int .i64 (zcmp ((val B64 xs : Nat) : Int) ((val B64 ys : Nat) : Int))) ∧ Below w1.heap.size w1 w') := Lib.hid (fun va vb w1 a b => cmp1_any va vb _ _ w1 a b)
  have SA : Hid (∀ w1, Below w.heap.size w w1 → Calls Tryz.prog 44 #[v0] w1 fun e w' => ResZ9 w1 w' e (sgV wd (val B64 xs))) := Lib.hid (fun w1 hw => (S0.out.below hw).sS h1 h2 hx)
  have SB : Hid (∀ w1, Below w.heap.size w w1 → Calls Tryz.prog 44 #[v1] w1 fun e w' => ResZ9 w1 w' e (sgV wd (val B64 ys))) := Lib.hid (fun w1 hw => (S1.out.below hw).sS h1 h2 hy)
  have CS : Hid (∀ va vb w1, ZV w1 va (sgV wd (val B64 xs)) → ZV w1 vb (sgV wd (val B64 ys)) → Calls Tryz.prog 59 #[va, vb] w1 fun e w' => e = .returned (.int .i64 (zcmp (sgV wd (val B64 xs)) (sgV wd (val B64 ys)))) ∧ Below w1.heap.size w1 w') := Lib.hid (fun va vb w1 a b => cmp1_any va vb _ _ w1 a b)
  have hd : decide (0 < zcmp (((val B64 xs : Nat) : Int)) (((val B64 ys : Nat) : Int))) = decide ((((val B64 ys : Nat) : Int)) < (((val B64 xs : Nat) : Int))) := by
    rw [decide_eq_decide]
    generalize ((val B64 xs : Nat) : Int) = X
    generalize ((val B64 ys : Nat) : Int) = Y
    unfold zcmp
    (repeat' split) <;> omega
  rw [← hd]
  clear hd
  generalize zcmp ((val B64 xs : Nat) : Int) ((val B64 ys : Nat) : Int) = ou at *
  generalize zcmp (sgV wd (val B64 xs)) (sgV wd (val B64 ys)) = os at *
  generalize ((val B64 xs : Nat) : Int) = ux at *
  generalize ((val B64 ys : Nat) : Int) = uy at *
  generalize sgV wd (val B64 xs) = sx at *
  generalize sgV wd (val B64 ys) = sy at *
  clear h1 h2
  obtain ⟨u1, rfl, t1, -, -⟩ := s0
  obtain ⟨u2, rfl, t2, -, -⟩ := s1
  obtain ⟨a1, c1, rfl⟩ := t1.shape
  obtain ⟨a2, c2, rfl⟩ := t2.shape
  generalize xs.length = k1 at *
  generalize ys.length = k2 at *
  obtain ⟨W, eW, g1, g2, bel, hsz⟩ := alloc2 w (Obj.cells #[.int .i64 (wd : Int), .slice a1 k1 c1] 28) (Obj.cells #[.int .i64 (wd : Int), .slice a2 k2 c2] 28)
  obtain ⟨V, eV, gV, bV, hVs⟩ := alloc1n W (Obj.cells #[.int .i64 (wd : Int), .slice a1 k1 c1, .int .i64 (wd : Int), .slice a2 k2 c2] 28)
  have hw : W.heap.size = w.heap.size + 1 + 1 := by rw [← eW]; simp
  have BV := Lib.hid (below_of bel bV)
  have CC := Lib.hid (CK V _ (bvlx_two gV (S0.out.below BV.out) (S1.out.below BV.out)))
  rw [hw] at CC
  have G1 := Lib.hid (car bV g1); have G2 := Lib.hid (car bV g2)
  obtain ⟨p0, p1, -, -, _⟩ := blk2 g1
  obtain ⟨q0, q1, -, -, _⟩ := blk2 g2
  clear t1 t2 g1 g2 bel gV bV CK
  clear hx hy
  go_enter Tryz.func28, Tryz.ntmps28
  go_wp2_with fail
  try rw [eW]
  try rw [eV]
  refine CC.out.mono ?_
  rintro e X ⟨rfl, hb⟩
  have BX := Lib.hid (below_of BV.out hb)
  have GAu := Lib.hid (car hb G1.out); have GBu := Lib.hid (car hb G2.out)
  clear hb p0 p1 q0 q1
  have STAYu : Hid (∀ w', Below X.heap.size X w' → w'.cell? ⟨w.heap.size, 0, none⟩ = some (.int .i64 (wd : Int)) ∧ w'.cell? ⟨w.heap.size, 1, none⟩ = some (.slice a1 k1 c1) ∧ w'.cell? ⟨w.heap.size + 1, 0, none⟩ = some (.int .i64 (wd : Int)) ∧ w'.cell? ⟨w.heap.size + 1, 1, none⟩ = some (.slice a2 k2 c2)) := Lib.hid (fun w' hb => by
    obtain ⟨e0, e1, -, -, _⟩ := blk2 (car hb GAu.out)
    obtain ⟨e2, e3, -, -, _⟩ := blk2 (car hb GBu.out)
    exact ⟨e0, e1, e2, e3⟩)
  have hku0 := Below.refl X.heap.size X
  go_upto_region 4 with fail
  go_cut [9] (fun s wx => s = .int .i64 ou ∧ Below X.heap.size X wx)
  case first =>
    go_region_held3 (fun w' => w'.cell? ⟨w.heap.size, 0, none⟩ = some (.int .i64 (wd : Int)) ∧ w'.cell? ⟨w.heap.size, 1, none⟩ = some (.slice a1 k1 c1) ∧ w'.cell? ⟨w.heap.size + 1, 0, none⟩ = some (.int .i64 (wd : Int)) ∧ w'.cell? ⟨w.heap.size + 1, 1, none⟩ = some (.slice a2 k2 c2))
      ((refine STAYu.out _ ?_; first | exact hku3 | exact hku3.drew | exact hku2 | exact hku2.drew | exact hku1 | exact hku1.drew | exact hku0 | exact hku0.drew))
      (first
      | (have tk := I2; go_at_call 59; (with_reducible refine Calls.mono (CU.out _ _ _ ?_ ?_) ?_); (first | exact I1.out | exact zv_drew I1.out); (first | exact I2.out | exact zv_drew I2.out); rintro e x3 ⟨rfl, hb3⟩; have hku3 : Below X.heap.size X x3 := (by first | exact below_of hku2 hb3 | exact below_of hku2.drew hb3); clear hb3)
      | (have tk := I1; go_at_call 42; (with_reducible refine Calls.mono (UB.out _ (below_of BX.out (by first | exact hku1 | exact hku1.drew))) ?_); rintro e x2 ⟨n2, b2, l2, d2, rfl, hi2, hb2⟩; have hku2 : Below X.heap.size X x2 := (by first | exact below_of hku1 hb2 | exact below_of hku1.drew hb2); have I2 := Lib.hid hi2; (first | (have I1' := Lib.hid (zv_call hb2 I1.out)) | (have I1' := Lib.hid (zv_call hb2 (zv_drew I1.out)))); clear I1; have I1 := I1'; clear I1' hi2 hb2)
      | (go_at_call 42; (with_reducible refine Calls.mono (UA.out _ (below_of BX.out (by first | exact hku0 | exact hku0.drew))) ?_); rintro e x1 ⟨n1, b1, l1, d1, rfl, hi1, hb1⟩; have hku1 : Below X.heap.size X x1 := (by first | exact below_of hku0 hb1 | exact below_of hku0.drew hb1); have I1 := Lib.hid hi1; clear hi1 hb1))
    all_goals
      go_wp2_with fail
      go_meet
      exact ⟨rfl, by first | exact hku3 | exact hku3.drew⟩
  case rest =>
  obtain ⟨rfl, hb⟩ := hcut
  generalize wc = Y at *
  have BY := Lib.hid (below_of BX.out hb)
  have GAs := Lib.hid (car hb GAu.out); have GBs := Lib.hid (car hb GBu.out)
  clear hb STAYu hku0
  go_wp2
  go_ret2
  exact ⟨rfl, BY.out⟩
set_option maxHeartbeats 16000000 in
set_option maxRecDepth 100000 in
theorem rholds_uge (wd : Nat) (h1 : 1 ≤ wd) (h2 : wd ≤ 4096) (v0 v1 : Value) (xs ys : List Nat) (hx : val B64 xs < 2 ^ wd) (hy : val B64 ys < 2 ^ wd) (w : World) (s0 : BvA w v0 (wd : Int) xs) (s1 : BvA w v1 (wd : Int) ys)
    (CK : ∀ w1 av, BvLX w1 av [((wd : Int), xs), ((wd : Int), ys)] → Calls Tryz.prog 51 #[.int .i64 71, .slice none 0 0, av, .int .i64 2] w1 fun e w' => e = .returned (.int .i64 0) ∧ Below w1.heap.size w1 w') :
    Calls Tryz.prog 28 #[.int .i64 71, v0, v1] w fun e w' => e = .returned (.tuple #[.bool (decide ((((val B64 ys : Nat) : Int)) ≤ (((val B64 xs : Nat) : Int)))), .int .i64 0]) ∧ Below w.heap.size w w' := by
  have S0 := Lib.hid s0; have S1 := Lib.hid s1
  have UA : Hid (∀ w1, Below w.heap.size w w1 → Calls Tryz.prog 42 #[v0] w1 fun e w' => ResZ9 w1 w' e ((val B64 xs : Nat) : Int)) := Lib.hid (fun w1 hw => (S0.out.below hw).u)
  have UB : Hid (∀ w1, Below w.heap.size w w1 → Calls Tryz.prog 42 #[v1] w1 fun e w' => ResZ9 w1 w' e ((val B64 ys : Nat) : Int)) := Lib.hid (fun w1 hw => (S1.out.below hw).u)
  have CU : Hid (∀ va vb w1, ZV w1 va ((val B64 xs : Nat) : Int) → ZV w1 vb ((val B64 ys : Nat) : Int) → Calls Tryz.prog 59 #[va, vb] w1 fun e w' => e = .returned (.int .i64 (zcmp ((val B64 xs : Nat) : Int) ((val B64 ys : Nat) : Int))) ∧ Below w1.heap.size w1 w') := Lib.hid (fun va vb w1 a b => cmp1_any va vb _ _ w1 a b)
  have SA : Hid (∀ w1, Below w.heap.size w w1 → Calls Tryz.prog 44 #[v0] w1 fun e w' => ResZ9 w1 w' e (sgV wd (val B64 xs))) := Lib.hid (fun w1 hw => (S0.out.below hw).sS h1 h2 hx)
  have SB : Hid (∀ w1, Below w.heap.size w w1 → Calls Tryz.prog 44 #[v1] w1 fun e w' => ResZ9 w1 w' e (sgV wd (val B64 ys))) := Lib.hid (fun w1 hw => (S1.out.below hw).sS h1 h2 hy)
  have CS : Hid (∀ va vb w1, ZV w1 va (sgV wd (val B64 xs)) → ZV w1 vb (sgV wd (val B64 ys)) → Calls Tryz.prog 59 #[va, vb] w1 fun e w' => e = .returned (.int .i64 (zcmp (sgV wd (val B64 xs)) (sgV wd (val B64 ys)))) ∧ Below w1.heap.size w1 w') := Lib.hid (fun va vb w1 a b => cmp1_any va vb _ _ w1 a b)
  have hd : decide (0 ≤ zcmp (((val B64 xs : Nat) : Int)) (((val B64 ys : Nat) : Int))) = decide ((((val B64 ys : Nat) : Int)) ≤ (((val B64 xs : Nat) : Int))) := by
    rw [decide_eq_decide]
    generalize ((val B64 xs : Nat) : Int) = X
    generalize ((val B64 ys : Nat) : Int) = Y
    unfold zcmp
    (repeat' split) <;> omega
  rw [← hd]
  clear hd
  generalize zcmp ((val B64 xs : Nat) : Int) ((val B64 ys : Nat) : Int) = ou at *
  generalize zcmp (sgV wd (val B64 xs)) (sgV wd (val B64 ys)) = os at *
  generalize ((val B64 xs : Nat) : Int) = ux at *
  generalize ((val B64 ys : Nat) : Int) = uy at *
  generalize sgV wd (val B64 xs) = sx at *
  generalize sgV wd (val B64 ys) = sy at *
  clear h1 h2
  obtain ⟨u1, rfl, t1, -, -⟩ := s0
  obtain ⟨u2, rfl, t2, -, -⟩ := s1
  obtain ⟨a1, c1, rfl⟩ := t1.shape
  obtain ⟨a2, c2, rfl⟩ := t2.shape
  generalize xs.length = k1 at *
  generalize ys.length = k2 at *
  obtain ⟨W, eW, g1, g2, bel, hsz⟩ := alloc2 w (Obj.cells #[.int .i64 (wd : Int), .slice a1 k1 c1] 28) (Obj.cells #[.int .i64 (wd : Int), .slice a2 k2 c2] 28)
  obtain ⟨V, eV, gV, bV, hVs⟩ := alloc1n W (Obj.cells #[.int .i64 (wd : Int), .slice a1 k1 c1, .int .i64 (wd : Int), .slice a2 k2 c2] 28)
  have hw : W.heap.size = w.heap.size + 1 + 1 := by rw [← eW]; simp
  have BV := Lib.hid (below_of bel bV)
  have CC := Lib.hid (CK V _ (bvlx_two gV (S0.out.below BV.out) (S1.out.below BV.out)))
  rw [hw] at CC
  have G1 := Lib.hid (car bV g1); have G2 := Lib.hid (car bV g2)
  obtain ⟨p0, p1, -, -, _⟩ := blk2 g1
  obtain ⟨q0, q1, -, -, _⟩ := blk2 g2
  clear t1 t2 g1 g2 bel gV bV CK
  clear hx hy
  go_enter Tryz.func28, Tryz.ntmps28
  go_wp2_with fail
  try rw [eW]
  try rw [eV]
  refine CC.out.mono ?_
  rintro e X ⟨rfl, hb⟩
  have BX := Lib.hid (below_of BV.out hb)
  have GAu := Lib.hid (car hb G1.out); have GBu := Lib.hid (car hb G2.out)
  clear hb p0 p1 q0 q1
  have STAYu : Hid (∀ w', Below X.heap.size X w' → w'.cell? ⟨w.heap.size, 0, none⟩ = some (.int .i64 (wd : Int)) ∧ w'.cell? ⟨w.heap.size, 1, none⟩ = some (.slice a1 k1 c1) ∧ w'.cell? ⟨w.heap.size + 1, 0, none⟩ = some (.int .i64 (wd : Int)) ∧ w'.cell? ⟨w.heap.size + 1, 1, none⟩ = some (.slice a2 k2 c2)) := Lib.hid (fun w' hb => by
    obtain ⟨e0, e1, -, -, _⟩ := blk2 (car hb GAu.out)
    obtain ⟨e2, e3, -, -, _⟩ := blk2 (car hb GBu.out)
    exact ⟨e0, e1, e2, e3⟩)
  have hku0 := Below.refl X.heap.size X
  go_upto_region 4 with fail
  go_cut [9] (fun s wx => s = .int .i64 ou ∧ Below X.heap.size X wx)
  case first =>
    go_region_held3 (fun w' => w'.cell? ⟨w.heap.size, 0, none⟩ = some (.int .i64 (wd : Int)) ∧ w'.cell? ⟨w.heap.size, 1, none⟩ = some (.slice a1 k1 c1) ∧ w'.cell? ⟨w.heap.size + 1, 0, none⟩ = some (.int .i64 (wd : Int)) ∧ w'.cell? ⟨w.heap.size + 1, 1, none⟩ = some (.slice a2 k2 c2))
      ((refine STAYu.out _ ?_; first | exact hku3 | exact hku3.drew | exact hku2 | exact hku2.drew | exact hku1 | exact hku1.drew | exact hku0 | exact hku0.drew))
      (first
      | (have tk := I2; go_at_call 59; (with_reducible refine Calls.mono (CU.out _ _ _ ?_ ?_) ?_); (first | exact I1.out | exact zv_drew I1.out); (first | exact I2.out | exact zv_drew I2.out); rintro e x3 ⟨rfl, hb3⟩; have hku3 : Below X.heap.size X x3 := (by first | exact below_of hku2 hb3 | exact below_of hku2.drew hb3); clear hb3)
      | (have tk := I1; go_at_call 42; (with_reducible refine Calls.mono (UB.out _ (below_of BX.out (by first | exact hku1 | exact hku1.drew))) ?_); rintro e x2 ⟨n2, b2, l2, d2, rfl, hi2, hb2⟩; have hku2 : Below X.heap.size X x2 := (by first | exact below_of hku1 hb2 | exact below_of hku1.drew hb2); have I2 := Lib.hid hi2; (first | (have I1' := Lib.hid (zv_call hb2 I1.out)) | (have I1' := Lib.hid (zv_call hb2 (zv_drew I1.out)))); clear I1; have I1 := I1'; clear I1' hi2 hb2)
      | (go_at_call 42; (with_reducible refine Calls.mono (UA.out _ (below_of BX.out (by first | exact hku0 | exact hku0.drew))) ?_); rintro e x1 ⟨n1, b1, l1, d1, rfl, hi1, hb1⟩; have hku1 : Below X.heap.size X x1 := (by first | exact below_of hku0 hb1 | exact below_of hku0.drew hb1); have I1 := Lib.hid hi1; clear hi1 hb1))
    all_goals
      go_wp2_with fail
      go_meet
      exact ⟨rfl, by first | exact hku3 | exact hku3.drew⟩
  case rest =>
  obtain ⟨rfl, hb⟩ := hcut
  generalize wc = Y at *
  have BY := Lib.hid (below_of BX.out hb)
  have GAs := Lib.hid (car hb GAu.out); have GBs := Lib.hid (car hb GBu.out)
  clear hb STAYu hku0
  go_wp2
  go_ret2
  exact ⟨rfl, BY.out⟩
set_option maxHeartbeats 16000000 in
set_option maxRecDepth 100000 in
theorem rholds_slt (wd : Nat) (h1 : 1 ≤ wd) (h2 : wd ≤ 4096) (v0 v1 : Value) (xs ys : List Nat) (hx : val B64 xs < 2 ^ wd) (hy : val B64 ys < 2 ^ wd) (w : World) (s0 : BvA w v0 (wd : Int) xs) (s1 : BvA w v1 (wd : Int) ys)
    (CK : ∀ w1 av, BvLX w1 av [((wd : Int), xs), ((wd : Int), ys)] → Calls Tryz.prog 51 #[.int .i64 72, .slice none 0 0, av, .int .i64 2] w1 fun e w' => e = .returned (.int .i64 0) ∧ Below w1.heap.size w1 w') :
    Calls Tryz.prog 28 #[.int .i64 72, v0, v1] w fun e w' => e = .returned (.tuple #[.bool (decide ((sgV wd (val B64 xs)) < (sgV wd (val B64 ys)))), .int .i64 0]) ∧ Below w.heap.size w w' := by
  have S0 := Lib.hid s0; have S1 := Lib.hid s1
  have UA : Hid (∀ w1, Below w.heap.size w w1 → Calls Tryz.prog 42 #[v0] w1 fun e w' => ResZ9 w1 w' e ((val B64 xs : Nat) : Int)) := Lib.hid (fun w1 hw => (S0.out.below hw).u)
  have UB : Hid (∀ w1, Below w.heap.size w w1 → Calls Tryz.prog 42 #[v1] w1 fun e w' => ResZ9 w1 w' e ((val B64 ys : Nat) : Int)) := Lib.hid (fun w1 hw => (S1.out.below hw).u)
  have CU : Hid (∀ va vb w1, ZV w1 va ((val B64 xs : Nat) : Int) → ZV w1 vb ((val B64 ys : Nat) : Int) → Calls Tryz.prog 59 #[va, vb] w1 fun e w' => e = .returned (.int .i64 (zcmp ((val B64 xs : Nat) : Int) ((val B64 ys : Nat) : Int))) ∧ Below w1.heap.size w1 w') := Lib.hid (fun va vb w1 a b => cmp1_any va vb _ _ w1 a b)
  have SA : Hid (∀ w1, Below w.heap.size w w1 → Calls Tryz.prog 44 #[v0] w1 fun e w' => ResZ9 w1 w' e (sgV wd (val B64 xs))) := Lib.hid (fun w1 hw => (S0.out.below hw).sS h1 h2 hx)
  have SB : Hid (∀ w1, Below w.heap.size w w1 → Calls Tryz.prog 44 #[v1] w1 fun e w' => ResZ9 w1 w' e (sgV wd (val B64 ys))) := Lib.hid (fun w1 hw => (S1.out.below hw).sS h1 h2 hy)
  have CS : Hid (∀ va vb w1, ZV w1 va (sgV wd (val B64 xs)) → ZV w1 vb (sgV wd (val B64 ys)) → Calls Tryz.prog 59 #[va, vb] w1 fun e w' => e = .returned (.int .i64 (zcmp (sgV wd (val B64 xs)) (sgV wd (val B64 ys)))) ∧ Below w1.heap.size w1 w') := Lib.hid (fun va vb w1 a b => cmp1_any va vb _ _ w1 a b)
  have hd : decide (zcmp (sgV wd (val B64 xs)) (sgV wd (val B64 ys)) < 0) = decide ((sgV wd (val B64 xs)) < (sgV wd (val B64 ys))) := by
    rw [decide_eq_decide]
    generalize sgV wd (val B64 xs) = X
    generalize sgV wd (val B64 ys) = Y
    unfold zcmp
    (repeat' split) <;> omega
  rw [← hd]
  clear hd
  generalize zcmp ((val B64 xs : Nat) : Int) ((val B64 ys : Nat) : Int) = ou at *
  generalize zcmp (sgV wd (val B64 xs)) (sgV wd (val B64 ys)) = os at *
  generalize ((val B64 xs : Nat) : Int) = ux at *
  generalize ((val B64 ys : Nat) : Int) = uy at *
  generalize sgV wd (val B64 xs) = sx at *
  generalize sgV wd (val B64 ys) = sy at *
  clear h1 h2
  obtain ⟨u1, rfl, t1, -, -⟩ := s0
  obtain ⟨u2, rfl, t2, -, -⟩ := s1
  obtain ⟨a1, c1, rfl⟩ := t1.shape
  obtain ⟨a2, c2, rfl⟩ := t2.shape
  generalize xs.length = k1 at *
  generalize ys.length = k2 at *
  obtain ⟨W, eW, g1, g2, bel, hsz⟩ := alloc2 w (Obj.cells #[.int .i64 (wd : Int), .slice a1 k1 c1] 28) (Obj.cells #[.int .i64 (wd : Int), .slice a2 k2 c2] 28)
  obtain ⟨V, eV, gV, bV, hVs⟩ := alloc1n W (Obj.cells #[.int .i64 (wd : Int), .slice a1 k1 c1, .int .i64 (wd : Int), .slice a2 k2 c2] 28)
  have hw : W.heap.size = w.heap.size + 1 + 1 := by rw [← eW]; simp
  have BV := Lib.hid (below_of bel bV)
  have CC := Lib.hid (CK V _ (bvlx_two gV (S0.out.below BV.out) (S1.out.below BV.out)))
  rw [hw] at CC
  have G1 := Lib.hid (car bV g1); have G2 := Lib.hid (car bV g2)
  obtain ⟨p0, p1, -, -, _⟩ := blk2 g1
  obtain ⟨q0, q1, -, -, _⟩ := blk2 g2
  clear t1 t2 g1 g2 bel gV bV CK
  clear hx hy
  go_enter Tryz.func28, Tryz.ntmps28
  go_wp2_with fail
  try rw [eW]
  try rw [eV]
  refine CC.out.mono ?_
  rintro e X ⟨rfl, hb⟩
  have BX := Lib.hid (below_of BV.out hb)
  have GAu := Lib.hid (car hb G1.out); have GBu := Lib.hid (car hb G2.out)
  clear hb p0 p1 q0 q1
  have STAYu : Hid (∀ w', Below X.heap.size X w' → w'.cell? ⟨w.heap.size, 0, none⟩ = some (.int .i64 (wd : Int)) ∧ w'.cell? ⟨w.heap.size, 1, none⟩ = some (.slice a1 k1 c1) ∧ w'.cell? ⟨w.heap.size + 1, 0, none⟩ = some (.int .i64 (wd : Int)) ∧ w'.cell? ⟨w.heap.size + 1, 1, none⟩ = some (.slice a2 k2 c2)) := Lib.hid (fun w' hb => by
    obtain ⟨e0, e1, -, -, _⟩ := blk2 (car hb GAu.out)
    obtain ⟨e2, e3, -, -, _⟩ := blk2 (car hb GBu.out)
    exact ⟨e0, e1, e2, e3⟩)
  have hku0 := Below.refl X.heap.size X
  go_upto_region 4 with fail
  go_cut [9] (fun s wx => s = .int .i64 ou ∧ Below X.heap.size X wx)
  case first =>
    go_region_held3 (fun w' => w'.cell? ⟨w.heap.size, 0, none⟩ = some (.int .i64 (wd : Int)) ∧ w'.cell? ⟨w.heap.size, 1, none⟩ = some (.slice a1 k1 c1) ∧ w'.cell? ⟨w.heap.size + 1, 0, none⟩ = some (.int .i64 (wd : Int)) ∧ w'.cell? ⟨w.heap.size + 1, 1, none⟩ = some (.slice a2 k2 c2))
      ((refine STAYu.out _ ?_; first | exact hku3 | exact hku3.drew | exact hku2 | exact hku2.drew | exact hku1 | exact hku1.drew | exact hku0 | exact hku0.drew))
      (first
      | (have tk := I2; go_at_call 59; (with_reducible refine Calls.mono (CU.out _ _ _ ?_ ?_) ?_); (first | exact I1.out | exact zv_drew I1.out); (first | exact I2.out | exact zv_drew I2.out); rintro e x3 ⟨rfl, hb3⟩; have hku3 : Below X.heap.size X x3 := (by first | exact below_of hku2 hb3 | exact below_of hku2.drew hb3); clear hb3)
      | (have tk := I1; go_at_call 42; (with_reducible refine Calls.mono (UB.out _ (below_of BX.out (by first | exact hku1 | exact hku1.drew))) ?_); rintro e x2 ⟨n2, b2, l2, d2, rfl, hi2, hb2⟩; have hku2 : Below X.heap.size X x2 := (by first | exact below_of hku1 hb2 | exact below_of hku1.drew hb2); have I2 := Lib.hid hi2; (first | (have I1' := Lib.hid (zv_call hb2 I1.out)) | (have I1' := Lib.hid (zv_call hb2 (zv_drew I1.out)))); clear I1; have I1 := I1'; clear I1' hi2 hb2)
      | (go_at_call 42; (with_reducible refine Calls.mono (UA.out _ (below_of BX.out (by first | exact hku0 | exact hku0.drew))) ?_); rintro e x1 ⟨n1, b1, l1, d1, rfl, hi1, hb1⟩; have hku1 : Below X.heap.size X x1 := (by first | exact below_of hku0 hb1 | exact below_of hku0.drew hb1); have I1 := Lib.hid hi1; clear hi1 hb1))
    all_goals
      go_wp2_with fail
      go_meet
      exact ⟨rfl, by first | exact hku3 | exact hku3.drew⟩
  case rest =>
  obtain ⟨rfl, hb⟩ := hcut
  generalize wc = Y at *
  have BY := Lib.hid (below_of BX.out hb)
  have GAs := Lib.hid (car hb GAu.out); have GBs := Lib.hid (car hb GBu.out)
  clear hb STAYu hku0
  have STAYs : Hid (∀ w', Below Y.heap.size Y w' → w'.cell? ⟨w.heap.size, 0, none⟩ = some (.int .i64 (wd : Int)) ∧ w'.cell? ⟨w.heap.size, 1, none⟩ = some (.slice a1 k1 c1) ∧ w'.cell? ⟨w.heap.size + 1, 0, none⟩ = some (.int .i64 (wd : Int)) ∧ w'.cell? ⟨w.heap.size + 1, 1, none⟩ = some (.slice a2 k2 c2)) := Lib.hid (fun w' hb => by
    obtain ⟨e0, e1, -, -, _⟩ := blk2 (car hb GAs.out)
    obtain ⟨e2, e3, -, -, _⟩ := blk2 (car hb GBs.out)
    exact ⟨e0, e1, e2, e3⟩)
  have hks0 := Below.refl Y.heap.size Y
  go_upto_region 6 with fail
  go_cut [9] (fun s wx => s = .int .i64 os ∧ Below Y.heap.size Y wx)
  case first =>
    go_region_held3 (fun w' => w'.cell? ⟨w.heap.size, 0, none⟩ = some (.int .i64 (wd : Int)) ∧ w'.cell? ⟨w.heap.size, 1, none⟩ = some (.slice a1 k1 c1) ∧ w'.cell? ⟨w.heap.size + 1, 0, none⟩ = some (.int .i64 (wd : Int)) ∧ w'.cell? ⟨w.heap.size + 1, 1, none⟩ = some (.slice a2 k2 c2))
      ((refine STAYs.out _ ?_; first | exact hks3 | exact hks3.drew | exact hks2 | exact hks2.drew | exact hks1 | exact hks1.drew | exact hks0 | exact hks0.drew))
      (first
      | (have tk := I2; go_at_call 59; (with_reducible refine Calls.mono (CS.out _ _ _ ?_ ?_) ?_); (first | exact I1.out | exact zv_drew I1.out); (first | exact I2.out | exact zv_drew I2.out); rintro e x3 ⟨rfl, hb3⟩; have hks3 : Below Y.heap.size Y x3 := (by first | exact below_of hks2 hb3 | exact below_of hks2.drew hb3); clear hb3)
      | (have tk := I1; go_at_call 44; (with_reducible refine Calls.mono (SB.out _ (below_of BY.out (by first | exact hks1 | exact hks1.drew))) ?_); rintro e x2 ⟨n2, b2, l2, d2, rfl, hi2, hb2⟩; have hks2 : Below Y.heap.size Y x2 := (by first | exact below_of hks1 hb2 | exact below_of hks1.drew hb2); have I2 := Lib.hid hi2; (first | (have I1' := Lib.hid (zv_call hb2 I1.out)) | (have I1' := Lib.hid (zv_call hb2 (zv_drew I1.out)))); clear I1; have I1 := I1'; clear I1' hi2 hb2)
      | (go_at_call 44; (with_reducible refine Calls.mono (SA.out _ (below_of BY.out (by first | exact hks0 | exact hks0.drew))) ?_); rintro e x1 ⟨n1, b1, l1, d1, rfl, hi1, hb1⟩; have hks1 : Below Y.heap.size Y x1 := (by first | exact below_of hks0 hb1 | exact below_of hks0.drew hb1); have I1 := Lib.hid hi1; clear hi1 hb1))
    all_goals
      go_wp2_with fail
      go_meet
      exact ⟨rfl, by first | exact hks3 | exact hks3.drew⟩
  case rest =>
  obtain ⟨rfl, hb⟩ := hcut
  generalize wc = Z at *
  have BZ := Lib.hid (below_of BY.out hb)
  clear hb STAYs hks0
  go_wp2
  go_ret2
  exact ⟨rfl, BZ.out⟩
set_option maxHeartbeats 16000000 in
set_option maxRecDepth 100000 in
theorem rholds_sle (wd : Nat) (h1 : 1 ≤ wd) (h2 : wd ≤ 4096) (v0 v1 : Value) (xs ys : List Nat) (hx : val B64 xs < 2 ^ wd) (hy : val B64 ys < 2 ^ wd) (w : World) (s0 : BvA w v0 (wd : Int) xs) (s1 : BvA w v1 (wd : Int) ys)
    (CK : ∀ w1 av, BvLX w1 av [((wd : Int), xs), ((wd : Int), ys)] → Calls Tryz.prog 51 #[.int .i64 73, .slice none 0 0, av, .int .i64 2] w1 fun e w' => e = .returned (.int .i64 0) ∧ Below w1.heap.size w1 w') :
    Calls Tryz.prog 28 #[.int .i64 73, v0, v1] w fun e w' => e = .returned (.tuple #[.bool (decide ((sgV wd (val B64 xs)) ≤ (sgV wd (val B64 ys)))), .int .i64 0]) ∧ Below w.heap.size w w' := by
  have S0 := Lib.hid s0; have S1 := Lib.hid s1
  have UA : Hid (∀ w1, Below w.heap.size w w1 → Calls Tryz.prog 42 #[v0] w1 fun e w' => ResZ9 w1 w' e ((val B64 xs : Nat) : Int)) := Lib.hid (fun w1 hw => (S0.out.below hw).u)
  have UB : Hid (∀ w1, Below w.heap.size w w1 → Calls Tryz.prog 42 #[v1] w1 fun e w' => ResZ9 w1 w' e ((val B64 ys : Nat) : Int)) := Lib.hid (fun w1 hw => (S1.out.below hw).u)
  have CU : Hid (∀ va vb w1, ZV w1 va ((val B64 xs : Nat) : Int) → ZV w1 vb ((val B64 ys : Nat) : Int) → Calls Tryz.prog 59 #[va, vb] w1 fun e w' => e = .returned (.int .i64 (zcmp ((val B64 xs : Nat) : Int) ((val B64 ys : Nat) : Int))) ∧ Below w1.heap.size w1 w') := Lib.hid (fun va vb w1 a b => cmp1_any va vb _ _ w1 a b)
  have SA : Hid (∀ w1, Below w.heap.size w w1 → Calls Tryz.prog 44 #[v0] w1 fun e w' => ResZ9 w1 w' e (sgV wd (val B64 xs))) := Lib.hid (fun w1 hw => (S0.out.below hw).sS h1 h2 hx)
  have SB : Hid (∀ w1, Below w.heap.size w w1 → Calls Tryz.prog 44 #[v1] w1 fun e w' => ResZ9 w1 w' e (sgV wd (val B64 ys))) := Lib.hid (fun w1 hw => (S1.out.below hw).sS h1 h2 hy)
  have CS : Hid (∀ va vb w1, ZV w1 va (sgV wd (val B64 xs)) → ZV w1 vb (sgV wd (val B64 ys)) → Calls Tryz.prog 59 #[va, vb] w1 fun e w' => e = .returned (.int .i64 (zcmp (sgV wd (val B64 xs)) (sgV wd (val B64 ys)))) ∧ Below w1.heap.size w1 w') := Lib.hid (fun va vb w1 a b => cmp1_any va vb _ _ w1 a b)
  have hd : decide (zcmp (sgV wd (val B64 xs)) (sgV wd (val B64 ys)) ≤ 0) = decide ((sgV wd (val B64 xs)) ≤ (sgV wd (val B64 ys))) := by
    rw [decide_eq_decide]
    generalize sgV wd (val B64 xs) = X
    generalize sgV wd (val B64 ys) = Y
    unfold zcmp
    (repeat' split) <;> omega
  rw [← hd]
  clear hd
  generalize zcmp ((val B64 xs : Nat) : Int) ((val B64 ys : Nat) : Int) = ou at *
  generalize zcmp (sgV wd (val B64 xs)) (sgV wd (val B64 ys)) = os at *
  generalize ((val B64 xs : Nat) : Int) = ux at *
  generalize ((val B64 ys : Nat) : Int) = uy at *
  generalize sgV wd (val B64 xs) = sx at *
  generalize sgV wd (val B64 ys) = sy at *
  clear h1 h2
  obtain ⟨u1, rfl, t1, -, -⟩ := s0
  obtain ⟨u2, rfl, t2, -, -⟩ := s1
  obtain ⟨a1, c1, rfl⟩ := t1.shape
  obtain ⟨a2, c2, rfl⟩ := t2.shape
  generalize xs.length = k1 at *
  generalize ys.length = k2 at *
  obtain ⟨W, eW, g1, g2, bel, hsz⟩ := alloc2 w (Obj.cells #[.int .i64 (wd : Int), .slice a1 k1 c1] 28) (Obj.cells #[.int .i64 (wd : Int), .slice a2 k2 c2] 28)
  obtain ⟨V, eV, gV, bV, hVs⟩ := alloc1n W (Obj.cells #[.int .i64 (wd : Int), .slice a1 k1 c1, .int .i64 (wd : Int), .slice a2 k2 c2] 28)
  have hw : W.heap.size = w.heap.size + 1 + 1 := by rw [← eW]; simp
  have BV := Lib.hid (below_of bel bV)
  have CC := Lib.hid (CK V _ (bvlx_two gV (S0.out.below BV.out) (S1.out.below BV.out)))
  rw [hw] at CC
  have G1 := Lib.hid (car bV g1); have G2 := Lib.hid (car bV g2)
  obtain ⟨p0, p1, -, -, _⟩ := blk2 g1
  obtain ⟨q0, q1, -, -, _⟩ := blk2 g2
  clear t1 t2 g1 g2 bel gV bV CK
  clear hx hy
  go_enter Tryz.func28, Tryz.ntmps28
  go_wp2_with fail
  try rw [eW]
  try rw [eV]
  refine CC.out.mono ?_
  rintro e X ⟨rfl, hb⟩
  have BX := Lib.hid (below_of BV.out hb)
  have GAu := Lib.hid (car hb G1.out); have GBu := Lib.hid (car hb G2.out)
  clear hb p0 p1 q0 q1
  have STAYu : Hid (∀ w', Below X.heap.size X w' → w'.cell? ⟨w.heap.size, 0, none⟩ = some (.int .i64 (wd : Int)) ∧ w'.cell? ⟨w.heap.size, 1, none⟩ = some (.slice a1 k1 c1) ∧ w'.cell? ⟨w.heap.size + 1, 0, none⟩ = some (.int .i64 (wd : Int)) ∧ w'.cell? ⟨w.heap.size + 1, 1, none⟩ = some (.slice a2 k2 c2)) := Lib.hid (fun w' hb => by
    obtain ⟨e0, e1, -, -, _⟩ := blk2 (car hb GAu.out)
    obtain ⟨e2, e3, -, -, _⟩ := blk2 (car hb GBu.out)
    exact ⟨e0, e1, e2, e3⟩)
  have hku0 := Below.refl X.heap.size X
  go_upto_region 4 with fail
  go_cut [9] (fun s wx => s = .int .i64 ou ∧ Below X.heap.size X wx)
  case first =>
    go_region_held3 (fun w' => w'.cell? ⟨w.heap.size, 0, none⟩ = some (.int .i64 (wd : Int)) ∧ w'.cell? ⟨w.heap.size, 1, none⟩ = some (.slice a1 k1 c1) ∧ w'.cell? ⟨w.heap.size + 1, 0, none⟩ = some (.int .i64 (wd : Int)) ∧ w'.cell? ⟨w.heap.size + 1, 1, none⟩ = some (.slice a2 k2 c2))
      ((refine STAYu.out _ ?_; first | exact hku3 | exact hku3.drew | exact hku2 | exact hku2.drew | exact hku1 | exact hku1.drew | exact hku0 | exact hku0.drew))
      (first
      | (have tk := I2; go_at_call 59; (with_reducible refine Calls.mono (CU.out _ _ _ ?_ ?_) ?_); (first | exact I1.out | exact zv_drew I1.out); (first | exact I2.out | exact zv_drew I2.out); rintro e x3 ⟨rfl, hb3⟩; have hku3 : Below X.heap.size X x3 := (by first | exact below_of hku2 hb3 | exact below_of hku2.drew hb3); clear hb3)
      | (have tk := I1; go_at_call 42; (with_reducible refine Calls.mono (UB.out _ (below_of BX.out (by first | exact hku1 | exact hku1.drew))) ?_); rintro e x2 ⟨n2, b2, l2, d2, rfl, hi2, hb2⟩; have hku2 : Below X.heap.size X x2 := (by first | exact below_of hku1 hb2 | exact below_of hku1.drew hb2); have I2 := Lib.hid hi2; (first | (have I1' := Lib.hid (zv_call hb2 I1.out)) | (have I1' := Lib.hid (zv_call hb2 (zv_drew I1.out)))); clear I1; have I1 := I1'; clear I1' hi2 hb2)
      | (go_at_call 42; (with_reducible refine Calls.mono (UA.out _ (below_of BX.out (by first | exact hku0 | exact hku0.drew))) ?_); rintro e x1 ⟨n1, b1, l1, d1, rfl, hi1, hb1⟩; have hku1 : Below X.heap.size X x1 := (by first | exact below_of hku0 hb1 | exact below_of hku0.drew hb1); have I1 := Lib.hid hi1; clear hi1 hb1))
    all_goals
      go_wp2_with fail
      go_meet
      exact ⟨rfl, by first | exact hku3 | exact hku3.drew⟩
  case rest =>
  obtain ⟨rfl, hb⟩ := hcut
  generalize wc = Y at *
  have BY := Lib.hid (below_of BX.out hb)
  have GAs := Lib.hid (car hb GAu.out); have GBs := Lib.hid (car hb GBu.out)
  clear hb STAYu hku0
  have STAYs : Hid (∀ w', Below Y.heap.size Y w' → w'.cell? ⟨w.heap.size, 0, none⟩ = some (.int .i64 (wd : Int)) ∧ w'.cell? ⟨w.heap.size, 1, none⟩ = some (.slice a1 k1 c1) ∧ w'.cell? ⟨w.heap.size + 1, 0, none⟩ = some (.int .i64 (wd : Int)) ∧ w'.cell? ⟨w.heap.size + 1, 1, none⟩ = some (.slice a2 k2 c2)) := Lib.hid (fun w' hb => by
    obtain ⟨e0, e1, -, -, _⟩ := blk2 (car hb GAs.out)
    obtain ⟨e2, e3, -, -, _⟩ := blk2 (car hb GBs.out)
    exact ⟨e0, e1, e2, e3⟩)
  have hks0 := Below.refl Y.heap.size Y
  go_upto_region 6 with fail
  go_cut [9] (fun s wx => s = .int .i64 os ∧ Below Y.heap.size Y wx)
  case first =>
    go_region_held3 (fun w' => w'.cell? ⟨w.heap.size, 0, none⟩ = some (.int .i64 (wd : Int)) ∧ w'.cell? ⟨w.heap.size, 1, none⟩ = some (.slice a1 k1 c1) ∧ w'.cell? ⟨w.heap.size + 1, 0, none⟩ = some (.int .i64 (wd : Int)) ∧ w'.cell? ⟨w.heap.size + 1, 1, none⟩ = some (.slice a2 k2 c2))
      ((refine STAYs.out _ ?_; first | exact hks3 | exact hks3.drew | exact hks2 | exact hks2.drew | exact hks1 | exact hks1.drew | exact hks0 | exact hks0.drew))
      (first
      | (have tk := I2; go_at_call 59; (with_reducible refine Calls.mono (CS.out _ _ _ ?_ ?_) ?_); (first | exact I1.out | exact zv_drew I1.out); (first | exact I2.out | exact zv_drew I2.out); rintro e x3 ⟨rfl, hb3⟩; have hks3 : Below Y.heap.size Y x3 := (by first | exact below_of hks2 hb3 | exact below_of hks2.drew hb3); clear hb3)
      | (have tk := I1; go_at_call 44; (with_reducible refine Calls.mono (SB.out _ (below_of BY.out (by first | exact hks1 | exact hks1.drew))) ?_); rintro e x2 ⟨n2, b2, l2, d2, rfl, hi2, hb2⟩; have hks2 : Below Y.heap.size Y x2 := (by first | exact below_of hks1 hb2 | exact below_of hks1.drew hb2); have I2 := Lib.hid hi2; (first | (have I1' := Lib.hid (zv_call hb2 I1.out)) | (have I1' := Lib.hid (zv_call hb2 (zv_drew I1.out)))); clear I1; have I1 := I1'; clear I1' hi2 hb2)
      | (go_at_call 44; (with_reducible refine Calls.mono (SA.out _ (below_of BY.out (by first | exact hks0 | exact hks0.drew))) ?_); rintro e x1 ⟨n1, b1, l1, d1, rfl, hi1, hb1⟩; have hks1 : Below Y.heap.size Y x1 := (by first | exact below_of hks0 hb1 | exact below_of hks0.drew hb1); have I1 := Lib.hid hi1; clear hi1 hb1))
    all_goals
      go_wp2_with fail
      go_meet
      exact ⟨rfl, by first | exact hks3 | exact hks3.drew⟩
  case rest =>
  obtain ⟨rfl, hb⟩ := hcut
  generalize wc = Z at *
  have BZ := Lib.hid (below_of BY.out hb)
  clear hb STAYs hks0
  go_wp2
  go_ret2
  exact ⟨rfl, BZ.out⟩
set_option maxHeartbeats 16000000 in
set_option maxRecDepth 100000 in
theorem rholds_sgt (wd : Nat) (h1 : 1 ≤ wd) (h2 : wd ≤ 4096) (v0 v1 : Value) (xs ys : List Nat) (hx : val B64 xs < 2 ^ wd) (hy : val B64 ys < 2 ^ wd) (w : World) (s0 : BvA w v0 (wd : Int) xs) (s1 : BvA w v1 (wd : Int) ys)
    (CK : ∀ w1 av, BvLX w1 av [((wd : Int), xs), ((wd : Int), ys)] → Calls Tryz.prog 51 #[.int .i64 74, .slice none 0 0, av, .int .i64 2] w1 fun e w' => e = .returned (.int .i64 0) ∧ Below w1.heap.size w1 w') :
    Calls Tryz.prog 28 #[.int .i64 74, v0, v1] w fun e w' => e = .returned (.tuple #[.bool (decide ((sgV wd (val B64 ys)) < (sgV wd (val B64 xs)))), .int .i64 0]) ∧ Below w.heap.size w w' := by
  have S0 := Lib.hid s0; have S1 := Lib.hid s1
  have UA : Hid (∀ w1, Below w.heap.size w w1 → Calls Tryz.prog 42 #[v0] w1 fun e w' => ResZ9 w1 w' e ((val B64 xs : Nat) : Int)) := Lib.hid (fun w1 hw => (S0.out.below hw).u)
  have UB : Hid (∀ w1, Below w.heap.size w w1 → Calls Tryz.prog 42 #[v1] w1 fun e w' => ResZ9 w1 w' e ((val B64 ys : Nat) : Int)) := Lib.hid (fun w1 hw => (S1.out.below hw).u)
  have CU : Hid (∀ va vb w1, ZV w1 va ((val B64 xs : Nat) : Int) → ZV w1 vb ((val B64 ys : Nat) : Int) → Calls Tryz.prog 59 #[va, vb] w1 fun e w' => e = .returned (.int .i64 (zcmp ((val B64 xs : Nat) : Int) ((val B64 ys : Nat) : Int))) ∧ Below w1.heap.size w1 w') := Lib.hid (fun va vb w1 a b => cmp1_any va vb _ _ w1 a b)
  have SA : Hid (∀ w1, Below w.heap.size w w1 → Calls Tryz.prog 44 #[v0] w1 fun e w' => ResZ9 w1 w' e (sgV wd (val B64 xs))) := Lib.hid (fun w1 hw => (S0.out.below hw).sS h1 h2 hx)
  have SB : Hid (∀ w1, Below w.heap.size w w1 → Calls Tryz.prog 44 #[v1] w1 fun e w' => ResZ9 w1 w' e (sgV wd (val B64 ys))) := Lib.hid (fun w1 hw => (S1.out.below hw).sS h1 h2 hy)
  have CS : Hid (∀ va vb w1, ZV w1 va (sgV wd (val B64 xs)) → ZV w1 vb (sgV wd (val B64 ys)) → Calls Tryz.prog 59 #[va, vb] w1 fun e w' => e = .returned (.int .i64 (zcmp (sgV wd (val B64 xs)) (sgV wd (val B64 ys)))) ∧ Below w1.heap.size w1 w') := Lib.hid (fun va vb w1 a b => cmp1_any va vb _ _ w1 a b)
  have hd : decide (0 < zcmp (sgV wd (val B64 xs)) (sgV wd (val B64 ys))) = decide ((sgV wd (val B64 ys)) < (sgV wd (val B64 xs))) := by
    rw [decide_eq_decide]
    generalize sgV wd (val B64 xs) = X
    generalize sgV wd (val B64 ys) = Y
    unfold zcmp
    (repeat' split) <;> omega
  rw [← hd]
  clear hd
  generalize zcmp ((val B64 xs : Nat) : Int) ((val B64 ys : Nat) : Int) = ou at *
  generalize zcmp (sgV wd (val B64 xs)) (sgV wd (val B64 ys)) = os at *
  generalize ((val B64 xs : Nat) : Int) = ux at *
  generalize ((val B64 ys : Nat) : Int) = uy at *
  generalize sgV wd (val B64 xs) = sx at *
  generalize sgV wd (val B64 ys) = sy at *
  clear h1 h2
  obtain ⟨u1, rfl, t1, -, -⟩ := s0
  obtain ⟨u2, rfl, t2, -, -⟩ := s1
  obtain ⟨a1, c1, rfl⟩ := t1.shape
  obtain ⟨a2, c2, rfl⟩ := t2.shape
  generalize xs.length = k1 at *
  generalize ys.length = k2 at *
  obtain ⟨W, eW, g1, g2, bel, hsz⟩ := alloc2 w (Obj.cells #[.int .i64 (wd : Int), .slice a1 k1 c1] 28) (Obj.cells #[.int .i64 (wd : Int), .slice a2 k2 c2] 28)
  obtain ⟨V, eV, gV, bV, hVs⟩ := alloc1n W (Obj.cells #[.int .i64 (wd : Int), .slice a1 k1 c1, .int .i64 (wd : Int), .slice a2 k2 c2] 28)
  have hw : W.heap.size = w.heap.size + 1 + 1 := by rw [← eW]; simp
  have BV := Lib.hid (below_of bel bV)
  have CC := Lib.hid (CK V _ (bvlx_two gV (S0.out.below BV.out) (S1.out.below BV.out)))
  rw [hw] at CC
  have G1 := Lib.hid (car bV g1); have G2 := Lib.hid (car bV g2)
  obtain ⟨p0, p1, -, -, _⟩ := blk2 g1
  obtain ⟨q0, q1, -, -, _⟩ := blk2 g2
  clear t1 t2 g1 g2 bel gV bV CK
  clear hx hy
  go_enter Tryz.func28, Tryz.ntmps28
  go_wp2_with fail
  try rw [eW]
  try rw [eV]
  refine CC.out.mono ?_
  rintro e X ⟨rfl, hb⟩
  have BX := Lib.hid (below_of BV.out hb)
  have GAu := Lib.hid (car hb G1.out); have GBu := Lib.hid (car hb G2.out)
  clear hb p0 p1 q0 q1
  have STAYu : Hid (∀ w', Below X.heap.size X w' → w'.cell? ⟨w.heap.size, 0, none⟩ = some (.int .i64 (wd : Int)) ∧ w'.cell? ⟨w.heap.size, 1, none⟩ = some (.slice a1 k1 c1) ∧ w'.cell? ⟨w.heap.size + 1, 0, none⟩ = some (.int .i64 (wd : Int)) ∧ w'.cell? ⟨w.heap.size + 1, 1, none⟩ = some (.slice a2 k2 c2)) := Lib.hid (fun w' hb => by
    obtain ⟨e0, e1, -, -, _⟩ := blk2 (car hb GAu.out)
    obtain ⟨e2, e3, -, -, _⟩ := blk2 (car hb GBu.out)
    exact ⟨e0, e1, e2, e3⟩)
  have hku0 := Below.refl X.heap.size X
  go_upto_region 4 with fail
  go_cut [9] (fun s wx => s = .int .i64 ou ∧ Below X.heap.size X wx)
  case first =>
    go_region_held3 (fun w' => w'.cell? ⟨w.heap.size, 0, none⟩ = some (.int .i64 (wd : Int)) ∧ w'.cell? ⟨w.heap.size, 1, none⟩ = some (.slice a1 k1 c1) ∧ w'.cell? ⟨w.heap.size + 1, 0, none⟩ = some (.int .i64 (wd : Int)) ∧ w'.cell? ⟨w.heap.size + 1, 1, none⟩ = some (.slice a2 k2 c2))
      ((refine STAYu.out _ ?_; first | exact hku3 | exact hku3.drew | exact hku2 | exact hku2.drew | exact hku1 | exact hku1.drew | exact hku0 | exact hku0.drew))
      (first
      | (have tk := I2; go_at_call 59; (with_reducible refine Calls.mono (CU.out _ _ _ ?_ ?_) ?_); (first | exact I1.out | exact zv_drew I1.out); (first | exact I2.out | exact zv_drew I2.out); rintro e x3 ⟨rfl, hb3⟩; have hku3 : Below X.heap.size X x3 := (by first | exact below_of hku2 hb3 | exact below_of hku2.drew hb3); clear hb3)
      | (have tk := I1; go_at_call 42; (with_reducible refine Calls.mono (UB.out _ (below_of BX.out (by first | exact hku1 | exact hku1.drew))) ?_); rintro e x2 ⟨n2, b2, l2, d2, rfl, hi2, hb2⟩; have hku2 : Below X.heap.size X x2 := (by first | exact below_of hku1 hb2 | exact below_of hku1.drew hb2); have I2 := Lib.hid hi2; (first | (have I1' := Lib.hid (zv_call hb2 I1.out)) | (have I1' := Lib.hid (zv_call hb2 (zv_drew I1.out)))); clear I1; have I1 := I1'; clear I1' hi2 hb2)
      | (go_at_call 42; (with_reducible refine Calls.mono (UA.out _ (below_of BX.out (by first | exact hku0 | exact hku0.drew))) ?_); rintro e x1 ⟨n1, b1, l1, d1, rfl, hi1, hb1⟩; have hku1 : Below X.heap.size X x1 := (by first | exact below_of hku0 hb1 | exact below_of hku0.drew hb1); have I1 := Lib.hid hi1; clear hi1 hb1))
    all_goals
      go_wp2_with fail
      go_meet
      exact ⟨rfl, by first | exact hku3 | exact hku3.drew⟩
  case rest =>
  obtain ⟨rfl, hb⟩ := hcut
  generalize wc = Y at *
  have BY := Lib.hid (below_of BX.out hb)
  have GAs := Lib.hid (car hb GAu.out); have GBs := Lib.hid (car hb GBu.out)
  clear hb STAYu hku0
  have STAYs : Hid (∀ w', Below Y.heap.size Y w' → w'.cell? ⟨w.heap.size, 0, none⟩ = some (.int .i64 (wd : Int)) ∧ w'.cell? ⟨w.heap.size, 1, none⟩ = some (.slice a1 k1 c1) ∧ w'.cell? ⟨w.heap.size + 1, 0, none⟩ = some (.int .i64 (wd : Int)) ∧ w'.cell? ⟨w.heap.size + 1, 1, none⟩ = some (.slice a2 k2 c2)) := Lib.hid (fun w' hb => by
    obtain ⟨e0, e1, -, -, _⟩ := blk2 (car hb GAs.out)
    obtain ⟨e2, e3, -, -, _⟩ := blk2 (car hb GBs.out)
    exact ⟨e0, e1, e2, e3⟩)
  have hks0 := Below.refl Y.heap.size Y
  go_upto_region 6 with fail
  go_cut [9] (fun s wx => s = .int .i64 os ∧ Below Y.heap.size Y wx)
  case first =>
    go_region_held3 (fun w' => w'.cell? ⟨w.heap.size, 0, none⟩ = some (.int .i64 (wd : Int)) ∧ w'.cell? ⟨w.heap.size, 1, none⟩ = some (.slice a1 k1 c1) ∧ w'.cell? ⟨w.heap.size + 1, 0, none⟩ = some (.int .i64 (wd : Int)) ∧ w'.cell? ⟨w.heap.size + 1, 1, none⟩ = some (.slice a2 k2 c2))
      ((refine STAYs.out _ ?_; first | exact hks3 | exact hks3.drew | exact hks2 | exact hks2.drew | exact hks1 | exact hks1.drew | exact hks0 | exact hks0.drew))
      (first
      | (have tk := I2; go_at_call 59; (with_reducible refine Calls.mono (CS.out _ _ _ ?_ ?_) ?_); (first | exact I1.out | exact zv_drew I1.out); (first | exact I2.out | exact zv_drew I2.out); rintro e x3 ⟨rfl, hb3⟩; have hks3 : Below Y.heap.size Y x3 := (by first | exact below_of hks2 hb3 | exact below_of hks2.drew hb3); clear hb3)
      | (have tk := I1; go_at_call 44; (with_reducible refine Calls.mono (SB.out _ (below_of BY.out (by first | exact hks1 | exact hks1.drew))) ?_); rintro e x2 ⟨n2, b2, l2, d2, rfl, hi2, hb2⟩; have hks2 : Below Y.heap.size Y x2 := (by first | exact below_of hks1 hb2 | exact below_of hks1.drew hb2); have I2 := Lib.hid hi2; (first | (have I1' := Lib.hid (zv_call hb2 I1.out)) | (have I1' := Lib.hid (zv_call hb2 (zv_drew I1.out)))); clear I1; have I1 := I1'; clear I1' hi2 hb2)
      | (go_at_call 44; (with_reducible refine Calls.mono (SA.out _ (below_of BY.out (by first | exact hks0 | exact hks0.drew))) ?_); rintro e x1 ⟨n1, b1, l1, d1, rfl, hi1, hb1⟩; have hks1 : Below Y.heap.size Y x1 := (by first | exact below_of hks0 hb1 | exact below_of hks0.drew hb1); have I1 := Lib.hid hi1; clear hi1 hb1))
    all_goals
      go_wp2_with fail
      go_meet
      exact ⟨rfl, by first | exact hks3 | exact hks3.drew⟩
  case rest =>
  obtain ⟨rfl, hb⟩ := hcut
  generalize wc = Z at *
  have BZ := Lib.hid (below_of BY.out hb)
  clear hb STAYs hks0
  go_wp2
  go_ret2
  exact ⟨rfl, BZ.out⟩
set_option maxHeartbeats 16000000 in
set_option maxRecDepth 100000 in
theorem rholds_sge (wd : Nat) (h1 : 1 ≤ wd) (h2 : wd ≤ 4096) (v0 v1 : Value) (xs ys : List Nat) (hx : val B64 xs < 2 ^ wd) (hy : val B64 ys < 2 ^ wd) (w : World) (s0 : BvA w v0 (wd : Int) xs) (s1 : BvA w v1 (wd : Int) ys)
    (CK : ∀ w1 av, BvLX w1 av [((wd : Int), xs), ((wd : Int), ys)] → Calls Tryz.prog 51 #[.int .i64 75, .slice none 0 0, av, .int .i64 2] w1 fun e w' => e = .returned (.int .i64 0) ∧ Below w1.heap.size w1 w') :
    Calls Tryz.prog 28 #[.int .i64 75, v0, v1] w fun e w' => e = .returned (.tuple #[.bool (decide ((sgV wd (val B64 ys)) ≤ (sgV wd (val B64 xs)))), .int .i64 0]) ∧ Below w.heap.size w w' := by
  have S0 := Lib.hid s0; have S1 := Lib.hid s1
  have UA : Hid (∀ w1, Below w.heap.size w w1 → Calls Tryz.prog 42 #[v0] w1 fun e w' => ResZ9 w1 w' e ((val B64 xs : Nat) : Int)) := Lib.hid (fun w1 hw => (S0.out.below hw).u)
  have UB : Hid (∀ w1, Below w.heap.size w w1 → Calls Tryz.prog 42 #[v1] w1 fun e w' => ResZ9 w1 w' e ((val B64 ys : Nat) : Int)) := Lib.hid (fun w1 hw => (S1.out.below hw).u)
  have CU : Hid (∀ va vb w1, ZV w1 va ((val B64 xs : Nat) : Int) → ZV w1 vb ((val B64 ys : Nat) : Int) → Calls Tryz.prog 59 #[va, vb] w1 fun e w' => e = .returned (.int .i64 (zcmp ((val B64 xs : Nat) : Int) ((val B64 ys : Nat) : Int))) ∧ Below w1.heap.size w1 w') := Lib.hid (fun va vb w1 a b => cmp1_any va vb _ _ w1 a b)
  have SA : Hid (∀ w1, Below w.heap.size w w1 → Calls Tryz.prog 44 #[v0] w1 fun e w' => ResZ9 w1 w' e (sgV wd (val B64 xs))) := Lib.hid (fun w1 hw => (S0.out.below hw).sS h1 h2 hx)
  have SB : Hid (∀ w1, Below w.heap.size w w1 → Calls Tryz.prog 44 #[v1] w1 fun e w' => ResZ9 w1 w' e (sgV wd (val B64 ys))) := Lib.hid (fun w1 hw => (S1.out.below hw).sS h1 h2 hy)
  have CS : Hid (∀ va vb w1, ZV w1 va (sgV wd (val B64 xs)) → ZV w1 vb (sgV wd (val B64 ys)) → Calls Tryz.prog 59 #[va, vb] w1 fun e w' => e = .returned (.int .i64 (zcmp (sgV wd (val B64 xs)) (sgV wd (val B64 ys)))) ∧ Below w1.heap.size w1 w') := Lib.hid (fun va vb w1 a b => cmp1_any va vb _ _ w1 a b)
  have hd : decide (0 ≤ zcmp (sgV wd (val B64 xs)) (sgV wd (val B64 ys))) = decide ((sgV wd (val B64 ys)) ≤ (sgV wd (val B64 xs))) := by
    rw [decide_eq_decide]
    generalize sgV wd (val B64 xs) = X
    generalize sgV wd (val B64 ys) = Y
    unfold zcmp
    (repeat' split) <;> omega
  rw [← hd]
  clear hd
  generalize zcmp ((val B64 xs : Nat) : Int) ((val B64 ys : Nat) : Int) = ou at *
  generalize zcmp (sgV wd (val B64 xs)) (sgV wd (val B64 ys)) = os at *
  generalize ((val B64 xs : Nat) : Int) = ux at *
  generalize ((val B64 ys : Nat) : Int) = uy at *
  generalize sgV wd (val B64 xs) = sx at *
  generalize sgV wd (val B64 ys) = sy at *
  clear h1 h2
  obtain ⟨u1, rfl, t1, -, -⟩ := s0
  obtain ⟨u2, rfl, t2, -, -⟩ := s1
  obtain ⟨a1, c1, rfl⟩ := t1.shape
  obtain ⟨a2, c2, rfl⟩ := t2.shape
  generalize xs.length = k1 at *
  generalize ys.length = k2 at *
  obtain ⟨W, eW, g1, g2, bel, hsz⟩ := alloc2 w (Obj.cells #[.int .i64 (wd : Int), .slice a1 k1 c1] 28) (Obj.cells #[.int .i64 (wd : Int), .slice a2 k2 c2] 28)
  obtain ⟨V, eV, gV, bV, hVs⟩ := alloc1n W (Obj.cells #[.int .i64 (wd : Int), .slice a1 k1 c1, .int .i64 (wd : Int), .slice a2 k2 c2] 28)
  have hw : W.heap.size = w.heap.size + 1 + 1 := by rw [← eW]; simp
  have BV := Lib.hid (below_of bel bV)
  have CC := Lib.hid (CK V _ (bvlx_two gV (S0.out.below BV.out) (S1.out.below BV.out)))
  rw [hw] at CC
  have G1 := Lib.hid (car bV g1); have G2 := Lib.hid (car bV g2)
  obtain ⟨p0, p1, -, -, _⟩ := blk2 g1
  obtain ⟨q0, q1, -, -, _⟩ := blk2 g2
  clear t1 t2 g1 g2 bel gV bV CK
  clear hx hy
  go_enter Tryz.func28, Tryz.ntmps28
  go_wp2_with fail
  try rw [eW]
  try rw [eV]
  refine CC.out.mono ?_
  rintro e X ⟨rfl, hb⟩
  have BX := Lib.hid (below_of BV.out hb)
  have GAu := Lib.hid (car hb G1.out); have GBu := Lib.hid (car hb G2.out)
  clear hb p0 p1 q0 q1
  have STAYu : Hid (∀ w', Below X.heap.size X w' → w'.cell? ⟨w.heap.size, 0, none⟩ = some (.int .i64 (wd : Int)) ∧ w'.cell? ⟨w.heap.size, 1, none⟩ = some (.slice a1 k1 c1) ∧ w'.cell? ⟨w.heap.size + 1, 0, none⟩ = some (.int .i64 (wd : Int)) ∧ w'.cell? ⟨w.heap.size + 1, 1, none⟩ = some (.slice a2 k2 c2)) := Lib.hid (fun w' hb => by
    obtain ⟨e0, e1, -, -, _⟩ := blk2 (car hb GAu.out)
    obtain ⟨e2, e3, -, -, _⟩ := blk2 (car hb GBu.out)
    exact ⟨e0, e1, e2, e3⟩)
  have hku0 := Below.refl X.heap.size X
  go_upto_region 4 with fail
  go_cut [9] (fun s wx => s = .int .i64 ou ∧ Below X.heap.size X wx)
  case first =>
    go_region_held3 (fun w' => w'.cell? ⟨w.heap.size, 0, none⟩ = some (.int .i64 (wd : Int)) ∧ w'.cell? ⟨w.heap.size, 1, none⟩ = some (.slice a1 k1 c1) ∧ w'.cell? ⟨w.heap.size + 1, 0, none⟩ = some (.int .i64 (wd : Int)) ∧ w'.cell? ⟨w.heap.size + 1, 1, none⟩ = some (.slice a2 k2 c2))
      ((refine STAYu.out _ ?_; first | exact hku3 | exact hku3.drew | exact hku2 | exact hku2.drew | exact hku1 | exact hku1.drew | exact hku0 | exact hku0.drew))
      (first
      | (have tk := I2; go_at_call 59; (with_reducible refine Calls.mono (CU.out _ _ _ ?_ ?_) ?_); (first | exact I1.out | exact zv_drew I1.out); (first | exact I2.out | exact zv_drew I2.out); rintro e x3 ⟨rfl, hb3⟩; have hku3 : Below X.heap.size X x3 := (by first | exact below_of hku2 hb3 | exact below_of hku2.drew hb3); clear hb3)
      | (have tk := I1; go_at_call 42; (with_reducible refine Calls.mono (UB.out _ (below_of BX.out (by first | exact hku1 | exact hku1.drew))) ?_); rintro e x2 ⟨n2, b2, l2, d2, rfl, hi2, hb2⟩; have hku2 : Below X.heap.size X x2 := (by first | exact below_of hku1 hb2 | exact below_of hku1.drew hb2); have I2 := Lib.hid hi2; (first | (have I1' := Lib.hid (zv_call hb2 I1.out)) | (have I1' := Lib.hid (zv_call hb2 (zv_drew I1.out)))); clear I1; have I1 := I1'; clear I1' hi2 hb2)
      | (go_at_call 42; (with_reducible refine Calls.mono (UA.out _ (below_of BX.out (by first | exact hku0 | exact hku0.drew))) ?_); rintro e x1 ⟨n1, b1, l1, d1, rfl, hi1, hb1⟩; have hku1 : Below X.heap.size X x1 := (by first | exact below_of hku0 hb1 | exact below_of hku0.drew hb1); have I1 := Lib.hid hi1; clear hi1 hb1))
    all_goals
      go_wp2_with fail
      go_meet
      exact ⟨rfl, by first | exact hku3 | exact hku3.drew⟩
  case rest =>
  obtain ⟨rfl, hb⟩ := hcut
  generalize wc = Y at *
  have BY := Lib.hid (below_of BX.out hb)
  have GAs := Lib.hid (car hb GAu.out); have GBs := Lib.hid (car hb GBu.out)
  clear hb STAYu hku0
  have STAYs : Hid (∀ w', Below Y.heap.size Y w' → w'.cell? ⟨w.heap.size, 0, none⟩ = some (.int .i64 (wd : Int)) ∧ w'.cell? ⟨w.heap.size, 1, none⟩ = some (.slice a1 k1 c1) ∧ w'.cell? ⟨w.heap.size + 1, 0, none⟩ = some (.int .i64 (wd : Int)) ∧ w'.cell? ⟨w.heap.size + 1, 1, none⟩ = some (.slice a2 k2 c2)) := Lib.hid (fun w' hb => by
    obtain ⟨e0, e1, -, -, _⟩ := blk2 (car hb GAs.out)
    obtain ⟨e2, e3, -, -, _⟩ := blk2 (car hb GBs.out)
    exact ⟨e0, e1, e2, e3⟩)
  have hks0 := Below.refl Y.heap.size Y
  go_upto_region 6 with fail
  go_cut [9] (fun s wx => s = .int .i64 os ∧ Below Y.heap.size Y wx)
  case first =>
    go_region_held3 (fun w' => w'.cell? ⟨w.heap.size, 0, none⟩ = some (.int .i64 (wd : Int)) ∧ w'.cell? ⟨w.heap.size, 1, none⟩ = some (.slice a1 k1 c1) ∧ w'.cell? ⟨w.heap.size + 1, 0, none⟩ = some (.int .i64 (wd : Int)) ∧ w'.cell? ⟨w.heap.size + 1, 1, none⟩ = some (.slice a2 k2 c2))
      ((refine STAYs.out _ ?_; first | exact hks3 | exact hks3.drew | exact hks2 | exact hks2.drew | exact hks1 | exact hks1.drew | exact hks0 | exact hks0.drew))
      (first
      | (have tk := I2; go_at_call 59; (with_reducible refine Calls.mono (CS.out _ _ _ ?_ ?_) ?_); (first | exact I1.out | exact zv_drew I1.out); (first | exact I2.out | exact zv_drew I2.out); rintro e x3 ⟨rfl, hb3⟩; have hks3 : Below Y.heap.size Y x3 := (by first | exact below_of hks2 hb3 | exact below_of hks2.drew hb3); clear hb3)
      | (have tk := I1; go_at_call 44; (with_reducible refine Calls.mono (SB.out _ (below_of BY.out (by first | exact hks1 | exact hks1.drew))) ?_); rintro e x2 ⟨n2, b2, l2, d2, rfl, hi2, hb2⟩; have hks2 : Below Y.heap.size Y x2 := (by first | exact below_of hks1 hb2 | exact below_of hks1.drew hb2); have I2 := Lib.hid hi2; (first | (have I1' := Lib.hid (zv_call hb2 I1.out)) | (have I1' := Lib.hid (zv_call hb2 (zv_drew I1.out)))); clear I1; have I1 := I1'; clear I1' hi2 hb2)
      | (go_at_call 44; (with_reducible refine Calls.mono (SA.out _ (below_of BY.out (by first | exact hks0 | exact hks0.drew))) ?_); rintro e x1 ⟨n1, b1, l1, d1, rfl, hi1, hb1⟩; have hks1 : Below Y.heap.size Y x1 := (by first | exact below_of hks0 hb1 | exact below_of hks0.drew hb1); have I1 := Lib.hid hi1; clear hi1 hb1))
    all_goals
      go_wp2_with fail
      go_meet
      exact ⟨rfl, by first | exact hks3 | exact hks3.drew⟩
  case rest =>
  obtain ⟨rfl, hb⟩ := hcut
  generalize wc = Z at *
  have BZ := Lib.hid (below_of BY.out hb)
  clear hb STAYs hks0
  go_wp2
  go_ret2
  exact ⟨rfl, BZ.out⟩
end Go.Proofs.YtccofiakblmkhaaGreat
