/- 9D0 9D1 9D2 9D3 9D5 9D6 9D7. -/
import Derived.Test.YtccofiakblmkhaaGreatE9N3
set_option linter.unusedVariables false
set_option linter.unusedSimpArgs false
/- bits: Holds of two vectors of one width (ult). -/
namespace Go.Proofs.YtccofiakblmkhaaGreat
open Go.RowKit Mth

set_option maxHeartbeats 8000000 in
set_option maxRecDepth 100000 in
theorem holds_ult (va vb : Value) (wd m n : Nat) (h1 : 1 ≤ wd) (h2 : wd ≤ 4096) (hm : m < 2 ^ wd) (hn : n < 2 ^ wd) (w : World) (ha : BvV w va wd m) (hb : BvV w vb wd n) :
    Calls Tryz.prog 27 #[.int .i64 68, va, vb] w fun e w' => e = .returned (.tuple #[.bool (decide (((m : Nat) : Int) < ((n : Nat) : Int))), .int .i64 0]) ∧ Below w.heap.size w w' := by
  have HA := Lib.hid ha; have HB := Lib.hid hb
  obtain ⟨u1, xs, rfl, s1, l1, b1, v1⟩ := ha
  obtain ⟨u2, ys, rfl, s2, l2, b2, v2⟩ := hb
  have R1 : Hid (∀ w1, Below w.heap.size w w1 → Calls Tryz.prog 22 #[.agg #[.int .i64 (wd : Int), u1]] w1 fun e w' => e = .returned (.bool true) ∧ Below w1.heap.size w1 w') := Lib.hid (fun w1 hw => by
    have h := right_any (wd : Int) u1 xs w1 (s1.below hw) l1
    rw [v1, right_fine h1 h2 hm] at h
    exact h)
  have R2 : Hid (∀ w1, Below w.heap.size w w1 → Calls Tryz.prog 22 #[.agg #[.int .i64 (wd : Int), u2]] w1 fun e w' => e = .returned (.bool true) ∧ Below w1.heap.size w1 w') := Lib.hid (fun w1 hw => by
    have h := right_any (wd : Int) u2 ys w1 (s2.below hw) l2
    rw [v2, right_fine h1 h2 hn] at h
    exact h)
  obtain ⟨a1, c1, rfl⟩ := s1.shape
  obtain ⟨a2, c2, rfl⟩ := s2.shape
  generalize xs.length = k1 at *
  generalize ys.length = k2 at *
  obtain ⟨W, eW, g1, g2, bel, hsz⟩ := alloc2 w (Obj.cells #[.int .i64 (wd : Int), .slice a1 k1 c1] 28) (Obj.cells #[.int .i64 (wd : Int), .slice a2 k2 c2] 28)
  have OP : Hid (Calls Tryz.prog 58 #[.int .i64 68] W fun e w' => e = .returned (.tuple #[.agg #[.func (.func 40) #[] #[], .func (.func 146) #[] #[]], .bool true]) ∧ Below W.heap.size W w') := Lib.hid (orderOf_at 68 (by omega) 40 146 (by kernel_rfl) (by kernel_rfl) W)
  have hs1 : ∀ (a : Addr) (W : World) m, Sem.run Tryz.prog (store a (.func (.func 40) #[] #[]) m) W = stored Tryz.prog W a (.func (.func 40) #[] #[]) m := fun a W m => run_store Tryz.prog W a _ m rfl
  have hs2 : ∀ (a : Addr) (W : World) m, Sem.run Tryz.prog (store a (.func (.func 146) #[] #[]) m) W = stored Tryz.prog W a (.func (.func 146) #[] #[]) m := fun a W m => run_store Tryz.prog W a _ m rfl
  have G1 := Lib.hid g1; have G2 := Lib.hid g2; have BL := Lib.hid bel
  have d0 : ((wd : Int) != (wd : Int)) = false := by simp
  have N1 : Hid (∀ w1, Below w.heap.size w w1 → Calls Tryz.prog 40 #[.agg #[.int .i64 (wd : Int), .slice a1 k1 c1]] w1 fun e w' => ∃ v', e = .returned v' ∧ IntV w' v' (((m : Nat) : Int)) ∧ Below w1.heap.size w1 w') := Lib.hid (fun w1 hw => unsigned_any _ wd m w1 (HA.out.below hw))
  have N2 : Hid (∀ w1, Below w.heap.size w w1 → Calls Tryz.prog 40 #[.agg #[.int .i64 (wd : Int), .slice a2 k2 c2]] w1 fun e w' => ∃ v', e = .returned v' ∧ IntV w' v' (((n : Nat) : Int)) ∧ Below w1.heap.size w1 w') := Lib.hid (fun w1 hw => unsigned_any _ wd n w1 (HB.out.below hw))
  generalize ((m : Nat) : Int) = X at *
  generalize ((n : Nat) : Int) = Y at *
  have CM : Hid (∀ va vb w1, IntV w1 va X → IntV w1 vb Y → Calls Tryz.prog 21 #[va, vb] w1 fun e w' => e = .returned (.int .i64 (zcmp X Y)) ∧ Below w1.heap.size w1 w') := Lib.hid (fun va vb w1 hx hy => cmpF va vb X Y _ w1 hx hy rfl)
  have TS : Hid (∀ w1, Calls Tryz.prog 146 #[.int .i64 (zcmp X Y)] w1 fun e w' => e = .returned (.bool (decide (X < Y))) ∧ w' = w1) := Lib.hid (fun w1 => isBelow_any X Y w1)
  generalize zcmp X Y = o at *
  generalize (decide (X < Y)) = B at *
  clear s1 l1 b1 v1 s2 l2 b2 v2 g1 g2 bel hm hn HA HB
  go_enter Tryz.func27, Tryz.ntmps27
  go_wp2_with fail
  try rw [eW]
  refine OP.out.mono ?_
  rintro e w2 ⟨rfl, hb2⟩
  obtain ⟨V, eV, gV, bV, hVs⟩ := alloc1n w2 (Obj.cells #[.func (.func 40) #[] #[], .func (.func 146) #[] #[]] 103)
  have BV := Lib.hid (below_of (below_of BL.out hb2) bV)
  have H1 := Lib.hid (car bV (car hb2 G1.out)); have H2 := Lib.hid (car bV (car hb2 G2.out)); have H0 := Lib.hid gV
  obtain ⟨p0, p1, -, -, _⟩ := blk2 H1.out
  obtain ⟨q0, q1, -, -, _⟩ := blk2 H2.out
  clear hb2 bV gV
  go_upto_region 2 with fail
  try rw [eV]
  go_wp2_with fail
  refine (R1.out _ BV.out).mono ?_
  rintro e w3 ⟨rfl, hb3⟩
  have B3 := Lib.hid (below_of BV.out hb3)
  have H31 := Lib.hid (car hb3 H1.out); have H32 := Lib.hid (car hb3 H2.out); have H30 := Lib.hid (car hb3 H0.out)
  obtain ⟨p0', p1', -, -, _⟩ := blk2 H31.out
  obtain ⟨q0', q1', -, -, _⟩ := blk2 H32.out
  clear hb3 p0 p1 q0 q1
  go_wp2_with fail
  refine (R2.out _ B3.out).mono ?_
  rintro e w4 ⟨rfl, hb4⟩
  have B4 := Lib.hid (below_of B3.out hb4)
  have H41 := Lib.hid (car hb4 H31.out); have H42 := Lib.hid (car hb4 H32.out); have H40 := Lib.hid (car hb4 H30.out)
  obtain ⟨p0, p1, -, -, _⟩ := blk2 H41.out
  obtain ⟨q0, q1, -, -, _⟩ := blk2 H42.out
  clear hb4 p0' p1' q0' q1'
  go_upto_region 8 with fail
  obtain ⟨x0, x1, -, -, _⟩ := blk2 H40.out
  have STAY : Hid (∀ w', Below w4.heap.size w4 w' → w'.cell? ⟨w.heap.size, 0, none⟩ = some (.int .i64 (wd : Int)) ∧ w'.cell? ⟨w.heap.size, 1, none⟩ = some (.slice a1 k1 c1) ∧ w'.cell? ⟨w.heap.size + 1, 0, none⟩ = some (.int .i64 (wd : Int)) ∧ w'.cell? ⟨w.heap.size + 1, 1, none⟩ = some (.slice a2 k2 c2) ∧ w'.cell? ⟨w2.heap.size, 0, none⟩ = some (.func (.func 40) #[] #[]) ∧ w'.cell? ⟨w2.heap.size, 1, none⟩ = some (.func (.func 146) #[] #[]) ∧ Below w4.heap.size w4 w') := Lib.hid (fun w' hb => by
    obtain ⟨e0, e1, -, -, _⟩ := blk2 (car hb H41.out)
    obtain ⟨e2, e3, -, -, _⟩ := blk2 (car hb H42.out)
    obtain ⟨e4, e5, -, -, _⟩ := blk2 (car hb H40.out)
    exact ⟨e0, e1, e2, e3, e4, e5, hb⟩)
  have hB0 := Below.refl w4.heap.size w4
  clear p0 p1 q0 q1 x0 x1
  go_region_held3 (fun w' => w'.cell? ⟨w.heap.size, 0, none⟩ = some (.int .i64 (wd : Int)) ∧ w'.cell? ⟨w.heap.size, 1, none⟩ = some (.slice a1 k1 c1) ∧ w'.cell? ⟨w.heap.size + 1, 0, none⟩ = some (.int .i64 (wd : Int)) ∧ w'.cell? ⟨w.heap.size + 1, 1, none⟩ = some (.slice a2 k2 c2) ∧ w'.cell? ⟨w2.heap.size, 0, none⟩ = some (.func (.func 40) #[] #[]) ∧ w'.cell? ⟨w2.heap.size, 1, none⟩ = some (.func (.func 146) #[] #[]) ∧ Below w4.heap.size w4 w')
    (((try go_split_ands); refine STAY.out _ ?_; repeat (first | (with_reducible assumption) | (with_reducible exact Below.refl _ _) | (with_reducible refine Below.drew ?_))))
    (first
    | (have tk := T3; go_at_call 146; (with_reducible refine Calls.mono (TS.out _) ?_); rintro e w8 ⟨rfl, rfl⟩)
    | (have tk := I6; go_at_call 21; (with_reducible refine Calls.mono (CM.out _ _ _ ?_ ?_) ?_); (first | exact I5'.out | exact I5'.out.below (Below.refl _ _).drew); (first | exact I6.out | exact I6.out.below (Below.refl _ _).drew); rintro e w7 ⟨rfl, hb7⟩; have hk7 : Below w4.heap.size w4 w7 := (by first | exact below_to9 hb7 hk6 | exact below_to9 hb7 hk6.drew); have T3 : True := trivial; clear hb7)
    | (have tk := I5; go_at_call 40; (with_reducible refine Calls.mono (N2.out _ (below_of B4.out (by first | exact hk5 | exact hk5.drew))) ?_); rintro e w6 ⟨v6, rfl, hi6, hb6⟩; have hk6 : Below w4.heap.size w4 w6 := (by first | exact below_to9 hb6 hk5 | exact below_to9 hb6 hk5.drew); have I6 := Lib.hid hi6; have I5' := Lib.hid (show IntV w6 _ _ from (by first | exact I5.out.below hb6 | exact I5.out.below (bel_d hb6))); obtain ⟨n6, a6, k6, k6', rfl⟩ := hi6.shape; clear hi6 hb6)
    | (go_at_call 40; (with_reducible refine Calls.mono (N1.out _ (below_of B4.out (by first | exact Below.refl _ _ | exact (Below.refl _ _).drew))) ?_); rintro e w5 ⟨v5, rfl, hi5, hb5⟩; have hk5 : Below w4.heap.size w4 w5 := (by first | exact below_to9 hb5 hB0 | exact below_to9 hb5 hB0.drew); have I5 := Lib.hid hi5; obtain ⟨n5, a5, k5, k5', rfl⟩ := hi5.shape; clear hi5 hb5))
  all_goals
    go_wp2
    go_ret2
    exact ⟨rfl, below_of B4.out (by first | exact hk7 | exact hk7.drew)⟩
end Go.Proofs.YtccofiakblmkhaaGreat

/- bits: Holds of two vectors of one width (ule). -/
namespace Go.Proofs.YtccofiakblmkhaaGreat
open Go.RowKit Mth

set_option maxHeartbeats 8000000 in
set_option maxRecDepth 100000 in
theorem holds_ule (va vb : Value) (wd m n : Nat) (h1 : 1 ≤ wd) (h2 : wd ≤ 4096) (hm : m < 2 ^ wd) (hn : n < 2 ^ wd) (w : World) (ha : BvV w va wd m) (hb : BvV w vb wd n) :
    Calls Tryz.prog 27 #[.int .i64 69, va, vb] w fun e w' => e = .returned (.tuple #[.bool (decide (((m : Nat) : Int) ≤ ((n : Nat) : Int))), .int .i64 0]) ∧ Below w.heap.size w w' := by
  have HA := Lib.hid ha; have HB := Lib.hid hb
  obtain ⟨u1, xs, rfl, s1, l1, b1, v1⟩ := ha
  obtain ⟨u2, ys, rfl, s2, l2, b2, v2⟩ := hb
  have R1 : Hid (∀ w1, Below w.heap.size w w1 → Calls Tryz.prog 22 #[.agg #[.int .i64 (wd : Int), u1]] w1 fun e w' => e = .returned (.bool true) ∧ Below w1.heap.size w1 w') := Lib.hid (fun w1 hw => by
    have h := right_any (wd : Int) u1 xs w1 (s1.below hw) l1
    rw [v1, right_fine h1 h2 hm] at h
    exact h)
  have R2 : Hid (∀ w1, Below w.heap.size w w1 → Calls Tryz.prog 22 #[.agg #[.int .i64 (wd : Int), u2]] w1 fun e w' => e = .returned (.bool true) ∧ Below w1.heap.size w1 w') := Lib.hid (fun w1 hw => by
    have h := right_any (wd : Int) u2 ys w1 (s2.below hw) l2
    rw [v2, right_fine h1 h2 hn] at h
    exact h)
  obtain ⟨a1, c1, rfl⟩ := s1.shape
  obtain ⟨a2, c2, rfl⟩ := s2.shape
  generalize xs.length = k1 at *
  generalize ys.length = k2 at *
  obtain ⟨W, eW, g1, g2, bel, hsz⟩ := alloc2 w (Obj.cells #[.int .i64 (wd : Int), .slice a1 k1 c1] 28) (Obj.cells #[.int .i64 (wd : Int), .slice a2 k2 c2] 28)
  have OP : Hid (Calls Tryz.prog 58 #[.int .i64 69] W fun e w' => e = .returned (.tuple #[.agg #[.func (.func 40) #[] #[], .func (.func 147) #[] #[]], .bool true]) ∧ Below W.heap.size W w') := Lib.hid (orderOf_at 69 (by omega) 40 147 (by kernel_rfl) (by kernel_rfl) W)
  have hs1 : ∀ (a : Addr) (W : World) m, Sem.run Tryz.prog (store a (.func (.func 40) #[] #[]) m) W = stored Tryz.prog W a (.func (.func 40) #[] #[]) m := fun a W m => run_store Tryz.prog W a _ m rfl
  have hs2 : ∀ (a : Addr) (W : World) m, Sem.run Tryz.prog (store a (.func (.func 147) #[] #[]) m) W = stored Tryz.prog W a (.func (.func 147) #[] #[]) m := fun a W m => run_store Tryz.prog W a _ m rfl
  have G1 := Lib.hid g1; have G2 := Lib.hid g2; have BL := Lib.hid bel
  have d0 : ((wd : Int) != (wd : Int)) = false := by simp
  have N1 : Hid (∀ w1, Below w.heap.size w w1 → Calls Tryz.prog 40 #[.agg #[.int .i64 (wd : Int), .slice a1 k1 c1]] w1 fun e w' => ∃ v', e = .returned v' ∧ IntV w' v' (((m : Nat) : Int)) ∧ Below w1.heap.size w1 w') := Lib.hid (fun w1 hw => unsigned_any _ wd m w1 (HA.out.below hw))
  have N2 : Hid (∀ w1, Below w.heap.size w w1 → Calls Tryz.prog 40 #[.agg #[.int .i64 (wd : Int), .slice a2 k2 c2]] w1 fun e w' => ∃ v', e = .returned v' ∧ IntV w' v' (((n : Nat) : Int)) ∧ Below w1.heap.size w1 w') := Lib.hid (fun w1 hw => unsigned_any _ wd n w1 (HB.out.below hw))
  generalize ((m : Nat) : Int) = X at *
  generalize ((n : Nat) : Int) = Y at *
  have CM : Hid (∀ va vb w1, IntV w1 va X → IntV w1 vb Y → Calls Tryz.prog 21 #[va, vb] w1 fun e w' => e = .returned (.int .i64 (zcmp X Y)) ∧ Below w1.heap.size w1 w') := Lib.hid (fun va vb w1 hx hy => cmpF va vb X Y _ w1 hx hy rfl)
  have TS : Hid (∀ w1, Calls Tryz.prog 147 #[.int .i64 (zcmp X Y)] w1 fun e w' => e = .returned (.bool (decide (X ≤ Y))) ∧ w' = w1) := Lib.hid (fun w1 => isNotAbove_any X Y w1)
  generalize zcmp X Y = o at *
  generalize (decide (X ≤ Y)) = B at *
  clear s1 l1 b1 v1 s2 l2 b2 v2 g1 g2 bel hm hn HA HB
  go_enter Tryz.func27, Tryz.ntmps27
  go_wp2_with fail
  try rw [eW]
  refine OP.out.mono ?_
  rintro e w2 ⟨rfl, hb2⟩
  obtain ⟨V, eV, gV, bV, hVs⟩ := alloc1n w2 (Obj.cells #[.func (.func 40) #[] #[], .func (.func 147) #[] #[]] 103)
  have BV := Lib.hid (below_of (below_of BL.out hb2) bV)
  have H1 := Lib.hid (car bV (car hb2 G1.out)); have H2 := Lib.hid (car bV (car hb2 G2.out)); have H0 := Lib.hid gV
  obtain ⟨p0, p1, -, -, _⟩ := blk2 H1.out
  obtain ⟨q0, q1, -, -, _⟩ := blk2 H2.out
  clear hb2 bV gV
  go_upto_region 2 with fail
  try rw [eV]
  go_wp2_with fail
  refine (R1.out _ BV.out).mono ?_
  rintro e w3 ⟨rfl, hb3⟩
  have B3 := Lib.hid (below_of BV.out hb3)
  have H31 := Lib.hid (car hb3 H1.out); have H32 := Lib.hid (car hb3 H2.out); have H30 := Lib.hid (car hb3 H0.out)
  obtain ⟨p0', p1', -, -, _⟩ := blk2 H31.out
  obtain ⟨q0', q1', -, -, _⟩ := blk2 H32.out
  clear hb3 p0 p1 q0 q1
  go_wp2_with fail
  refine (R2.out _ B3.out).mono ?_
  rintro e w4 ⟨rfl, hb4⟩
  have B4 := Lib.hid (below_of B3.out hb4)
  have H41 := Lib.hid (car hb4 H31.out); have H42 := Lib.hid (car hb4 H32.out); have H40 := Lib.hid (car hb4 H30.out)
  obtain ⟨p0, p1, -, -, _⟩ := blk2 H41.out
  obtain ⟨q0, q1, -, -, _⟩ := blk2 H42.out
  clear hb4 p0' p1' q0' q1'
  go_upto_region 8 with fail
  obtain ⟨x0, x1, -, -, _⟩ := blk2 H40.out
  have STAY : Hid (∀ w', Below w4.heap.size w4 w' → w'.cell? ⟨w.heap.size, 0, none⟩ = some (.int .i64 (wd : Int)) ∧ w'.cell? ⟨w.heap.size, 1, none⟩ = some (.slice a1 k1 c1) ∧ w'.cell? ⟨w.heap.size + 1, 0, none⟩ = some (.int .i64 (wd : Int)) ∧ w'.cell? ⟨w.heap.size + 1, 1, none⟩ = some (.slice a2 k2 c2) ∧ w'.cell? ⟨w2.heap.size, 0, none⟩ = some (.func (.func 40) #[] #[]) ∧ w'.cell? ⟨w2.heap.size, 1, none⟩ = some (.func (.func 147) #[] #[]) ∧ Below w4.heap.size w4 w') := Lib.hid (fun w' hb => by
    obtain ⟨e0, e1, -, -, _⟩ := blk2 (car hb H41.out)
    obtain ⟨e2, e3, -, -, _⟩ := blk2 (car hb H42.out)
    obtain ⟨e4, e5, -, -, _⟩ := blk2 (car hb H40.out)
    exact ⟨e0, e1, e2, e3, e4, e5, hb⟩)
  have hB0 := Below.refl w4.heap.size w4
  clear p0 p1 q0 q1 x0 x1
  go_region_held3 (fun w' => w'.cell? ⟨w.heap.size, 0, none⟩ = some (.int .i64 (wd : Int)) ∧ w'.cell? ⟨w.heap.size, 1, none⟩ = some (.slice a1 k1 c1) ∧ w'.cell? ⟨w.heap.size + 1, 0, none⟩ = some (.int .i64 (wd : Int)) ∧ w'.cell? ⟨w.heap.size + 1, 1, none⟩ = some (.slice a2 k2 c2) ∧ w'.cell? ⟨w2.heap.size, 0, none⟩ = some (.func (.func 40) #[] #[]) ∧ w'.cell? ⟨w2.heap.size, 1, none⟩ = some (.func (.func 147) #[] #[]) ∧ Below w4.heap.size w4 w')
    (((try go_split_ands); refine STAY.out _ ?_; repeat (first | (with_reducible assumption) | (with_reducible exact Below.refl _ _) | (with_reducible refine Below.drew ?_))))
    (first
    | (have tk := T3; go_at_call 147; (with_reducible refine Calls.mono (TS.out _) ?_); rintro e w8 ⟨rfl, rfl⟩)
    | (have tk := I6; go_at_call 21; (with_reducible refine Calls.mono (CM.out _ _ _ ?_ ?_) ?_); (first | exact I5'.out | exact I5'.out.below (Below.refl _ _).drew); (first | exact I6.out | exact I6.out.below (Below.refl _ _).drew); rintro e w7 ⟨rfl, hb7⟩; have hk7 : Below w4.heap.size w4 w7 := (by first | exact below_to9 hb7 hk6 | exact below_to9 hb7 hk6.drew); have T3 : True := trivial; clear hb7)
    | (have tk := I5; go_at_call 40; (with_reducible refine Calls.mono (N2.out _ (below_of B4.out (by first | exact hk5 | exact hk5.drew))) ?_); rintro e w6 ⟨v6, rfl, hi6, hb6⟩; have hk6 : Below w4.heap.size w4 w6 := (by first | exact below_to9 hb6 hk5 | exact below_to9 hb6 hk5.drew); have I6 := Lib.hid hi6; have I5' := Lib.hid (show IntV w6 _ _ from (by first | exact I5.out.below hb6 | exact I5.out.below (bel_d hb6))); obtain ⟨n6, a6, k6, k6', rfl⟩ := hi6.shape; clear hi6 hb6)
    | (go_at_call 40; (with_reducible refine Calls.mono (N1.out _ (below_of B4.out (by first | exact Below.refl _ _ | exact (Below.refl _ _).drew))) ?_); rintro e w5 ⟨v5, rfl, hi5, hb5⟩; have hk5 : Below w4.heap.size w4 w5 := (by first | exact below_to9 hb5 hB0 | exact below_to9 hb5 hB0.drew); have I5 := Lib.hid hi5; obtain ⟨n5, a5, k5, k5', rfl⟩ := hi5.shape; clear hi5 hb5))
  all_goals
    go_wp2
    go_ret2
    exact ⟨rfl, below_of B4.out (by first | exact hk7 | exact hk7.drew)⟩
end Go.Proofs.YtccofiakblmkhaaGreat

/- bits: Holds of two vectors of one width (ugt). -/
namespace Go.Proofs.YtccofiakblmkhaaGreat
open Go.RowKit Mth

set_option maxHeartbeats 8000000 in
set_option maxRecDepth 100000 in
theorem holds_ugt (va vb : Value) (wd m n : Nat) (h1 : 1 ≤ wd) (h2 : wd ≤ 4096) (hm : m < 2 ^ wd) (hn : n < 2 ^ wd) (w : World) (ha : BvV w va wd m) (hb : BvV w vb wd n) :
    Calls Tryz.prog 27 #[.int .i64 70, va, vb] w fun e w' => e = .returned (.tuple #[.bool (decide (((n : Nat) : Int) < ((m : Nat) : Int))), .int .i64 0]) ∧ Below w.heap.size w w' := by
  have HA := Lib.hid ha; have HB := Lib.hid hb
  obtain ⟨u1, xs, rfl, s1, l1, b1, v1⟩ := ha
  obtain ⟨u2, ys, rfl, s2, l2, b2, v2⟩ := hb
  have R1 : Hid (∀ w1, Below w.heap.size w w1 → Calls Tryz.prog 22 #[.agg #[.int .i64 (wd : Int), u1]] w1 fun e w' => e = .returned (.bool true) ∧ Below w1.heap.size w1 w') := Lib.hid (fun w1 hw => by
    have h := right_any (wd : Int) u1 xs w1 (s1.below hw) l1
    rw [v1, right_fine h1 h2 hm] at h
    exact h)
  have R2 : Hid (∀ w1, Below w.heap.size w w1 → Calls Tryz.prog 22 #[.agg #[.int .i64 (wd : Int), u2]] w1 fun e w' => e = .returned (.bool true) ∧ Below w1.heap.size w1 w') := Lib.hid (fun w1 hw => by
    have h := right_any (wd : Int) u2 ys w1 (s2.below hw) l2
    rw [v2, right_fine h1 h2 hn] at h
    exact h)
  obtain ⟨a1, c1, rfl⟩ := s1.shape
  obtain ⟨a2, c2, rfl⟩ := s2.shape
  generalize xs.length = k1 at *
  generalize ys.length = k2 at *
  obtain ⟨W, eW, g1, g2, bel, hsz⟩ := alloc2 w (Obj.cells #[.int .i64 (wd : Int), .slice a1 k1 c1] 28) (Obj.cells #[.int .i64 (wd : Int), .slice a2 k2 c2] 28)
  have OP : Hid (Calls Tryz.prog 58 #[.int .i64 70] W fun e w' => e = .returned (.tuple #[.agg #[.func (.func 40) #[] #[], .func (.func 148) #[] #[]], .bool true]) ∧ Below W.heap.size W w') := Lib.hid (orderOf_at 70 (by omega) 40 148 (by kernel_rfl) (by kernel_rfl) W)
  have hs1 : ∀ (a : Addr) (W : World) m, Sem.run Tryz.prog (store a (.func (.func 40) #[] #[]) m) W = stored Tryz.prog W a (.func (.func 40) #[] #[]) m := fun a W m => run_store Tryz.prog W a _ m rfl
  have hs2 : ∀ (a : Addr) (W : World) m, Sem.run Tryz.prog (store a (.func (.func 148) #[] #[]) m) W = stored Tryz.prog W a (.func (.func 148) #[] #[]) m := fun a W m => run_store Tryz.prog W a _ m rfl
  have G1 := Lib.hid g1; have G2 := Lib.hid g2; have BL := Lib.hid bel
  have d0 : ((wd : Int) != (wd : Int)) = false := by simp
  have N1 : Hid (∀ w1, Below w.heap.size w w1 → Calls Tryz.prog 40 #[.agg #[.int .i64 (wd : Int), .slice a1 k1 c1]] w1 fun e w' => ∃ v', e = .returned v' ∧ IntV w' v' (((m : Nat) : Int)) ∧ Below w1.heap.size w1 w') := Lib.hid (fun w1 hw => unsigned_any _ wd m w1 (HA.out.below hw))
  have N2 : Hid (∀ w1, Below w.heap.size w w1 → Calls Tryz.prog 40 #[.agg #[.int .i64 (wd : Int), .slice a2 k2 c2]] w1 fun e w' => ∃ v', e = .returned v' ∧ IntV w' v' (((n : Nat) : Int)) ∧ Below w1.heap.size w1 w') := Lib.hid (fun w1 hw => unsigned_any _ wd n w1 (HB.out.below hw))
  generalize ((m : Nat) : Int) = X at *
  generalize ((n : Nat) : Int) = Y at *
  have CM : Hid (∀ va vb w1, IntV w1 va X → IntV w1 vb Y → Calls Tryz.prog 21 #[va, vb] w1 fun e w' => e = .returned (.int .i64 (zcmp X Y)) ∧ Below w1.heap.size w1 w') := Lib.hid (fun va vb w1 hx hy => cmpF va vb X Y _ w1 hx hy rfl)
  have TS : Hid (∀ w1, Calls Tryz.prog 148 #[.int .i64 (zcmp X Y)] w1 fun e w' => e = .returned (.bool (decide (Y < X))) ∧ w' = w1) := Lib.hid (fun w1 => isAbove_any X Y w1)
  generalize zcmp X Y = o at *
  generalize (decide (Y < X)) = B at *
  clear s1 l1 b1 v1 s2 l2 b2 v2 g1 g2 bel hm hn HA HB
  go_enter Tryz.func27, Tryz.ntmps27
  go_wp2_with fail
  try rw [eW]
  refine OP.out.mono ?_
  rintro e w2 ⟨rfl, hb2⟩
  obtain ⟨V, eV, gV, bV, hVs⟩ := alloc1n w2 (Obj.cells #[.func (.func 40) #[] #[], .func (.func 148) #[] #[]] 103)
  have BV := Lib.hid (below_of (below_of BL.out hb2) bV)
  have H1 := Lib.hid (car bV (car hb2 G1.out)); have H2 := Lib.hid (car bV (car hb2 G2.out)); have H0 := Lib.hid gV
  obtain ⟨p0, p1, -, -, _⟩ := blk2 H1.out
  obtain ⟨q0, q1, -, -, _⟩ := blk2 H2.out
  clear hb2 bV gV
  go_upto_region 2 with fail
  try rw [eV]
  go_wp2_with fail
  refine (R1.out _ BV.out).mono ?_
  rintro e w3 ⟨rfl, hb3⟩
  have B3 := Lib.hid (below_of BV.out hb3)
  have H31 := Lib.hid (car hb3 H1.out); have H32 := Lib.hid (car hb3 H2.out); have H30 := Lib.hid (car hb3 H0.out)
  obtain ⟨p0', p1', -, -, _⟩ := blk2 H31.out
  obtain ⟨q0', q1', -, -, _⟩ := blk2 H32.out
  clear hb3 p0 p1 q0 q1
  go_wp2_with fail
  refine (R2.out _ B3.out).mono ?_
  rintro e w4 ⟨rfl, hb4⟩
  have B4 := Lib.hid (below_of B3.out hb4)
  have H41 := Lib.hid (car hb4 H31.out); have H42 := Lib.hid (car hb4 H32.out); have H40 := Lib.hid (car hb4 H30.out)
  obtain ⟨p0, p1, -, -, _⟩ := blk2 H41.out
  obtain ⟨q0, q1, -, -, _⟩ := blk2 H42.out
  clear hb4 p0' p1' q0' q1'
  go_upto_region 8 with fail
  obtain ⟨x0, x1, -, -, _⟩ := blk2 H40.out
  have STAY : Hid (∀ w', Below w4.heap.size w4 w' → w'.cell? ⟨w.heap.size, 0, none⟩ = some (.int .i64 (wd : Int)) ∧ w'.cell? ⟨w.heap.size, 1, none⟩ = some (.slice a1 k1 c1) ∧ w'.cell? ⟨w.heap.size + 1, 0, none⟩ = some (.int .i64 (wd : Int)) ∧ w'.cell? ⟨w.heap.size + 1, 1, none⟩ = some (.slice a2 k2 c2) ∧ w'.cell? ⟨w2.heap.size, 0, none⟩ = some (.func (.func 40) #[] #[]) ∧ w'.cell? ⟨w2.heap.size, 1, none⟩ = some (.func (.func 148) #[] #[]) ∧ Below w4.heap.size w4 w') := Lib.hid (fun w' hb => by
    obtain ⟨e0, e1, -, -, _⟩ := blk2 (car hb H41.out)
    obtain ⟨e2, e3, -, -, _⟩ := blk2 (car hb H42.out)
    obtain ⟨e4, e5, -, -, _⟩ := blk2 (car hb H40.out)
    exact ⟨e0, e1, e2, e3, e4, e5, hb⟩)
  have hB0 := Below.refl w4.heap.size w4
  clear p0 p1 q0 q1 x0 x1
  go_region_held3 (fun w' => w'.cell? ⟨w.heap.size, 0, none⟩ = some (.int .i64 (wd : Int)) ∧ w'.cell? ⟨w.heap.size, 1, none⟩ = some (.slice a1 k1 c1) ∧ w'.cell? ⟨w.heap.size + 1, 0, none⟩ = some (.int .i64 (wd : Int)) ∧ w'.cell? ⟨w.heap.size + 1, 1, none⟩ = some (.slice a2 k2 c2) ∧ w'.cell? ⟨w2.heap.size, 0, none⟩ = some (.func (.func 40) #[] #[]) ∧ w'.cell? ⟨w2.heap.size, 1, none⟩ = some (.func (.func 148) #[] #[]) ∧ Below w4.heap.size w4 w')
    (((try go_split_ands); refine STAY.out _ ?_; repeat (first | (with_reducible assumption) | (with_reducible exact Below.refl _ _) | (with_reducible refine Below.drew ?_))))
    (first
    | (have tk := T3; go_at_call 148; (with_reducible refine Calls.mono (TS.out _) ?_); rintro e w8 ⟨rfl, rfl⟩)
    | (have tk := I6; go_at_call 21; (with_reducible refine Calls.mono (CM.out _ _ _ ?_ ?_) ?_); (first | exact I5'.out | exact I5'.out.below (Below.refl _ _).drew); (first | exact I6.out | exact I6.out.below (Below.refl _ _).drew); rintro e w7 ⟨rfl, hb7⟩; have hk7 : Below w4.heap.size w4 w7 := (by first | exact below_to9 hb7 hk6 | exact below_to9 hb7 hk6.drew); have T3 : True := trivial; clear hb7)
    | (have tk := I5; go_at_call 40; (with_reducible refine Calls.mono (N2.out _ (below_of B4.out (by first | exact hk5 | exact hk5.drew))) ?_); rintro e w6 ⟨v6, rfl, hi6, hb6⟩; have hk6 : Below w4.heap.size w4 w6 := (by first | exact below_to9 hb6 hk5 | exact below_to9 hb6 hk5.drew); have I6 := Lib.hid hi6; have I5' := Lib.hid (show IntV w6 _ _ from (by first | exact I5.out.below hb6 | exact I5.out.below (bel_d hb6))); obtain ⟨n6, a6, k6, k6', rfl⟩ := hi6.shape; clear hi6 hb6)
    | (go_at_call 40; (with_reducible refine Calls.mono (N1.out _ (below_of B4.out (by first | exact Below.refl _ _ | exact (Below.refl _ _).drew))) ?_); rintro e w5 ⟨v5, rfl, hi5, hb5⟩; have hk5 : Below w4.heap.size w4 w5 := (by first | exact below_to9 hb5 hB0 | exact below_to9 hb5 hB0.drew); have I5 := Lib.hid hi5; obtain ⟨n5, a5, k5, k5', rfl⟩ := hi5.shape; clear hi5 hb5))
  all_goals
    go_wp2
    go_ret2
    exact ⟨rfl, below_of B4.out (by first | exact hk7 | exact hk7.drew)⟩
end Go.Proofs.YtccofiakblmkhaaGreat

/- bits: Holds of two vectors of one width (uge). -/
namespace Go.Proofs.YtccofiakblmkhaaGreat
open Go.RowKit Mth

set_option maxHeartbeats 8000000 in
set_option maxRecDepth 100000 in
theorem holds_uge (va vb : Value) (wd m n : Nat) (h1 : 1 ≤ wd) (h2 : wd ≤ 4096) (hm : m < 2 ^ wd) (hn : n < 2 ^ wd) (w : World) (ha : BvV w va wd m) (hb : BvV w vb wd n) :
    Calls Tryz.prog 27 #[.int .i64 71, va, vb] w fun e w' => e = .returned (.tuple #[.bool (decide (((n : Nat) : Int) ≤ ((m : Nat) : Int))), .int .i64 0]) ∧ Below w.heap.size w w' := by
  have HA := Lib.hid ha; have HB := Lib.hid hb
  obtain ⟨u1, xs, rfl, s1, l1, b1, v1⟩ := ha
  obtain ⟨u2, ys, rfl, s2, l2, b2, v2⟩ := hb
  have R1 : Hid (∀ w1, Below w.heap.size w w1 → Calls Tryz.prog 22 #[.agg #[.int .i64 (wd : Int), u1]] w1 fun e w' => e = .returned (.bool true) ∧ Below w1.heap.size w1 w') := Lib.hid (fun w1 hw => by
    have h := right_any (wd : Int) u1 xs w1 (s1.below hw) l1
    rw [v1, right_fine h1 h2 hm] at h
    exact h)
  have R2 : Hid (∀ w1, Below w.heap.size w w1 → Calls Tryz.prog 22 #[.agg #[.int .i64 (wd : Int), u2]] w1 fun e w' => e = .returned (.bool true) ∧ Below w1.heap.size w1 w') := Lib.hid (fun w1 hw => by
    have h := right_any (wd : Int) u2 ys w1 (s2.below hw) l2
    rw [v2, right_fine h1 h2 hn] at h
    exact h)
  obtain ⟨a1, c1, rfl⟩ := s1.shape
  obtain ⟨a2, c2, rfl⟩ := s2.shape
  generalize xs.length = k1 at *
  generalize ys.length = k2 at *
  obtain ⟨W, eW, g1, g2, bel, hsz⟩ := alloc2 w (Obj.cells #[.int .i64 (wd : Int), .slice a1 k1 c1] 28) (Obj.cells #[.int .i64 (wd : Int), .slice a2 k2 c2] 28)
  have OP : Hid (Calls Tryz.prog 58 #[.int .i64 71] W fun e w' => e = .returned (.tuple #[.agg #[.func (.func 40) #[] #[], .func (.func 149) #[] #[]], .bool true]) ∧ Below W.heap.size W w') := Lib.hid (orderOf_at 71 (by omega) 40 149 (by kernel_rfl) (by kernel_rfl) W)
  have hs1 : ∀ (a : Addr) (W : World) m, Sem.run Tryz.prog (store a (.func (.func 40) #[] #[]) m) W = stored Tryz.prog W a (.func (.func 40) #[] #[]) m := fun a W m => run_store Tryz.prog W a _ m rfl
  have hs2 : ∀ (a : Addr) (W : World) m, Sem.run Tryz.prog (store a (.func (.func 149) #[] #[]) m) W = stored Tryz.prog W a (.func (.func 149) #[] #[]) m := fun a W m => run_store Tryz.prog W a _ m rfl
  have G1 := Lib.hid g1; have G2 := Lib.hid g2; have BL := Lib.hid bel
  have d0 : ((wd : Int) != (wd : Int)) = false := by simp
  have N1 : Hid (∀ w1, Below w.heap.size w w1 → Calls Tryz.prog 40 #[.agg #[.int .i64 (wd : Int), .slice a1 k1 c1]] w1 fun e w' => ∃ v', e = .returned v' ∧ IntV w' v' (((m : Nat) : Int)) ∧ Below w1.heap.size w1 w') := Lib.hid (fun w1 hw => unsigned_any _ wd m w1 (HA.out.below hw))
  have N2 : Hid (∀ w1, Below w.heap.size w w1 → Calls Tryz.prog 40 #[.agg #[.int .i64 (wd : Int), .slice a2 k2 c2]] w1 fun e w' => ∃ v', e = .returned v' ∧ IntV w' v' (((n : Nat) : Int)) ∧ Below w1.heap.size w1 w') := Lib.hid (fun w1 hw => unsigned_any _ wd n w1 (HB.out.below hw))
  generalize ((m : Nat) : Int) = X at *
  generalize ((n : Nat) : Int) = Y at *
  have CM : Hid (∀ va vb w1, IntV w1 va X → IntV w1 vb Y → Calls Tryz.prog 21 #[va, vb] w1 fun e w' => e = .returned (.int .i64 (zcmp X Y)) ∧ Below w1.heap.size w1 w') := Lib.hid (fun va vb w1 hx hy => cmpF va vb X Y _ w1 hx hy rfl)
  have TS : Hid (∀ w1, Calls Tryz.prog 149 #[.int .i64 (zcmp X Y)] w1 fun e w' => e = .returned (.bool (decide (Y ≤ X))) ∧ w' = w1) := Lib.hid (fun w1 => isNotBelow_any X Y w1)
  generalize zcmp X Y = o at *
  generalize (decide (Y ≤ X)) = B at *
  clear s1 l1 b1 v1 s2 l2 b2 v2 g1 g2 bel hm hn HA HB
  go_enter Tryz.func27, Tryz.ntmps27
  go_wp2_with fail
  try rw [eW]
  refine OP.out.mono ?_
  rintro e w2 ⟨rfl, hb2⟩
  obtain ⟨V, eV, gV, bV, hVs⟩ := alloc1n w2 (Obj.cells #[.func (.func 40) #[] #[], .func (.func 149) #[] #[]] 103)
  have BV := Lib.hid (below_of (below_of BL.out hb2) bV)
  have H1 := Lib.hid (car bV (car hb2 G1.out)); have H2 := Lib.hid (car bV (car hb2 G2.out)); have H0 := Lib.hid gV
  obtain ⟨p0, p1, -, -, _⟩ := blk2 H1.out
  obtain ⟨q0, q1, -, -, _⟩ := blk2 H2.out
  clear hb2 bV gV
  go_upto_region 2 with fail
  try rw [eV]
  go_wp2_with fail
  refine (R1.out _ BV.out).mono ?_
  rintro e w3 ⟨rfl, hb3⟩
  have B3 := Lib.hid (below_of BV.out hb3)
  have H31 := Lib.hid (car hb3 H1.out); have H32 := Lib.hid (car hb3 H2.out); have H30 := Lib.hid (car hb3 H0.out)
  obtain ⟨p0', p1', -, -, _⟩ := blk2 H31.out
  obtain ⟨q0', q1', -, -, _⟩ := blk2 H32.out
  clear hb3 p0 p1 q0 q1
  go_wp2_with fail
  refine (R2.out _ B3.out).mono ?_
  rintro e w4 ⟨rfl, hb4⟩
  have B4 := Lib.hid (below_of B3.out hb4)
  have H41 := Lib.hid (car hb4 H31.out); have H42 := Lib.hid (car hb4 H32.out); have H40 := Lib.hid (car hb4 H30.out)
  obtain ⟨p0, p1, -, -, _⟩ := blk2 H41.out
  obtain ⟨q0, q1, -, -, _⟩ := blk2 H42.out
  clear hb4 p0' p1' q0' q1'
  go_upto_region 8 with fail
  obtain ⟨x0, x1, -, -, _⟩ := blk2 H40.out
  have STAY : Hid (∀ w', Below w4.heap.size w4 w' → w'.cell? ⟨w.heap.size, 0, none⟩ = some (.int .i64 (wd : Int)) ∧ w'.cell? ⟨w.heap.size, 1, none⟩ = some (.slice a1 k1 c1) ∧ w'.cell? ⟨w.heap.size + 1, 0, none⟩ = some (.int .i64 (wd : Int)) ∧ w'.cell? ⟨w.heap.size + 1, 1, none⟩ = some (.slice a2 k2 c2) ∧ w'.cell? ⟨w2.heap.size, 0, none⟩ = some (.func (.func 40) #[] #[]) ∧ w'.cell? ⟨w2.heap.size, 1, none⟩ = some (.func (.func 149) #[] #[]) ∧ Below w4.heap.size w4 w') := Lib.hid (fun w' hb => by
    obtain ⟨e0, e1, -, -, _⟩ := blk2 (car hb H41.out)
    obtain ⟨e2, e3, -, -, _⟩ := blk2 (car hb H42.out)
    obtain ⟨e4, e5, -, -, _⟩ := blk2 (car hb H40.out)
    exact ⟨e0, e1, e2, e3, e4, e5, hb⟩)
  have hB0 := Below.refl w4.heap.size w4
  clear p0 p1 q0 q1 x0 x1
  go_region_held3 (fun w' => w'.cell? ⟨w.heap.size, 0, none⟩ = some (.int .i64 (wd : Int)) ∧ w'.cell? ⟨w.heap.size, 1, none⟩ = some (.slice a1 k1 c1) ∧ w'.cell? ⟨w.heap.size + 1, 0, none⟩ = some (.int .i64 (wd : Int)) ∧ w'.cell? ⟨w.heap.size + 1, 1, none⟩ = some (.slice a2 k2 c2) ∧ w'.cell? ⟨w2.heap.size, 0, none⟩ = some (.func (.func 40) #[] #[]) ∧ w'.cell? ⟨w2.heap.size, 1, none⟩ = some (.func (.func 149) #[] #[]) ∧ Below w4.heap.size w4 w')
    (((try go_split_ands); refine STAY.out _ ?_; repeat (first | (with_reducible assumption) | (with_reducible exact Below.refl _ _) | (with_reducible refine Below.drew ?_))))
    (first
    | (have tk := T3; go_at_call 149; (with_reducible refine Calls.mono (TS.out _) ?_); rintro e w8 ⟨rfl, rfl⟩)
    | (have tk := I6; go_at_call 21; (with_reducible refine Calls.mono (CM.out _ _ _ ?_ ?_) ?_); (first | exact I5'.out | exact I5'.out.below (Below.refl _ _).drew); (first | exact I6.out | exact I6.out.below (Below.refl _ _).drew); rintro e w7 ⟨rfl, hb7⟩; have hk7 : Below w4.heap.size w4 w7 := (by first | exact below_to9 hb7 hk6 | exact below_to9 hb7 hk6.drew); have T3 : True := trivial; clear hb7)
    | (have tk := I5; go_at_call 40; (with_reducible refine Calls.mono (N2.out _ (below_of B4.out (by first | exact hk5 | exact hk5.drew))) ?_); rintro e w6 ⟨v6, rfl, hi6, hb6⟩; have hk6 : Below w4.heap.size w4 w6 := (by first | exact below_to9 hb6 hk5 | exact below_to9 hb6 hk5.drew); have I6 := Lib.hid hi6; have I5' := Lib.hid (show IntV w6 _ _ from (by first | exact I5.out.below hb6 | exact I5.out.below (bel_d hb6))); obtain ⟨n6, a6, k6, k6', rfl⟩ := hi6.shape; clear hi6 hb6)
    | (go_at_call 40; (with_reducible refine Calls.mono (N1.out _ (below_of B4.out (by first | exact Below.refl _ _ | exact (Below.refl _ _).drew))) ?_); rintro e w5 ⟨v5, rfl, hi5, hb5⟩; have hk5 : Below w4.heap.size w4 w5 := (by first | exact below_to9 hb5 hB0 | exact below_to9 hb5 hB0.drew); have I5 := Lib.hid hi5; obtain ⟨n5, a5, k5, k5', rfl⟩ := hi5.shape; clear hi5 hb5))
  all_goals
    go_wp2
    go_ret2
    exact ⟨rfl, below_of B4.out (by first | exact hk7 | exact hk7.drew)⟩
end Go.Proofs.YtccofiakblmkhaaGreat

/- bits: Holds of two vectors of one width (sle). -/
namespace Go.Proofs.YtccofiakblmkhaaGreat
open Go.RowKit Mth

set_option maxHeartbeats 8000000 in
set_option maxRecDepth 100000 in
theorem holds_sle (va vb : Value) (wd m n : Nat) (h1 : 1 ≤ wd) (h2 : wd ≤ 4096) (hm : m < 2 ^ wd) (hn : n < 2 ^ wd) (w : World) (ha : BvV w va wd m) (hb : BvV w vb wd n) :
    Calls Tryz.prog 27 #[.int .i64 73, va, vb] w fun e w' => e = .returned (.tuple #[.bool (decide (sgV wd m ≤ sgV wd n)), .int .i64 0]) ∧ Below w.heap.size w w' := by
  have HA := Lib.hid ha; have HB := Lib.hid hb
  obtain ⟨u1, xs, rfl, s1, l1, b1, v1⟩ := ha
  obtain ⟨u2, ys, rfl, s2, l2, b2, v2⟩ := hb
  have R1 : Hid (∀ w1, Below w.heap.size w w1 → Calls Tryz.prog 22 #[.agg #[.int .i64 (wd : Int), u1]] w1 fun e w' => e = .returned (.bool true) ∧ Below w1.heap.size w1 w') := Lib.hid (fun w1 hw => by
    have h := right_any (wd : Int) u1 xs w1 (s1.below hw) l1
    rw [v1, right_fine h1 h2 hm] at h
    exact h)
  have R2 : Hid (∀ w1, Below w.heap.size w w1 → Calls Tryz.prog 22 #[.agg #[.int .i64 (wd : Int), u2]] w1 fun e w' => e = .returned (.bool true) ∧ Below w1.heap.size w1 w') := Lib.hid (fun w1 hw => by
    have h := right_any (wd : Int) u2 ys w1 (s2.below hw) l2
    rw [v2, right_fine h1 h2 hn] at h
    exact h)
  obtain ⟨a1, c1, rfl⟩ := s1.shape
  obtain ⟨a2, c2, rfl⟩ := s2.shape
  generalize xs.length = k1 at *
  generalize ys.length = k2 at *
  obtain ⟨W, eW, g1, g2, bel, hsz⟩ := alloc2 w (Obj.cells #[.int .i64 (wd : Int), .slice a1 k1 c1] 28) (Obj.cells #[.int .i64 (wd : Int), .slice a2 k2 c2] 28)
  have OP : Hid (Calls Tryz.prog 58 #[.int .i64 73] W fun e w' => e = .returned (.tuple #[.agg #[.func (.func 43) #[] #[], .func (.func 147) #[] #[]], .bool true]) ∧ Below W.heap.size W w') := Lib.hid (orderOf_at 73 (by omega) 43 147 (by kernel_rfl) (by kernel_rfl) W)
  have hs1 : ∀ (a : Addr) (W : World) m, Sem.run Tryz.prog (store a (.func (.func 43) #[] #[]) m) W = stored Tryz.prog W a (.func (.func 43) #[] #[]) m := fun a W m => run_store Tryz.prog W a _ m rfl
  have hs2 : ∀ (a : Addr) (W : World) m, Sem.run Tryz.prog (store a (.func (.func 147) #[] #[]) m) W = stored Tryz.prog W a (.func (.func 147) #[] #[]) m := fun a W m => run_store Tryz.prog W a _ m rfl
  have G1 := Lib.hid g1; have G2 := Lib.hid g2; have BL := Lib.hid bel
  have d0 : ((wd : Int) != (wd : Int)) = false := by simp
  have N1 : Hid (∀ w1, Below w.heap.size w w1 → Calls Tryz.prog 43 #[.agg #[.int .i64 (wd : Int), .slice a1 k1 c1]] w1 fun e w' => ∃ v', e = .returned v' ∧ IntV w' v' (sgV wd m) ∧ Below w1.heap.size w1 w') := Lib.hid (fun w1 hw => signed_any _ wd m h1 h2 hm w1 (HA.out.below hw))
  have N2 : Hid (∀ w1, Below w.heap.size w w1 → Calls Tryz.prog 43 #[.agg #[.int .i64 (wd : Int), .slice a2 k2 c2]] w1 fun e w' => ∃ v', e = .returned v' ∧ IntV w' v' (sgV wd n) ∧ Below w1.heap.size w1 w') := Lib.hid (fun w1 hw => signed_any _ wd n h1 h2 hn w1 (HB.out.below hw))
  generalize sgV wd m = X at *
  generalize sgV wd n = Y at *
  have CM : Hid (∀ va vb w1, IntV w1 va X → IntV w1 vb Y → Calls Tryz.prog 21 #[va, vb] w1 fun e w' => e = .returned (.int .i64 (zcmp X Y)) ∧ Below w1.heap.size w1 w') := Lib.hid (fun va vb w1 hx hy => cmpF va vb X Y _ w1 hx hy rfl)
  have TS : Hid (∀ w1, Calls Tryz.prog 147 #[.int .i64 (zcmp X Y)] w1 fun e w' => e = .returned (.bool (decide (X ≤ Y))) ∧ w' = w1) := Lib.hid (fun w1 => isNotAbove_any X Y w1)
  generalize zcmp X Y = o at *
  generalize (decide (X ≤ Y)) = B at *
  clear s1 l1 b1 v1 s2 l2 b2 v2 g1 g2 bel hm hn HA HB
  go_enter Tryz.func27, Tryz.ntmps27
  go_wp2_with fail
  try rw [eW]
  refine OP.out.mono ?_
  rintro e w2 ⟨rfl, hb2⟩
  obtain ⟨V, eV, gV, bV, hVs⟩ := alloc1n w2 (Obj.cells #[.func (.func 43) #[] #[], .func (.func 147) #[] #[]] 103)
  have BV := Lib.hid (below_of (below_of BL.out hb2) bV)
  have H1 := Lib.hid (car bV (car hb2 G1.out)); have H2 := Lib.hid (car bV (car hb2 G2.out)); have H0 := Lib.hid gV
  obtain ⟨p0, p1, -, -, _⟩ := blk2 H1.out
  obtain ⟨q0, q1, -, -, _⟩ := blk2 H2.out
  clear hb2 bV gV
  go_upto_region 2 with fail
  try rw [eV]
  go_wp2_with fail
  refine (R1.out _ BV.out).mono ?_
  rintro e w3 ⟨rfl, hb3⟩
  have B3 := Lib.hid (below_of BV.out hb3)
  have H31 := Lib.hid (car hb3 H1.out); have H32 := Lib.hid (car hb3 H2.out); have H30 := Lib.hid (car hb3 H0.out)
  obtain ⟨p0', p1', -, -, _⟩ := blk2 H31.out
  obtain ⟨q0', q1', -, -, _⟩ := blk2 H32.out
  clear hb3 p0 p1 q0 q1
  go_wp2_with fail
  refine (R2.out _ B3.out).mono ?_
  rintro e w4 ⟨rfl, hb4⟩
  have B4 := Lib.hid (below_of B3.out hb4)
  have H41 := Lib.hid (car hb4 H31.out); have H42 := Lib.hid (car hb4 H32.out); have H40 := Lib.hid (car hb4 H30.out)
  obtain ⟨p0, p1, -, -, _⟩ := blk2 H41.out
  obtain ⟨q0, q1, -, -, _⟩ := blk2 H42.out
  clear hb4 p0' p1' q0' q1'
  go_upto_region 8 with fail
  obtain ⟨x0, x1, -, -, _⟩ := blk2 H40.out
  have STAY : Hid (∀ w', Below w4.heap.size w4 w' → w'.cell? ⟨w.heap.size, 0, none⟩ = some (.int .i64 (wd : Int)) ∧ w'.cell? ⟨w.heap.size, 1, none⟩ = some (.slice a1 k1 c1) ∧ w'.cell? ⟨w.heap.size + 1, 0, none⟩ = some (.int .i64 (wd : Int)) ∧ w'.cell? ⟨w.heap.size + 1, 1, none⟩ = some (.slice a2 k2 c2) ∧ w'.cell? ⟨w2.heap.size, 0, none⟩ = some (.func (.func 43) #[] #[]) ∧ w'.cell? ⟨w2.heap.size, 1, none⟩ = some (.func (.func 147) #[] #[]) ∧ Below w4.heap.size w4 w') := Lib.hid (fun w' hb => by
    obtain ⟨e0, e1, -, -, _⟩ := blk2 (car hb H41.out)
    obtain ⟨e2, e3, -, -, _⟩ := blk2 (car hb H42.out)
    obtain ⟨e4, e5, -, -, _⟩ := blk2 (car hb H40.out)
    exact ⟨e0, e1, e2, e3, e4, e5, hb⟩)
  have hB0 := Below.refl w4.heap.size w4
  clear p0 p1 q0 q1 x0 x1
  go_region_held3 (fun w' => w'.cell? ⟨w.heap.size, 0, none⟩ = some (.int .i64 (wd : Int)) ∧ w'.cell? ⟨w.heap.size, 1, none⟩ = some (.slice a1 k1 c1) ∧ w'.cell? ⟨w.heap.size + 1, 0, none⟩ = some (.int .i64 (wd : Int)) ∧ w'.cell? ⟨w.heap.size + 1, 1, none⟩ = some (.slice a2 k2 c2) ∧ w'.cell? ⟨w2.heap.size, 0, none⟩ = some (.func (.func 43) #[] #[]) ∧ w'.cell? ⟨w2.heap.size, 1, none⟩ = some (.func (.func 147) #[] #[]) ∧ Below w4.heap.size w4 w')
    (((try go_split_ands); refine STAY.out _ ?_; repeat (first | (with_reducible assumption) | (with_reducible exact Below.refl _ _) | (with_reducible refine Below.drew ?_))))
    (first
    | (have tk := T3; go_at_call 147; (with_reducible refine Calls.mono (TS.out _) ?_); rintro e w8 ⟨rfl, rfl⟩)
    | (have tk := I6; go_at_call 21; (with_reducible refine Calls.mono (CM.out _ _ _ ?_ ?_) ?_); (first | exact I5'.out | exact I5'.out.below (Below.refl _ _).drew); (first | exact I6.out | exact I6.out.below (Below.refl _ _).drew); rintro e w7 ⟨rfl, hb7⟩; have hk7 : Below w4.heap.size w4 w7 := (by first | exact below_to9 hb7 hk6 | exact below_to9 hb7 hk6.drew); have T3 : True := trivial; clear hb7)
    | (have tk := I5; go_at_call 43; (with_reducible refine Calls.mono (N2.out _ (below_of B4.out (by first | exact hk5 | exact hk5.drew))) ?_); rintro e w6 ⟨v6, rfl, hi6, hb6⟩; have hk6 : Below w4.heap.size w4 w6 := (by first | exact below_to9 hb6 hk5 | exact below_to9 hb6 hk5.drew); have I6 := Lib.hid hi6; have I5' := Lib.hid (show IntV w6 _ _ from (by first | exact I5.out.below hb6 | exact I5.out.below (bel_d hb6))); obtain ⟨n6, a6, k6, k6', rfl⟩ := hi6.shape; clear hi6 hb6)
    | (go_at_call 43; (with_reducible refine Calls.mono (N1.out _ (below_of B4.out (by first | exact Below.refl _ _ | exact (Below.refl _ _).drew))) ?_); rintro e w5 ⟨v5, rfl, hi5, hb5⟩; have hk5 : Below w4.heap.size w4 w5 := (by first | exact below_to9 hb5 hB0 | exact below_to9 hb5 hB0.drew); have I5 := Lib.hid hi5; obtain ⟨n5, a5, k5, k5', rfl⟩ := hi5.shape; clear hi5 hb5))
  all_goals
    go_wp2
    go_ret2
    exact ⟨rfl, below_of B4.out (by first | exact hk7 | exact hk7.drew)⟩
end Go.Proofs.YtccofiakblmkhaaGreat

/- bits: Holds of two vectors of one width (sgt). -/
namespace Go.Proofs.YtccofiakblmkhaaGreat
open Go.RowKit Mth

set_option maxHeartbeats 8000000 in
set_option maxRecDepth 100000 in
theorem holds_sgt (va vb : Value) (wd m n : Nat) (h1 : 1 ≤ wd) (h2 : wd ≤ 4096) (hm : m < 2 ^ wd) (hn : n < 2 ^ wd) (w : World) (ha : BvV w va wd m) (hb : BvV w vb wd n) :
    Calls Tryz.prog 27 #[.int .i64 74, va, vb] w fun e w' => e = .returned (.tuple #[.bool (decide (sgV wd n < sgV wd m)), .int .i64 0]) ∧ Below w.heap.size w w' := by
  have HA := Lib.hid ha; have HB := Lib.hid hb
  obtain ⟨u1, xs, rfl, s1, l1, b1, v1⟩ := ha
  obtain ⟨u2, ys, rfl, s2, l2, b2, v2⟩ := hb
  have R1 : Hid (∀ w1, Below w.heap.size w w1 → Calls Tryz.prog 22 #[.agg #[.int .i64 (wd : Int), u1]] w1 fun e w' => e = .returned (.bool true) ∧ Below w1.heap.size w1 w') := Lib.hid (fun w1 hw => by
    have h := right_any (wd : Int) u1 xs w1 (s1.below hw) l1
    rw [v1, right_fine h1 h2 hm] at h
    exact h)
  have R2 : Hid (∀ w1, Below w.heap.size w w1 → Calls Tryz.prog 22 #[.agg #[.int .i64 (wd : Int), u2]] w1 fun e w' => e = .returned (.bool true) ∧ Below w1.heap.size w1 w') := Lib.hid (fun w1 hw => by
    have h := right_any (wd : Int) u2 ys w1 (s2.below hw) l2
    rw [v2, right_fine h1 h2 hn] at h
    exact h)
  obtain ⟨a1, c1, rfl⟩ := s1.shape
  obtain ⟨a2, c2, rfl⟩ := s2.shape
  generalize xs.length = k1 at *
  generalize ys.length = k2 at *
  obtain ⟨W, eW, g1, g2, bel, hsz⟩ := alloc2 w (Obj.cells #[.int .i64 (wd : Int), .slice a1 k1 c1] 28) (Obj.cells #[.int .i64 (wd : Int), .slice a2 k2 c2] 28)
  have OP : Hid (Calls Tryz.prog 58 #[.int .i64 74] W fun e w' => e = .returned (.tuple #[.agg #[.func (.func 43) #[] #[], .func (.func 148) #[] #[]], .bool true]) ∧ Below W.heap.size W w') := Lib.hid (orderOf_at 74 (by omega) 43 148 (by kernel_rfl) (by kernel_rfl) W)
  have hs1 : ∀ (a : Addr) (W : World) m, Sem.run Tryz.prog (store a (.func (.func 43) #[] #[]) m) W = stored Tryz.prog W a (.func (.func 43) #[] #[]) m := fun a W m => run_store Tryz.prog W a _ m rfl
  have hs2 : ∀ (a : Addr) (W : World) m, Sem.run Tryz.prog (store a (.func (.func 148) #[] #[]) m) W = stored Tryz.prog W a (.func (.func 148) #[] #[]) m := fun a W m => run_store Tryz.prog W a _ m rfl
  have G1 := Lib.hid g1; have G2 := Lib.hid g2; have BL := Lib.hid bel
  have d0 : ((wd : Int) != (wd : Int)) = false := by simp
  have N1 : Hid (∀ w1, Below w.heap.size w w1 → Calls Tryz.prog 43 #[.agg #[.int .i64 (wd : Int), .slice a1 k1 c1]] w1 fun e w' => ∃ v', e = .returned v' ∧ IntV w' v' (sgV wd m) ∧ Below w1.heap.size w1 w') := Lib.hid (fun w1 hw => signed_any _ wd m h1 h2 hm w1 (HA.out.below hw))
  have N2 : Hid (∀ w1, Below w.heap.size w w1 → Calls Tryz.prog 43 #[.agg #[.int .i64 (wd : Int), .slice a2 k2 c2]] w1 fun e w' => ∃ v', e = .returned v' ∧ IntV w' v' (sgV wd n) ∧ Below w1.heap.size w1 w') := Lib.hid (fun w1 hw => signed_any _ wd n h1 h2 hn w1 (HB.out.below hw))
  generalize sgV wd m = X at *
  generalize sgV wd n = Y at *
  have CM : Hid (∀ va vb w1, IntV w1 va X → IntV w1 vb Y → Calls Tryz.prog 21 #[va, vb] w1 fun e w' => e = .returned (.int .i64 (zcmp X Y)) ∧ Below w1.heap.size w1 w') := Lib.hid (fun va vb w1 hx hy => cmpF va vb X Y _ w1 hx hy rfl)
  have TS : Hid (∀ w1, Calls Tryz.prog 148 #[.int .i64 (zcmp X Y)] w1 fun e w' => e = .returned (.bool (decide (Y < X))) ∧ w' = w1) := Lib.hid (fun w1 => isAbove_any X Y w1)
  generalize zcmp X Y = o at *
  generalize (decide (Y < X)) = B at *
  clear s1 l1 b1 v1 s2 l2 b2 v2 g1 g2 bel hm hn HA HB
  go_enter Tryz.func27, Tryz.ntmps27
  go_wp2_with fail
  try rw [eW]
  refine OP.out.mono ?_
  rintro e w2 ⟨rfl, hb2⟩
  obtain ⟨V, eV, gV, bV, hVs⟩ := alloc1n w2 (Obj.cells #[.func (.func 43) #[] #[], .func (.func 148) #[] #[]] 103)
  have BV := Lib.hid (below_of (below_of BL.out hb2) bV)
  have H1 := Lib.hid (car bV (car hb2 G1.out)); have H2 := Lib.hid (car bV (car hb2 G2.out)); have H0 := Lib.hid gV
  obtain ⟨p0, p1, -, -, _⟩ := blk2 H1.out
  obtain ⟨q0, q1, -, -, _⟩ := blk2 H2.out
  clear hb2 bV gV
  go_upto_region 2 with fail
  try rw [eV]
  go_wp2_with fail
  refine (R1.out _ BV.out).mono ?_
  rintro e w3 ⟨rfl, hb3⟩
  have B3 := Lib.hid (below_of BV.out hb3)
  have H31 := Lib.hid (car hb3 H1.out); have H32 := Lib.hid (car hb3 H2.out); have H30 := Lib.hid (car hb3 H0.out)
  obtain ⟨p0', p1', -, -, _⟩ := blk2 H31.out
  obtain ⟨q0', q1', -, -, _⟩ := blk2 H32.out
  clear hb3 p0 p1 q0 q1
  go_wp2_with fail
  refine (R2.out _ B3.out).mono ?_
  rintro e w4 ⟨rfl, hb4⟩
  have B4 := Lib.hid (below_of B3.out hb4)
  have H41 := Lib.hid (car hb4 H31.out); have H42 := Lib.hid (car hb4 H32.out); have H40 := Lib.hid (car hb4 H30.out)
  obtain ⟨p0, p1, -, -, _⟩ := blk2 H41.out
  obtain ⟨q0, q1, -, -, _⟩ := blk2 H42.out
  clear hb4 p0' p1' q0' q1'
  go_upto_region 8 with fail
  obtain ⟨x0, x1, -, -, _⟩ := blk2 H40.out
  have STAY : Hid (∀ w', Below w4.heap.size w4 w' → w'.cell? ⟨w.heap.size, 0, none⟩ = some (.int .i64 (wd : Int)) ∧ w'.cell? ⟨w.heap.size, 1, none⟩ = some (.slice a1 k1 c1) ∧ w'.cell? ⟨w.heap.size + 1, 0, none⟩ = some (.int .i64 (wd : Int)) ∧ w'.cell? ⟨w.heap.size + 1, 1, none⟩ = some (.slice a2 k2 c2) ∧ w'.cell? ⟨w2.heap.size, 0, none⟩ = some (.func (.func 43) #[] #[]) ∧ w'.cell? ⟨w2.heap.size, 1, none⟩ = some (.func (.func 148) #[] #[]) ∧ Below w4.heap.size w4 w') := Lib.hid (fun w' hb => by
    obtain ⟨e0, e1, -, -, _⟩ := blk2 (car hb H41.out)
    obtain ⟨e2, e3, -, -, _⟩ := blk2 (car hb H42.out)
    obtain ⟨e4, e5, -, -, _⟩ := blk2 (car hb H40.out)
    exact ⟨e0, e1, e2, e3, e4, e5, hb⟩)
  have hB0 := Below.refl w4.heap.size w4
  clear p0 p1 q0 q1 x0 x1
  go_region_held3 (fun w' => w'.cell? ⟨w.heap.size, 0, none⟩ = some (.int .i64 (wd : Int)) ∧ w'.cell? ⟨w.heap.size, 1, none⟩ = some (.slice a1 k1 c1) ∧ w'.cell? ⟨w.heap.size + 1, 0, none⟩ = some (.int .i64 (wd : Int)) ∧ w'.cell? ⟨w.heap.size + 1, 1, none⟩ = some (.slice a2 k2 c2) ∧ w'.cell? ⟨w2.heap.size, 0, none⟩ = some (.func (.func 43) #[] #[]) ∧ w'.cell? ⟨w2.heap.size, 1, none⟩ = some (.func (.func 148) #[] #[]) ∧ Below w4.heap.size w4 w')
    (((try go_split_ands); refine STAY.out _ ?_; repeat (first | (with_reducible assumption) | (with_reducible exact Below.refl _ _) | (with_reducible refine Below.drew ?_))))
    (first
    | (have tk := T3; go_at_call 148; (with_reducible refine Calls.mono (TS.out _) ?_); rintro e w8 ⟨rfl, rfl⟩)
    | (have tk := I6; go_at_call 21; (with_reducible refine Calls.mono (CM.out _ _ _ ?_ ?_) ?_); (first | exact I5'.out | exact I5'.out.below (Below.refl _ _).drew); (first | exact I6.out | exact I6.out.below (Below.refl _ _).drew); rintro e w7 ⟨rfl, hb7⟩; have hk7 : Below w4.heap.size w4 w7 := (by first | exact below_to9 hb7 hk6 | exact below_to9 hb7 hk6.drew); have T3 : True := trivial; clear hb7)
    | (have tk := I5; go_at_call 43; (with_reducible refine Calls.mono (N2.out _ (below_of B4.out (by first | exact hk5 | exact hk5.drew))) ?_); rintro e w6 ⟨v6, rfl, hi6, hb6⟩; have hk6 : Below w4.heap.size w4 w6 := (by first | exact below_to9 hb6 hk5 | exact below_to9 hb6 hk5.drew); have I6 := Lib.hid hi6; have I5' := Lib.hid (show IntV w6 _ _ from (by first | exact I5.out.below hb6 | exact I5.out.below (bel_d hb6))); obtain ⟨n6, a6, k6, k6', rfl⟩ := hi6.shape; clear hi6 hb6)
    | (go_at_call 43; (with_reducible refine Calls.mono (N1.out _ (below_of B4.out (by first | exact Below.refl _ _ | exact (Below.refl _ _).drew))) ?_); rintro e w5 ⟨v5, rfl, hi5, hb5⟩; have hk5 : Below w4.heap.size w4 w5 := (by first | exact below_to9 hb5 hB0 | exact below_to9 hb5 hB0.drew); have I5 := Lib.hid hi5; obtain ⟨n5, a5, k5, k5', rfl⟩ := hi5.shape; clear hi5 hb5))
  all_goals
    go_wp2
    go_ret2
    exact ⟨rfl, below_of B4.out (by first | exact hk7 | exact hk7.drew)⟩
end Go.Proofs.YtccofiakblmkhaaGreat

/- bits: Holds of two vectors of one width (sge). -/
namespace Go.Proofs.YtccofiakblmkhaaGreat
open Go.RowKit Mth

set_option maxHeartbeats 8000000 in
set_option maxRecDepth 100000 in
theorem holds_sge (va vb : Value) (wd m n : Nat) (h1 : 1 ≤ wd) (h2 : wd ≤ 4096) (hm : m < 2 ^ wd) (hn : n < 2 ^ wd) (w : World) (ha : BvV w va wd m) (hb : BvV w vb wd n) :
    Calls Tryz.prog 27 #[.int .i64 75, va, vb] w fun e w' => e = .returned (.tuple #[.bool (decide (sgV wd n ≤ sgV wd m)), .int .i64 0]) ∧ Below w.heap.size w w' := by
  have HA := Lib.hid ha; have HB := Lib.hid hb
  obtain ⟨u1, xs, rfl, s1, l1, b1, v1⟩ := ha
  obtain ⟨u2, ys, rfl, s2, l2, b2, v2⟩ := hb
  have R1 : Hid (∀ w1, Below w.heap.size w w1 → Calls Tryz.prog 22 #[.agg #[.int .i64 (wd : Int), u1]] w1 fun e w' => e = .returned (.bool true) ∧ Below w1.heap.size w1 w') := Lib.hid (fun w1 hw => by
    have h := right_any (wd : Int) u1 xs w1 (s1.below hw) l1
    rw [v1, right_fine h1 h2 hm] at h
    exact h)
  have R2 : Hid (∀ w1, Below w.heap.size w w1 → Calls Tryz.prog 22 #[.agg #[.int .i64 (wd : Int), u2]] w1 fun e w' => e = .returned (.bool true) ∧ Below w1.heap.size w1 w') := Lib.hid (fun w1 hw => by
    have h := right_any (wd : Int) u2 ys w1 (s2.below hw) l2
    rw [v2, right_fine h1 h2 hn] at h
    exact h)
  obtain ⟨a1, c1, rfl⟩ := s1.shape
  obtain ⟨a2, c2, rfl⟩ := s2.shape
  generalize xs.length = k1 at *
  generalize ys.length = k2 at *
  obtain ⟨W, eW, g1, g2, bel, hsz⟩ := alloc2 w (Obj.cells #[.int .i64 (wd : Int), .slice a1 k1 c1] 28) (Obj.cells #[.int .i64 (wd : Int), .slice a2 k2 c2] 28)
  have OP : Hid (Calls Tryz.prog 58 #[.int .i64 75] W fun e w' => e = .returned (.tuple #[.agg #[.func (.func 43) #[] #[], .func (.func 149) #[] #[]], .bool true]) ∧ Below W.heap.size W w') := Lib.hid (orderOf_at 75 (by omega) 43 149 (by kernel_rfl) (by kernel_rfl) W)
  have hs1 : ∀ (a : Addr) (W : World) m, Sem.run Tryz.prog (store a (.func (.func 43) #[] #[]) m) W = stored Tryz.prog W a (.func (.func 43) #[] #[]) m := fun a W m => run_store Tryz.prog W a _ m rfl
  have hs2 : ∀ (a : Addr) (W : World) m, Sem.run Tryz.prog (store a (.func (.func 149) #[] #[]) m) W = stored Tryz.prog W a (.func (.func 149) #[] #[]) m := fun a W m => run_store Tryz.prog W a _ m rfl
  have G1 := Lib.hid g1; have G2 := Lib.hid g2; have BL := Lib.hid bel
  have d0 : ((wd : Int) != (wd : Int)) = false := by simp
  have N1 : Hid (∀ w1, Below w.heap.size w w1 → Calls Tryz.prog 43 #[.agg #[.int .i64 (wd : Int), .slice a1 k1 c1]] w1 fun e w' => ∃ v', e = .returned v' ∧ IntV w' v' (sgV wd m) ∧ Below w1.heap.size w1 w') := Lib.hid (fun w1 hw => signed_any _ wd m h1 h2 hm w1 (HA.out.below hw))
  have N2 : Hid (∀ w1, Below w.heap.size w w1 → Calls Tryz.prog 43 #[.agg #[.int .i64 (wd : Int), .slice a2 k2 c2]] w1 fun e w' => ∃ v', e = .returned v' ∧ IntV w' v' (sgV wd n) ∧ Below w1.heap.size w1 w') := Lib.hid (fun w1 hw => signed_any _ wd n h1 h2 hn w1 (HB.out.below hw))
  generalize sgV wd m = X at *
  generalize sgV wd n = Y at *
  have CM : Hid (∀ va vb w1, IntV w1 va X → IntV w1 vb Y → Calls Tryz.prog 21 #[va, vb] w1 fun e w' => e = .returned (.int .i64 (zcmp X Y)) ∧ Below w1.heap.size w1 w') := Lib.hid (fun va vb w1 hx hy => cmpF va vb X Y _ w1 hx hy rfl)
  have TS : Hid (∀ w1, Calls Tryz.prog 149 #[.int .i64 (zcmp X Y)] w1 fun e w' => e = .returned (.bool (decide (Y ≤ X))) ∧ w' = w1) := Lib.hid (fun w1 => isNotBelow_any X Y w1)
  generalize zcmp X Y = o at *
  generalize (decide (Y ≤ X)) = B at *
  clear s1 l1 b1 v1 s2 l2 b2 v2 g1 g2 bel hm hn HA HB
  go_enter Tryz.func27, Tryz.ntmps27
  go_wp2_with fail
  try rw [eW]
  refine OP.out.mono ?_
  rintro e w2 ⟨rfl, hb2⟩
  obtain ⟨V, eV, gV, bV, hVs⟩ := alloc1n w2 (Obj.cells #[.func (.func 43) #[] #[], .func (.func 149) #[] #[]] 103)
  have BV := Lib.hid (below_of (below_of BL.out hb2) bV)
  have H1 := Lib.hid (car bV (car hb2 G1.out)); have H2 := Lib.hid (car bV (car hb2 G2.out)); have H0 := Lib.hid gV
  obtain ⟨p0, p1, -, -, _⟩ := blk2 H1.out
  obtain ⟨q0, q1, -, -, _⟩ := blk2 H2.out
  clear hb2 bV gV
  go_upto_region 2 with fail
  try rw [eV]
  go_wp2_with fail
  refine (R1.out _ BV.out).mono ?_
  rintro e w3 ⟨rfl, hb3⟩
  have B3 := Lib.hid (below_of BV.out hb3)
  have H31 := Lib.hid (car hb3 H1.out); have H32 := Lib.hid (car hb3 H2.out); have H30 := Lib.hid (car hb3 H0.out)
  obtain ⟨p0', p1', -, -, _⟩ := blk2 H31.out
  obtain ⟨q0', q1', -, -, _⟩ := blk2 H32.out
  clear hb3 p0 p1 q0 q1
  go_wp2_with fail
  refine (R2.out _ B3.out).mono ?_
  rintro e w4 ⟨rfl, hb4⟩
  have B4 := Lib.hid (below_of B3.out hb4)
  have H41 := Lib.hid (car hb4 H31.out); have H42 := Lib.hid (car hb4 H32.out); have H40 := Lib.hid (car hb4 H30.out)
  obtain ⟨p0, p1, -, -, _⟩ := blk2 H41.out
  obtain ⟨q0, q1, -, -, _⟩ := blk2 H42.out
  clear hb4 p0' p1' q0' q1'
  go_upto_region 8 with fail
  obtain ⟨x0, x1, -, -, _⟩ := blk2 H40.out
  have STAY : Hid (∀ w', Below w4.heap.size w4 w' → w'.cell? ⟨w.heap.size, 0, none⟩ = some (.int .i64 (wd : Int)) ∧ w'.cell? ⟨w.heap.size, 1, none⟩ = some (.slice a1 k1 c1) ∧ w'.cell? ⟨w.heap.size + 1, 0, none⟩ = some (.int .i64 (wd : Int)) ∧ w'.cell? ⟨w.heap.size + 1, 1, none⟩ = some (.slice a2 k2 c2) ∧ w'.cell? ⟨w2.heap.size, 0, none⟩ = some (.func (.func 43) #[] #[]) ∧ w'.cell? ⟨w2.heap.size, 1, none⟩ = some (.func (.func 149) #[] #[]) ∧ Below w4.heap.size w4 w') := Lib.hid (fun w' hb => by
    obtain ⟨e0, e1, -, -, _⟩ := blk2 (car hb H41.out)
    obtain ⟨e2, e3, -, -, _⟩ := blk2 (car hb H42.out)
    obtain ⟨e4, e5, -, -, _⟩ := blk2 (car hb H40.out)
    exact ⟨e0, e1, e2, e3, e4, e5, hb⟩)
  have hB0 := Below.refl w4.heap.size w4
  clear p0 p1 q0 q1 x0 x1
  go_region_held3 (fun w' => w'.cell? ⟨w.heap.size, 0, none⟩ = some (.int .i64 (wd : Int)) ∧ w'.cell? ⟨w.heap.size, 1, none⟩ = some (.slice a1 k1 c1) ∧ w'.cell? ⟨w.heap.size + 1, 0, none⟩ = some (.int .i64 (wd : Int)) ∧ w'.cell? ⟨w.heap.size + 1, 1, none⟩ = some (.slice a2 k2 c2) ∧ w'.cell? ⟨w2.heap.size, 0, none⟩ = some (.func (.func 43) #[] #[]) ∧ w'.cell? ⟨w2.heap.size, 1, none⟩ = some (.func (.func 149) #[] #[]) ∧ Below w4.heap.size w4 w')
    (((try go_split_ands); refine STAY.out _ ?_; repeat (first | (with_reducible assumption) | (with_reducible exact Below.refl _ _) | (with_reducible refine Below.drew ?_))))
    (first
    | (have tk := T3; go_at_call 149; (with_reducible refine Calls.mono (TS.out _) ?_); rintro e w8 ⟨rfl, rfl⟩)
    | (have tk := I6; go_at_call 21; (with_reducible refine Calls.mono (CM.out _ _ _ ?_ ?_) ?_); (first | exact I5'.out | exact I5'.out.below (Below.refl _ _).drew); (first | exact I6.out | exact I6.out.below (Below.refl _ _).drew); rintro e w7 ⟨rfl, hb7⟩; have hk7 : Below w4.heap.size w4 w7 := (by first | exact below_to9 hb7 hk6 | exact below_to9 hb7 hk6.drew); have T3 : True := trivial; clear hb7)
    | (have tk := I5; go_at_call 43; (with_reducible refine Calls.mono (N2.out _ (below_of B4.out (by first | exact hk5 | exact hk5.drew))) ?_); rintro e w6 ⟨v6, rfl, hi6, hb6⟩; have hk6 : Below w4.heap.size w4 w6 := (by first | exact below_to9 hb6 hk5 | exact below_to9 hb6 hk5.drew); have I6 := Lib.hid hi6; have I5' := Lib.hid (show IntV w6 _ _ from (by first | exact I5.out.below hb6 | exact I5.out.below (bel_d hb6))); obtain ⟨n6, a6, k6, k6', rfl⟩ := hi6.shape; clear hi6 hb6)
    | (go_at_call 43; (with_reducible refine Calls.mono (N1.out _ (below_of B4.out (by first | exact Below.refl _ _ | exact (Below.refl _ _).drew))) ?_); rintro e w5 ⟨v5, rfl, hi5, hb5⟩; have hk5 : Below w4.heap.size w4 w5 := (by first | exact below_to9 hb5 hB0 | exact below_to9 hb5 hB0.drew); have I5 := Lib.hid hi5; obtain ⟨n5, a5, k5, k5', rfl⟩ := hi5.shape; clear hi5 hb5))
  all_goals
    go_wp2
    go_ret2
    exact ⟨rfl, below_of B4.out (by first | exact hk7 | exact hk7.drew)⟩
end Go.Proofs.YtccofiakblmkhaaGreat
