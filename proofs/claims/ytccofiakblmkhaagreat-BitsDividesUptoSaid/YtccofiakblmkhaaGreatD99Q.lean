/- BitsDivides: the walk. -/
import Derived.Test.YtccofiakblmkhaaGreatD99QH
import Derived.Test.YtccofiakblmkhaaGreatD99QI0
import Derived.Test.YtccofiakblmkhaaGreatD99QI1
import Derived.Test.YtccofiakblmkhaaGreatD99QI2
import Derived.Test.YtccofiakblmkhaaGreatD99QI3
import Derived.Test.YtccofiakblmkhaaGreatD99QI4
set_option linter.unusedVariables false
set_option linter.unusedSimpArgs false
namespace Go.Proofs.YtccofiakblmkhaaGreat
open Go.RowKit Mth

set_option maxHeartbeats 8000000 in
set_option maxRecDepth 100000 in
theorem divides_bad (x : Int) (hx : isW x = false) (v0 v1 : Value) (i0 i1 : Int) (w : World) (g0 : IntV w v0 i0) (g1 : IntV w v1 i1) :
    Calls Tryz.prog 8 #[.int .i64 x, v0, v1] w fun e w' => e = .returned (.bool true) ∧ Below w.heap.size w w' := by
  have FB : Hid (∀ v z w1, IntV w1 v z → Calls Tryz.prog 14 #[.int .i64 x, v] w1 fun e w' => e = .returned (.tuple #[.agg #[.int .i64 0, .slice none 0 0], .int .i64 55]) ∧ Below w1.heap.size w1 w') := Lib.hid (fun v z w1 h => from_bad x hx v z w1 h)
  obtain ⟨n0, a0, k0, c0, rfl⟩ := g0.shape
  obtain ⟨n1, a1, k1, c1, rfl⟩ := g1.shape
  obtain ⟨W, eW, gw0, gw1, bel, hsz⟩ := alloc2 w (Obj.cells #[.bool n0, .slice a0 k0 c0] 26) (Obj.cells #[.bool n1, .slice a1 k1 c1] 26)
  have B0 := Lib.hid bel
  have I0 := Lib.hid (g0.below bel); have I1 := Lib.hid (g1.below bel)
  have G1 := Lib.hid gw1
  obtain ⟨p0, p1, -, -, _⟩ := blk2 gw0
  clear g0 g1 gw0 gw1 bel hx
  go_enter Tryz.func8, Tryz.ntmps8
  go_wp2_with fail
  try rw [eW]
  refine (FB.out _ _ _ I0.out).mono ?_
  rintro e w1 ⟨rfl, hb1⟩
  obtain ⟨V1, eV1, gV1, bV1, hV1⟩ := alloc1n w1 (Obj.cells #[.int .i64 0, .slice none 0 0] 28)
  have EV1 := Lib.hid eV1; clear eV1
  have B1 := Lib.hid (below_of B0.out (below_of hb1 bV1))
  have I1' := Lib.hid ((I1.out.below hb1).below bV1)
  have G1' := Lib.hid (car bV1 (car hb1 G1.out))
  obtain ⟨q0, q1, -, -, _⟩ := blk2 G1'.out
  clear p0 p1 hb1 gV1 bV1
  go_upto_region 2 with fail
  rw [EV1.out]
  go_wp2_with fail
  refine (FB.out _ _ _ I1'.out).mono ?_
  rintro e w2 ⟨rfl, hb2⟩
  obtain ⟨V2, eV2, gV2, bV2, hV2⟩ := alloc1n w2 (Obj.cells #[.int .i64 0, .slice none 0 0] 28)
  have EV2 := Lib.hid eV2; clear eV2
  have B2 := Lib.hid (below_of B1.out (below_of hb2 bV2))
  clear q0 q1 hb2 gV2 bV2
  go_upto_region 3 with fail
  rw [EV2.out]
  go_wp2_with fail
  refine (alive9 _).mono ?_
  rintro e w4 ⟨rfl, hb4⟩
  have B4 := Lib.hid (below_of B2.out hb4)
  clear hb4
  go_wp2
  go_ret
  exact ⟨rfl, B4.out⟩
theorem divides_good (wd : Nat) (h1 : 1 ≤ wd) (h2 : wd ≤ 4096) (v0 v1 : Value) (i0 i1 : Int) (w : World) (g0 : IntV w v0 i0) (g1 : IntV w v1 i1) :
    Calls Tryz.prog 8 #[.int .i64 (wd : Int), v0, v1] w fun e w' => e = .returned (.bool true) ∧ Below w.heap.size w w' := by
  have hx := vec_lt wd i0
  have hy := vec_lt wd i1
  have hz : sgV wd (0 % 2 ^ wd) = 0 := by rw [Nat.zero_mod]; exact sgV_zero wd
  by_cases h0 : vecN wd i1 = 0
  · have D := div_null wd (vecN wd i0) hx (vecN wd (udivZ (vecN wd i0) 0)) (vecN wd (sdivZ (sgV wd (vecN wd i0)) (sgV wd 0)))
    exact divides_null wd h1 h2 v0 v1 i0 i1 w g0 g1 (decide (sgV wd (vecN wd (smodZ (sgV wd (vecN wd i0)) (sgV wd 0))) < sgV wd (0 % 2 ^ wd))) _ 0 _ _ _ _ _ rfl h0 rfl rfl rfl rfl rfl D.e1 D.e2 rfl (decide_eq_false (by omega)) rfl (decide_eq_false (by rw [hz, sgV_zero]; omega)) D.m (by rw [D.s, D.m])
  · have D := div_some wd (vecN wd i0) (vecN wd i1) h1 hx hy h0
    generalize hX : vecN wd i0 = x at *
    generalize hY : vecN wd i1 = y at *
    generalize hq1 : vecN wd (udivZ x y) = nq at *
    generalize hq2 : vecN wd (leftZ (x : Int) y) = nr at *
    generalize hq3 : vecN wd (sdivZ (sgV wd x) (sgV wd y)) = np at *
    generalize hq4 : vecN wd (leftZ (sgV wd x) (sgV wd y)) = ns at *
    generalize hq5 : vecN wd (smodZ (sgV wd x) (sgV wd y)) = nm at *
    have d0 : decide (y = 0) = false := decide_eq_false h0
    have db : decide (nr < y) = true := decide_eq_true D.lt
    rcases D.flags with ⟨f1, f2⟩ | ⟨f1, f2⟩ | ⟨f1, f2, f3, s⟩
    · have dn : decide (sgV wd nm < sgV wd (0 % 2 ^ wd)) = true := decide_eq_true (by rw [hz]; exact f1)
      have dy : decide (sgV wd y < sgV wd (0 % 2 ^ wd)) = true := decide_eq_true (by rw [hz]; exact f2)
      rcases D.same with s | ⟨s, t⟩
      · exact divides_tts wd h1 h2 v0 v1 i0 i1 w g0 g1 x y nq nr np ns nm hX hY hq1 hq2 hq3 hq4 hq5 D.e1 D.e2 d0 db dn dy s
      · exact divides_ttd wd h1 h2 v0 v1 i0 i1 w g0 g1 x y nq nr np ns nm hX hY hq1 hq2 hq3 hq4 hq5 D.e1 D.e2 d0 db dn dy s t
    · have dn : decide (sgV wd nm < sgV wd (0 % 2 ^ wd)) = false := decide_eq_false (by rw [hz]; exact f1)
      have dy : decide (sgV wd y < sgV wd (0 % 2 ^ wd)) = false := decide_eq_false (by rw [hz]; exact f2)
      rcases D.same with s | ⟨s, t⟩
      · exact divides_ffs wd h1 h2 v0 v1 i0 i1 w g0 g1 x y nq nr np ns nm hX hY hq1 hq2 hq3 hq4 hq5 D.e1 D.e2 d0 db dn dy s
      · exact divides_ffd wd h1 h2 v0 v1 i0 i1 w g0 g1 x y nq nr np ns nm hX hY hq1 hq2 hq3 hq4 hq5 D.e1 D.e2 d0 db dn dy s t
    · have dn : decide (sgV wd nm < sgV wd (0 % 2 ^ wd)) = false := decide_eq_false (by rw [hz]; exact f1)
      have dy : decide (sgV wd y < sgV wd (0 % 2 ^ wd)) = true := decide_eq_true (by rw [hz]; exact f2)
      exact divides_fts wd h1 h2 v0 v1 i0 i1 w g0 g1 x y nq nr np ns nm hX hY hq1 hq2 hq3 hq4 hq5 D.e1 D.e2 d0 db dn dy f3 s
theorem divides9_walk (x : Int) (v0 v1 : Value) (i0 i1 : Int) (w : World) (g0 : IntV w v0 i0) (g1 : IntV w v1 i1) :
    Calls Tryz.prog 8 #[.int .i64 x, v0, v1] w fun e w' => e = .returned (.bool true) ∧ Below w.heap.size w w' := by
  cases hx : isW x
  · exact divides_bad x hx v0 v1 i0 i1 w g0 g1
  · have h : 1 ≤ x ∧ x ≤ 4096 := by unfold isW at hx; simpa using hx
    obtain ⟨wd, rfl⟩ := Int.eq_ofNat_of_zero_le (show 0 ≤ x by omega)
    exact divides_good wd (by omega) (by omega) v0 v1 i0 i1 w g0 g1
end Go.Proofs.YtccofiakblmkhaaGreat
