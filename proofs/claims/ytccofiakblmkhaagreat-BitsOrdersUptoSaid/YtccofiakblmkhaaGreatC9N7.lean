/- 9K 9LA 9LB. -/
import Derived.Test.YtccofiakblmkhaaGreatC9N3
import Derived.Lib.SmallJoins
import Derived.Test.YtccofiakblmkhaaGreatC99ID
import Derived.Test.YtccofiakblmkhaaGreatC99IC
import Derived.Test.YtccofiakblmkhaaGreatC99IB
import Derived.Test.YtccofiakblmkhaaGreatC99IA
import Derived.Test.YtccofiakblmkhaaGreatC9N4
import Derived.Test.YtccofiakblmkhaaGreatC9LiftV
set_option linter.unusedVariables false
set_option linter.unusedSimpArgs false
/- bits: Apply with a fault; what is no operator. -/
namespace Go.Proofs.YtccofiakblmkhaaGreat
open Go.RowKit Mth

set_option maxHeartbeats 16000000 in
set_option maxRecDepth 100000 in
theorem apply_err (kk n er : Int) (p d : Value) (mx : Bool) (f : Nat) (hp : p.oneCell' = true) (hd : d.oneCell' = true) (her : er ≠ 0)
    (pv av : Value) (w : World) (hpv : ∃ po pn pc, pv = .slice po pn pc) (hav : ∃ ao ak ac, av = .slice ao ak ac)
    (hO : ∀ w1, Calls Tryz.prog 48 #[.int .i64 kk] w1 fun e w' => e = .returned (.tuple #[.agg #[.int .i64 n, p, .bool mx, d, .func (.func f) #[] #[]], .bool true]) ∧ Below w1.heap.size w1 w')
    (hF : ∀ w1, Below w.heap.size w w1 → Calls Tryz.prog 49 #[.agg #[.int .i64 n, p, .bool mx, d, .func (.func f) #[] #[]], .agg #[pv, av]] w1 fun e w' => e = .returned (.int .i64 er) ∧ Below w1.heap.size w1 w') :
    Calls Tryz.prog 25 #[.int .i64 kk, pv, av] w fun e w' => e = .returned (.tuple #[BvE, .int .i64 er]) ∧ Below w.heap.size w w' := by
  obtain ⟨po, pn, pc, rfl⟩ := hpv
  obtain ⟨ao, ak, ac, rfl⟩ := hav
  obtain ⟨W, eW, gW, bW, hWs⟩ := alloc1n w (Obj.cells #[.int .i64 0, .slice none 0 0] 28)
  have OP := Lib.hid (hO W)
  have FT : Hid (∀ w1, Below W.heap.size W w1 → _) := Lib.hid (fun w1 h => hF w1 (below_of bW h))
  have hs1 : ∀ (a : Addr) (W : World) m, Sem.run Tryz.prog (store a p m) W = stored Tryz.prog W a p m := fun a W m => run_store Tryz.prog W a _ m hp
  have hs2 : ∀ (a : Addr) (W : World) m, Sem.run Tryz.prog (store a (.func (.func f) #[] #[]) m) W = stored Tryz.prog W a (.func (.func f) #[] #[]) m := fun a W m => run_store Tryz.prog W a _ m rfl
  have hs3 : ∀ (a : Addr) (W : World) m, Sem.run Tryz.prog (store a d m) W = stored Tryz.prog W a d m := fun a W m => run_store Tryz.prog W a _ m hd
  have GW := Lib.hid gW; have BW := Lib.hid bW
  have d1 : (er != 0) = true := bne_iff_ne.2 her
  clear gW bW hF hO hp hd her
  have EW := Lib.hid eW
  clear eW
  go_enter Tryz.func25, Tryz.ntmps25
  go_wp2_with fail
  rw [EW.out]
  refine OP.out.mono ?_
  rintro e w2 ⟨rfl, hb2⟩
  obtain ⟨V, eV, gV1, gV2, bV, hVs⟩ := alloc2 w2 (Obj.cells #[.int .i64 n, p, .bool mx, d, .func (.func f) #[] #[]] 88) (Obj.cells #[.slice po pn pc, .slice ao ak ac] 92)
  have BV := Lib.hid (below_of hb2 bV)
  have FF := Lib.hid (FT.out V BV.out)
  have G0 := Lib.hid (car BV.out GW.out)
  have hw2 : W.heap.size ≤ w2.heap.size := hb2.size
  have hz : W.heap.size ≤ V.heap.size := BV.out.size
  have hw0 : w.heap.size < W.heap.size := hWs
  obtain ⟨x0, x1, x2, x3, x4⟩ := blk5o gV1
  obtain ⟨y0, y1, -, -, _⟩ := blk2 gV2
  clear hb2 gV1 gV2 bV
  go_wp2_with fail
  try rw [eV]
  refine FF.out.mono ?_
  rintro e w5 ⟨rfl, hb5⟩
  have B5 := Lib.hid (below_of BV.out hb5)
  have GC := Lib.hid (car hb5 G0.out)
  have hz5 := hb5.size
  obtain ⟨s0, s1, s2, s3, _⟩ := blk2 GC.out
  clear hb5 x0 x1 x2 x3 x4 y0 y1
  go_wp2
  exact bodyPost_ret (results_bte rfl rfl rfl (set2_row _ _ GC.out)) rfl ⟨rfl, ((below_of BW.out B5.out).setCell (Nat.le_refl _) _).setCell (Nat.le_refl _) _⟩
end Go.Proofs.YtccofiakblmkhaaGreat

/- bits: comp; its Apply. -/
namespace Go.Proofs.YtccofiakblmkhaaGreat
open Go.RowKit Mth

def compZ (m n : Nat) : Int := if m = n then 1 else 0
set_option maxHeartbeats 8000000 in
set_option maxRecDepth 100000 in
theorem comp_is (pv av : Value) (wd m n : Nat) (w : World) (hp : ∃ po pn pc, pv = .slice po pn pc) (h : BvL w av [(wd, m), (wd, n)]) :
    Calls Tryz.prog 123 #[.agg #[pv, av]] w fun e w' => ∃ v', e = .returned v' ∧ IntV w' v' (compZ m n) ∧ Below w.heap.size w w' := by
  obtain ⟨po, pn, pc, rfl⟩ := hp
  obtain ⟨ao, cap, rfl⟩ := h.shape
  obtain ⟨W, eW, g1, g2, bel, hsz⟩ := alloc2 w (Obj.cells #[.slice po pn pc, .slice ao 2 cap] 92) (Obj.cells #[.bool false, .slice none 0 0] 26)
  have HW := h.below bel
  have UU : Hid (∀ w1, Below W.heap.size W w1 → Calls Tryz.prog 140 #[.agg #[.slice po pn pc, .slice ao 2 cap]] w1 fun e w' => ∃ v', e = .returned v' ∧ IntV w' v' (m : Int) ∧ Below w1.heap.size w1 w') := Lib.hid (fun w1 hw => op_u _ _ _ wd m w1 ⟨_, _, _, rfl⟩ (HW.below hw) rfl)
  have VV : Hid (∀ w1, Below W.heap.size W w1 → Calls Tryz.prog 174 #[.agg #[.slice po pn pc, .slice ao 2 cap]] w1 fun e w' => ∃ v', e = .returned v' ∧ IntV w' v' (n : Int) ∧ Below w1.heap.size w1 w') := Lib.hid (fun w1 hw => op_v _ _ _ 1 wd n w1 ⟨_, _, _, rfl⟩ (HW.below hw) rfl (by omega) rfl)
  have CM : Hid (∀ va vb w1, IntV w1 va (m : Int) → IntV w1 vb (n : Int) → Calls Tryz.prog 21 #[va, vb] w1 fun e w' => e = .returned (.int .i64 (zcmp (m : Int) n)) ∧ Below w1.heap.size w1 w') := Lib.hid (fun va vb w1 hx hy => cmpF va vb _ _ _ w1 hx hy rfl)
  have OF : Hid (∀ w1, Calls Tryz.prog 165 #[.int .i64 (compZ m n)] w1 fun e w' => Res0 w1 w' e (compZ m n)) := Lib.hid (fun w1 => ofF _ w1 (by unfold compZ; split <;> omega) (by unfold compZ; split <;> omega))
  have HZ : Hid ((zcmp (m : Int) n = 0 ∧ compZ m n = 1) ∨ (zcmp (m : Int) n ≠ 0 ∧ compZ m n = 0)) := Lib.hid (by
    unfold zcmp compZ
    by_cases e : m = n
    · left; rw [if_neg (by omega), if_neg (by omega), if_pos e]; exact ⟨rfl, rfl⟩
    · right
      rw [if_neg e]
      refine ⟨?_, rfl⟩
      split
      · omega
      · rw [if_pos (by omega)]; omega)
  generalize zcmp (m : Int) n = o at *
  generalize compZ m n = z at *
  have G1 := Lib.hid g1; have G2 := Lib.hid g2; have BL := Lib.hid bel
  have hWs : w.heap.size + 1 < W.heap.size := by rw [← eW]; simp
  have STAY : Hid (∀ w', Below W.heap.size W w' → w'.cell? ⟨w.heap.size, 0, none⟩ = some (.slice po pn pc) ∧ w'.cell? ⟨w.heap.size, 1, none⟩ = some (.slice ao 2 cap)) := Lib.hid (fun w' hb => by
    obtain ⟨e0, e1, -, -, _⟩ := blk2 (car hb G1.out)
    exact ⟨e0, e1⟩)
  have hk0 := Below.refl W.heap.size W
  clear h g1 g2 bel HW
  have HZ' := HZ.out
  rcases HZ' with ⟨rfl, rfl⟩ | ⟨ho, rfl⟩
  rotate_left
  have do1 : (o == 0) = false := beq_eq_false_iff_ne.2 ho
  clear ho
  all_goals
    clear HZ
    go_enter Tryz.func123, Tryz.ntmps123
    go_upto_region 1 with fail
    try rw [eW]
    go_region_held3 (fun w' => w'.cell? ⟨w.heap.size, 0, none⟩ = some (.slice po pn pc) ∧ w'.cell? ⟨w.heap.size, 1, none⟩ = some (.slice ao 2 cap))
      ((refine STAY.out _ ?_; first | exact hk3 | exact hk3.drew | exact hk2 | exact hk2.drew | exact hk1 | exact hk1.drew | exact hk0 | exact hk0.drew))
      (first
      | (have tk := I2; go_at_call 21; (with_reducible refine Calls.mono (CM.out _ _ _ ?_ ?_) ?_); (first | exact I1'.out | exact I1'.out.below (Below.refl _ _).drew); (first | exact I2.out | exact I2.out.below (Below.refl _ _).drew); rintro e w3 ⟨rfl, hb3⟩; have hk3 : Below W.heap.size W w3 := (by first | exact below_of hk2 hb3 | exact below_of hk2.drew hb3); clear hb3)
      | (have tk := I1; go_at_call 174; (with_reducible refine Calls.mono (VV.out _ (by first | exact hk1 | exact hk1.drew)) ?_); rintro e w2 ⟨v2, rfl, hi2, hb2⟩; have hk2 : Below W.heap.size W w2 := (by first | exact below_of hk1 hb2 | exact below_of hk1.drew hb2); have I2 := Lib.hid hi2; have I1' := Lib.hid (show IntV w2 _ _ from (by first | exact I1.out.below hb2 | exact I1.out.below (bel_d hb2))); obtain ⟨n2, a2, k2, k2', rfl⟩ := hi2.shape; clear hi2 hb2)
      | (go_at_call 140; (with_reducible refine Calls.mono (UU.out _ (by first | exact hk0 | exact hk0.drew)) ?_); rintro e w1 ⟨v1, rfl, hi1, hb1⟩; have hk1 : Below W.heap.size W w1 := (by first | exact below_of hk0 hb1 | exact below_of hk0.drew hb1); have I1 := Lib.hid hi1; obtain ⟨n1, a1, k1, k1', rfl⟩ := hi1.shape; clear hi1 hb1))
    go_wp2_with fail
    refine (OF.out _).mono ?_
    rintro e w4 ⟨n4, a4, k4, k4', rfl, hr4, hb4⟩
    have hk4 : Below W.heap.size W w4 := (by first | exact below_of hk3 hb4 | exact below_of hk3.drew hb4)
    have H4 := Lib.hid hr4.2
    have B4 := Lib.hid (below_of BL.out hk4)
    have G4 := Lib.hid (car hk4 G2.out)
    obtain ⟨q0, q1, r0, r1, _⟩ := blk2 G4.out
    clear hr4 hb4
    go_wp2
    exact bodyPost_ret (results_it rfl rfl (set2_row _ _ G4.out)) rfl ⟨_, rfl, H4.out.far G4.out, (B4.out.setCell (by show w.heap.size ≤ w.heap.size + 1; omega) _).setCell (by show w.heap.size ≤ w.heap.size + 1; omega) _⟩
set_option maxHeartbeats 1000000 in
set_option maxRecDepth 100000 in
theorem one_any (pv av : Value) (w : World) (hp : ∃ po pn pc, pv = .slice po pn pc) (h : ∃ ao ak ac, av = .slice ao ak ac) : Calls Tryz.prog 122 #[.agg #[pv, av]] w fun e w' => e = .returned (.int .i64 1) ∧ Below w.heap.size w w' := by
  obtain ⟨po, pn, pc, rfl⟩ := hp
  obtain ⟨ao, ak, ac, rfl⟩ := h
  go_enter Tryz.func122, Tryz.ntmps122
  go_wp2
  go_ret
  first | exact ⟨rfl, Below.refl _ _⟩ | exact ⟨rfl, (Below.refl _ _).alloc (Nat.le_refl _) _⟩
end Go.Proofs.YtccofiakblmkhaaGreat

/- bits: Holds with a fault; Apply comp (gen9o.py). -/
namespace Go.Proofs.YtccofiakblmkhaaGreat
open Go.RowKit Mth

theorem BvA.below {w w' : World} {v : Value} {x : Int} {xs : List Nat} (h : BvA w v x xs) (hb : Below w.heap.size w w') : BvA w' v x xs := by
  obtain ⟨u, h0, h1, h2⟩ := h; exact ⟨u, h0, h1.below hb, h2⟩
theorem BvA.right {w : World} {v : Value} {x : Int} {xs : List Nat} (h : BvA w v x xs) : Calls Tryz.prog 22 #[v] w fun e w' => e = .returned (.bool (rightF x (val B64 xs))) ∧ Below w.heap.size w w' := by
  obtain ⟨u, rfl, h1, h2, h3⟩ := h; exact right_any x u xs w h1 h2
theorem right_nat {x : Int} {n : Nat} (h : rightF x n = true) : ∃ wd : Nat, x = (wd : Int) ∧ 1 ≤ wd ∧ wd ≤ 4096 ∧ n < 2 ^ wd := by
  unfold rightF isW at h
  simp only [Bool.and_eq_true, decide_eq_true_eq] at h
  obtain ⟨⟨a, b⟩, c⟩ := h
  refine ⟨x.toNat, by omega, by omega, by omega, Nat.lt_of_lt_of_le (lt_bl _) (Nat.pow_le_pow_right (by omega) (by omega))⟩
theorem BvA.v {w : World} {v : Value} {wd : Nat} {xs : List Nat} (h : BvA w v (wd : Int) xs) : BvV w v wd (val B64 xs) := by
  obtain ⟨u, rfl, h1, h2, h3⟩ := h; exact ⟨u, xs, rfl, h1, h2, h3, rfl⟩
set_option maxHeartbeats 8000000 in
set_option maxRecDepth 100000 in
theorem holds_a (k : Nat) (hk : k < 76) (f1 f2 : Nat) (t0 : ordTab[k * 2]? = some (.func (.func f1) #[] #[])) (t1 : ordTab[k * 2 + 1]? = some (.func (.func f2) #[] #[])) (va vb : Value) (x y : Int) (xs ys : List Nat) (hr : rightF x (val B64 xs) = false) (w : World) (ha : BvA w va x xs) (hb : BvA w vb y ys) :
    Calls Tryz.prog 27 #[.int .i64 (k : Int), va, vb] w fun e w' => e = .returned (.tuple #[.bool false, .int .i64 90]) ∧ Below w.heap.size w w' := by
  have R1 : Hid (∀ w1, Below w.heap.size w w1 → Calls Tryz.prog 22 #[va] w1 fun e w' => e = .returned (.bool false) ∧ Below w1.heap.size w1 w') := Lib.hid (fun w1 hw => by
    have h := (ha.below hw).right
    rw [hr] at h
    exact h)
  obtain ⟨u1, rfl, s1, -, -⟩ := ha
  obtain ⟨u2, rfl, s2, -, -⟩ := hb
  obtain ⟨a1, c1, rfl⟩ := s1.shape
  obtain ⟨a2, c2, rfl⟩ := s2.shape
  generalize xs.length = k1 at *
  generalize ys.length = k2 at *
  obtain ⟨W, eW, g1, g2, bel, hsz⟩ := alloc2 w (Obj.cells #[.int .i64 x, .slice a1 k1 c1] 28) (Obj.cells #[.int .i64 y, .slice a2 k2 c2] 28)
  have OP : Hid (Calls Tryz.prog 58 #[.int .i64 (k : Int)] W fun e w' => e = .returned (.tuple #[.agg #[.func (.func f1) #[] #[], .func (.func f2) #[] #[]], .bool true]) ∧ Below W.heap.size W w') := Lib.hid (orderOf_at k hk f1 f2 t0 t1 W)
  have hs1 : ∀ (f : Nat) (a : Addr) (W : World) m, Sem.run Tryz.prog (store a (.func (.func f) #[] #[]) m) W = stored Tryz.prog W a (.func (.func f) #[] #[]) m := fun f a W m => run_store Tryz.prog W a _ m rfl
  have G1 := Lib.hid g1; have G2 := Lib.hid g2; have BL := Lib.hid bel
  clear s1 s2 g1 g2 bel hr t0 t1 hk
  go_enter Tryz.func27, Tryz.ntmps27
  go_wp2_with fail
  try rw [eW]
  refine OP.out.mono ?_
  rintro e w2 ⟨rfl, hb2⟩
  obtain ⟨V, eV, gV, bV, hVs⟩ := alloc1n w2 (Obj.cells #[.func (.func f1) #[] #[], .func (.func f2) #[] #[]] 103)
  have BV := Lib.hid (below_of (below_of BL.out hb2) bV)
  have H1 := Lib.hid (car bV (car hb2 G1.out)); have H2 := Lib.hid (car bV (car hb2 G2.out))
  obtain ⟨p0, p1, -, -, _⟩ := blk2 H1.out
  obtain ⟨q0, q1, -, -, _⟩ := blk2 H2.out
  clear hb2 bV gV
  go_upto_region 2 with fail
  try rw [eV]
  go_wp2_with fail
  refine (R1.out _ BV.out).mono ?_
  rintro e w3 ⟨rfl, hb3⟩
  have B3 := Lib.hid (below_of BV.out hb3)
  have H31 := Lib.hid (car hb3 H1.out); have H32 := Lib.hid (car hb3 H2.out)
  obtain ⟨p0', p1', -, -, _⟩ := blk2 H31.out
  obtain ⟨q0', q1', -, -, _⟩ := blk2 H32.out
  clear hb3 p0 p1 q0 q1
  go_wp2
  go_ret2
  exact ⟨rfl, B3.out⟩
set_option maxHeartbeats 8000000 in
set_option maxRecDepth 100000 in
theorem holds_b (k : Nat) (hk : k < 76) (f1 f2 : Nat) (t0 : ordTab[k * 2]? = some (.func (.func f1) #[] #[])) (t1 : ordTab[k * 2 + 1]? = some (.func (.func f2) #[] #[])) (va vb : Value) (x y : Int) (xs ys : List Nat) (hr : rightF x (val B64 xs) = true) (hs : rightF y (val B64 ys) = false) (w : World) (ha : BvA w va x xs) (hb : BvA w vb y ys) :
    Calls Tryz.prog 27 #[.int .i64 (k : Int), va, vb] w fun e w' => e = .returned (.tuple #[.bool false, .int .i64 90]) ∧ Below w.heap.size w w' := by
  have R1 : Hid (∀ w1, Below w.heap.size w w1 → Calls Tryz.prog 22 #[va] w1 fun e w' => e = .returned (.bool true) ∧ Below w1.heap.size w1 w') := Lib.hid (fun w1 hw => by
    have h := (ha.below hw).right
    rw [hr] at h
    exact h)
  have R2 : Hid (∀ w1, Below w.heap.size w w1 → Calls Tryz.prog 22 #[vb] w1 fun e w' => e = .returned (.bool false) ∧ Below w1.heap.size w1 w') := Lib.hid (fun w1 hw => by
    have h := (hb.below hw).right
    rw [hs] at h
    exact h)
  obtain ⟨u1, rfl, s1, -, -⟩ := ha
  obtain ⟨u2, rfl, s2, -, -⟩ := hb
  obtain ⟨a1, c1, rfl⟩ := s1.shape
  obtain ⟨a2, c2, rfl⟩ := s2.shape
  generalize xs.length = k1 at *
  generalize ys.length = k2 at *
  obtain ⟨W, eW, g1, g2, bel, hsz⟩ := alloc2 w (Obj.cells #[.int .i64 x, .slice a1 k1 c1] 28) (Obj.cells #[.int .i64 y, .slice a2 k2 c2] 28)
  have OP : Hid (Calls Tryz.prog 58 #[.int .i64 (k : Int)] W fun e w' => e = .returned (.tuple #[.agg #[.func (.func f1) #[] #[], .func (.func f2) #[] #[]], .bool true]) ∧ Below W.heap.size W w') := Lib.hid (orderOf_at k hk f1 f2 t0 t1 W)
  have hs1 : ∀ (f : Nat) (a : Addr) (W : World) m, Sem.run Tryz.prog (store a (.func (.func f) #[] #[]) m) W = stored Tryz.prog W a (.func (.func f) #[] #[]) m := fun f a W m => run_store Tryz.prog W a _ m rfl
  have G1 := Lib.hid g1; have G2 := Lib.hid g2; have BL := Lib.hid bel
  clear s1 s2 g1 g2 bel hr t0 t1 hk hs
  go_enter Tryz.func27, Tryz.ntmps27
  go_wp2_with fail
  try rw [eW]
  refine OP.out.mono ?_
  rintro e w2 ⟨rfl, hb2⟩
  obtain ⟨V, eV, gV, bV, hVs⟩ := alloc1n w2 (Obj.cells #[.func (.func f1) #[] #[], .func (.func f2) #[] #[]] 103)
  have BV := Lib.hid (below_of (below_of BL.out hb2) bV)
  have H1 := Lib.hid (car bV (car hb2 G1.out)); have H2 := Lib.hid (car bV (car hb2 G2.out))
  obtain ⟨p0, p1, -, -, _⟩ := blk2 H1.out
  obtain ⟨q0, q1, -, -, _⟩ := blk2 H2.out
  clear hb2 bV gV
  go_upto_region 2 with fail
  try rw [eV]
  go_wp2_with fail
  refine (R1.out _ BV.out).mono ?_
  rintro e w3 ⟨rfl, hb3⟩
  have B3 := Lib.hid (below_of BV.out hb3)
  have H31 := Lib.hid (car hb3 H1.out); have H32 := Lib.hid (car hb3 H2.out)
  obtain ⟨p0', p1', -, -, _⟩ := blk2 H31.out
  obtain ⟨q0', q1', -, -, _⟩ := blk2 H32.out
  clear hb3 p0 p1 q0 q1
  go_wp2_with fail
  refine (R2.out _ B3.out).mono ?_
  rintro e w4 ⟨rfl, hb4⟩
  have B4 := Lib.hid (below_of B3.out hb4)
  obtain ⟨p0, p1, -, -, _⟩ := blk2 (car hb4 H31.out)
  obtain ⟨q0, q1, -, -, _⟩ := blk2 (car hb4 H32.out)
  clear hb4 p0' p1' q0' q1'
  go_wp2
  go_ret2
  exact ⟨rfl, B4.out⟩
set_option maxHeartbeats 8000000 in
set_option maxRecDepth 100000 in
theorem holds_w (k : Nat) (hk : k < 76) (f1 f2 : Nat) (t0 : ordTab[k * 2]? = some (.func (.func f1) #[] #[])) (t1 : ordTab[k * 2 + 1]? = some (.func (.func f2) #[] #[])) (va vb : Value) (x y : Int) (xs ys : List Nat) (hr : rightF x (val B64 xs) = true) (hs : rightF y (val B64 ys) = true) (hxy : x ≠ y) (w : World) (ha : BvA w va x xs) (hb : BvA w vb y ys) :
    Calls Tryz.prog 27 #[.int .i64 (k : Int), va, vb] w fun e w' => e = .returned (.tuple #[.bool false, .int .i64 52]) ∧ Below w.heap.size w w' := by
  have R1 : Hid (∀ w1, Below w.heap.size w w1 → Calls Tryz.prog 22 #[va] w1 fun e w' => e = .returned (.bool true) ∧ Below w1.heap.size w1 w') := Lib.hid (fun w1 hw => by
    have h := (ha.below hw).right
    rw [hr] at h
    exact h)
  have R2 : Hid (∀ w1, Below w.heap.size w w1 → Calls Tryz.prog 22 #[vb] w1 fun e w' => e = .returned (.bool true) ∧ Below w1.heap.size w1 w') := Lib.hid (fun w1 hw => by
    have h := (hb.below hw).right
    rw [hs] at h
    exact h)
  obtain ⟨u1, rfl, s1, -, -⟩ := ha
  obtain ⟨u2, rfl, s2, -, -⟩ := hb
  obtain ⟨a1, c1, rfl⟩ := s1.shape
  obtain ⟨a2, c2, rfl⟩ := s2.shape
  generalize xs.length = k1 at *
  generalize ys.length = k2 at *
  obtain ⟨W, eW, g1, g2, bel, hsz⟩ := alloc2 w (Obj.cells #[.int .i64 x, .slice a1 k1 c1] 28) (Obj.cells #[.int .i64 y, .slice a2 k2 c2] 28)
  have OP : Hid (Calls Tryz.prog 58 #[.int .i64 (k : Int)] W fun e w' => e = .returned (.tuple #[.agg #[.func (.func f1) #[] #[], .func (.func f2) #[] #[]], .bool true]) ∧ Below W.heap.size W w') := Lib.hid (orderOf_at k hk f1 f2 t0 t1 W)
  have hs1 : ∀ (f : Nat) (a : Addr) (W : World) m, Sem.run Tryz.prog (store a (.func (.func f) #[] #[]) m) W = stored Tryz.prog W a (.func (.func f) #[] #[]) m := fun f a W m => run_store Tryz.prog W a _ m rfl
  have G1 := Lib.hid g1; have G2 := Lib.hid g2; have BL := Lib.hid bel
  have d0 : (x != y) = true := bne_iff_ne.2 hxy
  clear s1 s2 g1 g2 bel hr t0 t1 hk hs hxy
  go_enter Tryz.func27, Tryz.ntmps27
  go_wp2_with fail
  try rw [eW]
  refine OP.out.mono ?_
  rintro e w2 ⟨rfl, hb2⟩
  obtain ⟨V, eV, gV, bV, hVs⟩ := alloc1n w2 (Obj.cells #[.func (.func f1) #[] #[], .func (.func f2) #[] #[]] 103)
  have BV := Lib.hid (below_of (below_of BL.out hb2) bV)
  have H1 := Lib.hid (car bV (car hb2 G1.out)); have H2 := Lib.hid (car bV (car hb2 G2.out))
  obtain ⟨p0, p1, -, -, _⟩ := blk2 H1.out
  obtain ⟨q0, q1, -, -, _⟩ := blk2 H2.out
  clear hb2 bV gV
  go_upto_region 2 with fail
  try rw [eV]
  go_wp2_with fail
  refine (R1.out _ BV.out).mono ?_
  rintro e w3 ⟨rfl, hb3⟩
  have B3 := Lib.hid (below_of BV.out hb3)
  have H31 := Lib.hid (car hb3 H1.out); have H32 := Lib.hid (car hb3 H2.out)
  obtain ⟨p0', p1', -, -, _⟩ := blk2 H31.out
  obtain ⟨q0', q1', -, -, _⟩ := blk2 H32.out
  clear hb3 p0 p1 q0 q1
  go_wp2_with fail
  refine (R2.out _ B3.out).mono ?_
  rintro e w4 ⟨rfl, hb4⟩
  have B4 := Lib.hid (below_of B3.out hb4)
  obtain ⟨p0, p1, -, -, _⟩ := blk2 (car hb4 H31.out)
  obtain ⟨q0, q1, -, -, _⟩ := blk2 (car hb4 H32.out)
  clear hb4 p0' p1' q0' q1'
  go_wp2
  go_ret2
  exact ⟨rfl, B4.out⟩
theorem comp_op (w : World) : Calls Tryz.prog 48 #[.int .i64 51] w fun e w' => e = .returned (.tuple #[.agg #[.int .i64 2, .nilFunc, .bool false, .func (.func 122) #[] #[], .func (.func 123) #[] #[]], .bool true]) ∧ Below w.heap.size w w' :=
  operatorOf_at 51 (by omega) 2 .nilFunc (.func (.func 122) #[] #[]) false 123 rfl rfl (by kernel_rfl) (by kernel_rfl) (by kernel_rfl) (by kernel_rfl) (by kernel_rfl) w
theorem one_enters : ∀ args W, (callFunc 122 args).run Tryz.prog W = .ok (.enter 122 args) W := fun args W => enters_of Tryz.func122 (by kernel_rfl) rfl args W
theorem comp_enters : ∀ args W, (callFunc 123 args).run Tryz.prog W = .ok (.enter 123 args) W := fun args W => enters_of Tryz.func123 (by kernel_rfl) rfl args W
theorem apply_comp (pv av : Value) (wd m n : Nat) (h1 : 1 ≤ wd) (h2 : wd ≤ 4096) (hm : m < 2 ^ wd) (hn : n < 2 ^ wd) (w : World) (hp : ∃ po pn pc, pv = .slice po pn pc) (h : BvL w av [(wd, m), (wd, n)]) :
    Calls Tryz.prog 25 #[.int .i64 51, pv, av] w fun e w' => ∃ v', e = .returned (.tuple #[v', .int .i64 0]) ∧ BvO w' w.heap.size v' 1 (vecN 1 (compZ m n)) ∧ Below w.heap.size w w' := by
  have hff : ∀ p ∈ [(wd, m), (wd, n)], FineV p := fun p hp => by
    simp only [List.mem_cons, List.not_mem_nil, or_false] at hp
    rcases hp with rfl | rfl
    · exact ⟨h1, h2, hm⟩
    · exact ⟨h1, h2, hn⟩
  obtain ⟨ao, cap, hav⟩ := h.shape
  have hsh : ∃ ao ak ac, av = .slice ao ak ac := ⟨_, _, _, hav⟩
  have hWO : ∀ w1, Below w.heap.size w w1 → Calls Tryz.prog 50 #[.agg #[.int .i64 2, .nilFunc, .bool false, .func (.func 122) #[] #[], .func (.func 123) #[] #[]], .agg #[pv, av]] w1 fun e w' => e = .returned (.int .i64 ((1 : Nat) : Int)) ∧ Below w1.heap.size w1 w' := fun w1 _ =>
    widthOf_fn 2 1 .nilFunc false 122 123 rfl pv av w1 hp hsh one_enters (fun w2 _ => one_any pv av w2 hp hsh)
  refine apply_gen 51 2 .nilFunc (.func (.func 122) #[] #[]) false 123 rfl rfl comp_enters pv av 1 (compZ m n) (by omega) (by omega) w hp hsh comp_op (fun w1 hw => ?_) hWO (fun w1 hw => comp_is pv av wd m n w1 hp (h.below hw))
  exact fault_n_0 2 _ 123 rfl pv av w1 hp ao 2 cap hav rfl (fun w2 hw2 => areRight_fine av _ w2 ((h.below hw).below hw2) hff (by simp)) wd wd m n (fun w2 hw2 => first_any pv av _ wd m w2 hp ((h.below hw).below hw2) rfl) (fun w2 hw2 => last_any pv av _ 1 wd n w2 hp ((h.below hw).below hw2) rfl (by omega) rfl) rfl 1 rfl (fun w2 hw2 => hWO w2 (below_of hw hw2))
theorem apply_comp90 (pv av : Value) (L : List (Int × List Nat)) (w : World) (hp : ∃ po pn pc, pv = .slice po pn pc) (h : BvLX w av L) (hl : L.length = 2) (hb : ¬ ∀ p ∈ L, rightX p = true) :
    Calls Tryz.prog 25 #[.int .i64 51, pv, av] w fun e w' => e = .returned (.tuple #[BvE, .int .i64 90]) ∧ Below w.heap.size w w' := by
  obtain ⟨ao, cap, hav⟩ := h.shape
  rw [hl] at hav
  exact apply_err 51 2 90 .nilFunc (.func (.func 122) #[] #[]) false 123 rfl rfl (by omega) pv av w hp ⟨_, _, _, hav⟩ comp_op (fun w1 hw =>
    fault_n_90 2 _ 123 rfl false pv av w1 hp ao 2 cap hav rfl (fun w2 hw2 => areRight_no av L w2 ((h.below hw).below hw2) (by omega) hb))
theorem apply_comp52 (pv av : Value) (wd wd' m n : Nat) (hne : wd ≠ wd') (w : World) (hp : ∃ po pn pc, pv = .slice po pn pc) (h : BvL w av [(wd, m), (wd', n)]) (hff : ∀ p ∈ [(wd, m), (wd', n)], FineV p) :
    Calls Tryz.prog 25 #[.int .i64 51, pv, av] w fun e w' => e = .returned (.tuple #[BvE, .int .i64 52]) ∧ Below w.heap.size w w' := by
  obtain ⟨ao, cap, hav⟩ := h.shape
  exact apply_err 51 2 52 .nilFunc (.func (.func 122) #[] #[]) false 123 rfl rfl (by omega) pv av w hp ⟨_, _, _, hav⟩ comp_op (fun w1 hw =>
    fault_n_52 2 _ 123 rfl pv av w1 hp ao 2 cap hav rfl (fun w2 hw2 => areRight_fine av _ w2 ((h.below hw).below hw2) hff (by simp)) wd wd' m n (fun w2 hw2 => first_any pv av _ wd m w2 hp ((h.below hw).below hw2) rfl) (fun w2 hw2 => last_any pv av _ 1 wd' n w2 hp ((h.below hw).below hw2) rfl (by omega) rfl) hne)
end Go.Proofs.YtccofiakblmkhaaGreat
