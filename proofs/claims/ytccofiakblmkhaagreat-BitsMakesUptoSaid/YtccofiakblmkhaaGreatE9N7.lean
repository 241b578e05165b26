/- 9K 9LA 9LB. -/
import Derived.Test.YtccofiakblmkhaaGreatE9N3
import Derived.Lib.SmallJoins
import Derived.Test.YtccofiakblmkhaaGreatE99ID
import Derived.Test.YtccofiakblmkhaaGreatE99IC
import Derived.Test.YtccofiakblmkhaaGreatE99IB
import Derived.Test.YtccofiakblmkhaaGreatE99IA
import Derived.Test.YtccofiakblmkhaaGreatE9N4
import Derived.Test.YtccofiakblmkhaaGreatE9LiftV
set_option linter.unusedVariables false
set_option linter.unusedSimpArgs false
/- bits: Apply with a fault; what is no operator. -/
namespace Go.Proofs.YtccofiakblmkhaaGreat
open Go.RowKit Mth

theorem flat_row {α : Type} {c : Nat} (row : Nat → List α) (hr : ∀ k, (row k).length = c) : ∀ (n k i : Nat), k < n → i < c → ((List.range n).flatMap row)[k * c + i]? = (row k)[i]?
  | 0, _, _, h, _ => absurd h (by omega)
  | n + 1, k, i, h, hi => by
    have hl : ∀ n, ((List.range n).flatMap row).length = n * c := by
      intro n
      induction n with
      | zero => simp
      | succ n ih => rw [List.range_succ, List.flatMap_append, List.length_append, ih]; simp [hr, Nat.succ_mul]
    rw [List.range_succ, List.flatMap_append]
    by_cases hk : k < n
    · have hlt : k * c + i < n * c := by
        have : (k + 1) * c ≤ n * c := Nat.mul_le_mul_right c hk
        rw [Nat.succ_mul] at this
        omega
      rw [List.getElem?_append_left (by rw [hl]; exact hlt)]
      exact flat_row row hr n k i hk hi
    · obtain rfl : k = n := by omega
      rw [List.getElem?_append_right (by rw [hl]; omega), hl, Nat.add_sub_cancel_left]
      simp
end Go.Proofs.YtccofiakblmkhaaGreat

/- bits: comp; its Apply. -/
namespace Go.Proofs.YtccofiakblmkhaaGreat
open Go.RowKit Mth

end Go.Proofs.YtccofiakblmkhaaGreat

/- bits: Holds with a fault; Apply comp (gen9o.py). -/
namespace Go.Proofs.YtccofiakblmkhaaGreat
open Go.RowKit Mth

theorem BvA.below {w w' : World} {v : Value} {x : Int} {xs : List Nat} (h : BvA w v x xs) (hb : Below w.heap.size w w') : BvA w' v x xs := by
  obtain ⟨u, h0, h1, h2⟩ := h; exact ⟨u, h0, h1.below hb, h2⟩
theorem BvA.right {w : World} {v : Value} {x : Int} {xs : List Nat} (h : BvA w v x xs) : Calls Tryz.prog 22 #[v] w fun e w' => e = .returned (.bool (rightF x (val B64 xs))) ∧ Below w.heap.size w w' := by
  obtain ⟨u, rfl, h1, h2, h3⟩ := h; exact right_any x u xs w h1 h2
theorem right_nat {x : Int} {n : Nat} (h : rightF x n = true) : ∃ wd : Nat, x = (wd : Int) ∧ 1 ≤ wd ∧ wd ≤ 4096 ∧ n < 2 ^ wd := by
  unfold rightF isW at h
  simp only [Bool.and_eq_true, decide_eq_true_eq] at h
  obtain ⟨⟨a, b⟩, c⟩ := h
  refine ⟨x.toNat, by omega, by omega, by omega, Nat.lt_of_lt_of_le (lt_bl _) (Nat.pow_le_pow_right (by omega) (by omega))⟩
theorem BvA.v {w : World} {v : Value} {wd : Nat} {xs : List Nat} (h : BvA w v (wd : Int) xs) : BvV w v wd (val B64 xs) := by
  obtain ⟨u, rfl, h1, h2, h3⟩ := h; exact ⟨u, xs, rfl, h1, h2, h3, rfl⟩
set_option maxHeartbeats 8000000 in
set_option maxRecDepth 100000 in
theorem holds_a (k : Nat) (hk : k < 76) (f1 f2 : Nat) (t0 : ordTab[k * 2]? = some (.func (.func f1) #[] #[])) (t1 : ordTab[k * 2 + 1]? = some (.func (.func f2) #[] #[])) (va vb : Value) (x y : Int) (xs ys : List Nat) (hr : rightF x (val B64 xs) = false) (w : World) (ha : BvA w va x xs) (hb : BvA w vb y ys) :
    Calls Tryz.prog 27 #[.int .i64 (k : Int), va, vb] w fun e w' => e = .returned (.tuple #[.bool false, .int .i64 90]) ∧ Below w.heap.size w w' := by
  have R1 : Hid (∀ w1, Below w.heap.size w w1 → Calls Tryz.prog 22 #[va] w1 fun e w' => e = .returned (.bool false) ∧ Below w1.heap.size w1 w') := Lib.hid (fun w1 hw => by
    have h := (ha.below hw).right
    rw [hr] at h
    exact h)
  obtain ⟨u1, rfl, s1, -, -⟩ := ha
  obtain ⟨u2, rfl, s2, -, -⟩ := hb
  obtain ⟨a1, c1, rfl⟩ := s1.shape
  obtain ⟨a2, c2, rfl⟩ := s2.shape
  generalize xs.length = k1 at *
  generalize ys.length = k2 at *
  obtain ⟨W, eW, g1, g2, bel, hsz⟩ := alloc2 w (Obj.cells #[.int .i64 x, .slice a1 k1 c1] 28) (Obj.cells #[.int .i64 y, .slice a2 k2 c2] 28)
  have OP : Hid (Calls Tryz.prog 58 #[.int .i64 (k : Int)] W fun e w' => e = .returned (.tuple #[.agg #[.func (.func f1) #[] #[], .func (.func f2) #[] #[]], .bool true]) ∧ Below W.heap.size W w') := Lib.hid (orderOf_at k hk f1 f2 t0 t1 W)
  have hs1 : ∀ (f : Nat) (a : Addr) (W : World) m, Sem.run Tryz.prog (store a (.func (.func f) #[] #[]) m) W = stored Tryz.prog W a (.func (.func f) #[] #[]) m := fun f a W m => run_store Tryz.prog W a _ m rfl
  have G1 := Lib.hid g1; have G2 := Lib.hid g2; have BL := Lib.hid bel
  clear s1 s2 g1 g2 bel hr t0 t1 hk
  go_enter Tryz.func27, Tryz.ntmps27
  go_wp2_with fail
  try rw [eW]
  refine OP.out.mono ?_
  rintro e w2 ⟨rfl, hb2⟩
  obtain ⟨V, eV, gV, bV, hVs⟩ := alloc1n w2 (Obj.cells #[.func (.func f1) #[] #[], .func (.func f2) #[] #[]] 103)
  have BV := Lib.hid (below_of (below_of BL.out hb2) bV)
  have H1 := Lib.hid (car bV (car hb2 G1.out)); have H2 := Lib.hid (car bV (car hb2 G2.out))
  obtain ⟨p0, p1, -, -, _⟩ := blk2 H1.out
  obtain ⟨q0, q1, -, -, _⟩ := blk2 H2.out
  clear hb2 bV gV
  go_upto_region 2 with fail
  try rw [eV]
  go_wp2_with fail
  refine (R1.out _ BV.out).mono ?_
  rintro e w3 ⟨rfl, hb3⟩
  have B3 := Lib.hid (below_of BV.out hb3)
  have H31 := Lib.hid (car hb3 H1.out); have H32 := Lib.hid (car hb3 H2.out)
  obtain ⟨p0', p1', -, -, _⟩ := blk2 H31.out
  obtain ⟨q0', q1', -, -, _⟩ := blk2 H32.out
  clear hb3 p0 p1 q0 q1
  go_wp2
  go_ret2
  exact ⟨rfl, B3.out⟩
set_option maxHeartbeats 8000000 in
set_option maxRecDepth 100000 in
theorem holds_b (k : Nat) (hk : k < 76) (f1 f2 : Nat) (t0 : ordTab[k * 2]? = some (.func (.func f1) #[] #[])) (t1 : ordTab[k * 2 + 1]? = some (.func (.func f2) #[] #[])) (va vb : Value) (x y : Int) (xs ys : List Nat) (hr : rightF x (val B64 xs) = true) (hs : rightF y (val B64 ys) = false) (w : World) (ha : BvA w va x xs) (hb : BvA w vb y ys) :
    Calls Tryz.prog 27 #[.int .i64 (k : Int), va, vb] w fun e w' => e = .returned (.tuple #[.bool false, .int .i64 90]) ∧ Below w.heap.size w w' := by
  have R1 : Hid (∀ w1, Below w.heap.size w w1 → Calls Tryz.prog 22 #[va] w1 fun e w' => e = .returned (.bool true) ∧ Below w1.heap.size w1 w') := Lib.hid (fun w1 hw => by
    have h := (ha.below hw).right
    rw [hr] at h
    exact h)
  have R2 : Hid (∀ w1, Below w.heap.size w w1 → Calls Tryz.prog 22 #[vb] w1 fun e w' => e = .returned (.bool false) ∧ Below w1.heap.size w1 w') := Lib.hid (fun w1 hw => by
    have h := (hb.below hw).right
    rw [hs] at h
    exact h)
  obtain ⟨u1, rfl, s1, -, -⟩ := ha
  obtain ⟨u2, rfl, s2, -, -⟩ := hb
  obtain ⟨a1, c1, rfl⟩ := s1.shape
  obtain ⟨a2, c2, rfl⟩ := s2.shape
  generalize xs.length = k1 at *
  generalize ys.length = k2 at *
  obtain ⟨W, eW, g1, g2, bel, hsz⟩ := alloc2 w (Obj.cells #[.int .i64 x, .slice a1 k1 c1] 28) (Obj.cells #[.int .i64 y, .slice a2 k2 c2] 28)
  have OP : Hid (Calls Tryz.prog 58 #[.int .i64 (k : Int)] W fun e w' => e = .returned (.tuple #[.agg #[.func (.func f1) #[] #[], .func (.func f2) #[] #[]], .bool true]) ∧ Below W.heap.size W w') := Lib.hid (orderOf_at k hk f1 f2 t0 t1 W)
  have hs1 : ∀ (f : Nat) (a : Addr) (W : World) m, Sem.run Tryz.prog (store a (.func (.func f) #[] #[]) m) W = stored Tryz.prog W a (.func (.func f) #[] #[]) m := fun f a W m => run_store Tryz.prog W a _ m rfl
  have G1 := Lib.hid g1; have G2 := Lib.hid g2; have BL := Lib.hid bel
  clear s1 s2 g1 g2 bel hr t0 t1 hk hs
  go_enter Tryz.func27, Tryz.ntmps27
  go_wp2_with fail
  try rw [eW]
  refine OP.out.mono ?_
  rintro e w2 ⟨rfl, hb2⟩
  obtain ⟨V, eV, gV, bV, hVs⟩ := alloc1n w2 (Obj.cells #[.func (.func f1) #[] #[], .func (.func f2) #[] #[]] 103)
  have BV := Lib.hid (below_of (below_of BL.out hb2) bV)
  have H1 := Lib.hid (car bV (car hb2 G1.out)); have H2 := Lib.hid (car bV (car hb2 G2.out))
  obtain ⟨p0, p1, -, -, _⟩ := blk2 H1.out
  obtain ⟨q0, q1, -, -, _⟩ := blk2 H2.out
  clear hb2 bV gV
  go_upto_region 2 with fail
  try rw [eV]
  go_wp2_with fail
  refine (R1.out _ BV.out).mono ?_
  rintro e w3 ⟨rfl, hb3⟩
  have B3 := Lib.hid (below_of BV.out hb3)
  have H31 := Lib.hid (car hb3 H1.out); have H32 := Lib.hid (car hb3 H2.out)
  obtain ⟨p0', p1', -, -, _⟩ := blk2 H31.out
  obtain ⟨q0', q1', -, -, _⟩ := blk2 H32.out
  clear hb3 p0 p1 q0 q1
  go_wp2_with fail
  refine (R2.out _ B3.out).mono ?_
  rintro e w4 ⟨rfl, hb4⟩
  have B4 := Lib.hid (below_of B3.out hb4)
  obtain ⟨p0, p1, -, -, _⟩ := blk2 (car hb4 H31.out)
  obtain ⟨q0, q1, -, -, _⟩ := blk2 (car hb4 H32.out)
  clear hb4 p0' p1' q0' q1'
  go_wp2
  go_ret2
  exact ⟨rfl, B4.out⟩
set_option maxHeartbeats 8000000 in
set_option maxRecDepth 100000 in
theorem holds_w (k : Nat) (hk : k < 76) (f1 f2 : Nat) (t0 : ordTab[k * 2]? = some (.func (.func f1) #[] #[])) (t1 : ordTab[k * 2 + 1]? = some (.func (.func f2) #[] #[])) (va vb : Value) (x y : Int) (xs ys : List Nat) (hr : rightF x (val B64 xs) = true) (hs : rightF y (val B64 ys) = true) (hxy : x ≠ y) (w : World) (ha : BvA w va x xs) (hb : BvA w vb y ys) :
    Calls Tryz.prog 27 #[.int .i64 (k : Int), va, vb] w fun e w' => e = .returned (.tuple #[.bool false, .int .i64 52]) ∧ Below w.heap.size w w' := by
  have R1 : Hid (∀ w1, Below w.heap.size w w1 → Calls Tryz.prog 22 #[va] w1 fun e w' => e = .returned (.bool true) ∧ Below w1.heap.size w1 w') := Lib.hid (fun w1 hw => by
    have h := (ha.below hw).right
    rw [hr] at h
    exact h)
  have R2 : Hid (∀ w1, Below w.heap.size w w1 → Calls Tryz.prog 22 #[vb] w1 fun e w' => e = .returned (.bool true) ∧ Below w1.heap.size w1 w') := Lib.hid (fun w1 hw => by
    have h := (hb.below hw).right
    rw [hs] at h
    exact h)
  obtain ⟨u1, rfl, s1, -, -⟩ := ha
  obtain ⟨u2, rfl, s2, -, -⟩ := hb
  obtain ⟨a1, c1, rfl⟩ := s1.shape
  obtain ⟨a2, c2, rfl⟩ := s2.shape
  generalize xs.length = k1 at *
  generalize ys.length = k2 at *
  obtain ⟨W, eW, g1, g2, bel, hsz⟩ := alloc2 w (Obj.cells #[.int .i64 x, .slice a1 k1 c1] 28) (Obj.cells #[.int .i64 y, .slice a2 k2 c2] 28)
  have OP : Hid (Calls Tryz.prog 58 #[.int .i64 (k : Int)] W fun e w' => e = .returned (.tuple #[.agg #[.func (.func f1) #[] #[], .func (.func f2) #[] #[]], .bool true]) ∧ Below W.heap.size W w') := Lib.hid (orderOf_at k hk f1 f2 t0 t1 W)
  have hs1 : ∀ (f : Nat) (a : Addr) (W : World) m, Sem.run Tryz.prog (store a (.func (.func f) #[] #[]) m) W = stored Tryz.prog W a (.func (.func f) #[] #[]) m := fun f a W m => run_store Tryz.prog W a _ m rfl
  have G1 := Lib.hid g1; have G2 := Lib.hid g2; have BL := Lib.hid bel
  have d0 : (x != y) = true := bne_iff_ne.2 hxy
  clear s1 s2 g1 g2 bel hr t0 t1 hk hs hxy
  go_enter Tryz.func27, Tryz.ntmps27
  go_wp2_with fail
  try rw [eW]
  refine OP.out.mono ?_
  rintro e w2 ⟨rfl, hb2⟩
  obtain ⟨V, eV, gV, bV, hVs⟩ := alloc1n w2 (Obj.cells #[.func (.func f1) #[] #[], .func (.func f2) #[] #[]] 103)
  have BV := Lib.hid (below_of (below_of BL.out hb2) bV)
  have H1 := Lib.hid (car bV (car hb2 G1.out)); have H2 := Lib.hid (car bV (car hb2 G2.out))
  obtain ⟨p0, p1, -, -, _⟩ := blk2 H1.out
  obtain ⟨q0, q1, -, -, _⟩ := blk2 H2.out
  clear hb2 bV gV
  go_upto_region 2 with fail
  try rw [eV]
  go_wp2_with fail
  refine (R1.out _ BV.out).mono ?_
  rintro e w3 ⟨rfl, hb3⟩
  have B3 := Lib.hid (below_of BV.out hb3)
  have H31 := Lib.hid (car hb3 H1.out); have H32 := Lib.hid (car hb3 H2.out)
  obtain ⟨p0', p1', -, -, _⟩ := blk2 H31.out
  obtain ⟨q0', q1', -, -, _⟩ := blk2 H32.out
  clear hb3 p0 p1 q0 q1
  go_wp2_with fail
  refine (R2.out _ B3.out).mono ?_
  rintro e w4 ⟨rfl, hb4⟩
  have B4 := Lib.hid (below_of B3.out hb4)
  obtain ⟨p0, p1, -, -, _⟩ := blk2 (car hb4 H31.out)
  obtain ⟨q0, q1, -, -, _⟩ := blk2 (car hb4 H32.out)
  clear hb4 p0' p1' q0' q1'
  go_wp2
  go_ret2
  exact ⟨rfl, B4.out⟩
end Go.Proofs.YtccofiakblmkhaaGreat
