/- nat: turned, apply. -/
import Derived.Test.YtafeokkkbiaajabDoorGcdB
namespace Go.Proofs.YtafeokkkbiaajabDoor
open Go.RowKit Mth

/-- the trimmed front of a list -/
theorem tlen_take (R : List Nat) (n : Nat) (hn : n ≤ R.length) : tlen (R.take n) ≤ n ∧ Top (R.take (tlen (R.take n))) ∧ val B64 (R.take (tlen (R.take n))) = val B64 (R.take n) := by
  have ht := tlen_le (R.take n)
  rw [List.length_take, Nat.min_eq_left hn] at ht
  have e : (R.take n).take (tlen (R.take n)) = R.take (tlen (R.take n)) := by rw [List.take_take, Nat.min_eq_left ht]
  refine ⟨ht, ?_, ?_⟩
  · have := top_trimL (R.take n)
    unfold trimL at this
    rw [e] at this
    exact this
  · have := val_trimL B64 (R.take n)
    unfold trimL at this
    rw [e] at this
    exact this

theorem turned_any (u0 v0 u1 v1 : Nat) (ev : Bool) (w : World) : Calls Tryd.prog 62 #[.agg #[.int .u64 (u0 : Int), .int .u64 (v0 : Int), .int .u64 (u1 : Int), .int .u64 (v1 : Int), .bool ev]] w fun e w' => e = .returned (.agg #[.int .u64 (v0 : Int), .int .u64 (u0 : Int), .int .u64 (v1 : Int), .int .u64 (u1 : Int), .bool false]) ∧ Below w.heap.size w w' := by
  go_enter Tryd.func62, Tryd.ntmps62
  go_wp2
  have S1 : Str ((w.alloc (Obj.cells #[Value.int .u64 (u0 : Int), Value.int .u64 (v0 : Int), Value.int .u64 (u1 : Int), Value.int .u64 (v1 : Int), Value.bool ev] 71)).alloc (Obj.cells #[Value.int .u64 (v0 : Int), Value.int .u64 (u0 : Int), Value.int .u64 (v1 : Int), Value.int .u64 (u1 : Int), Value.bool false] 71)) (w.heap.size + 1) v0 u0 v1 u1 false := by
    have := heap_alloc_new (w.alloc (Obj.cells #[Value.int .u64 (u0 : Int), Value.int .u64 (v0 : Int), Value.int .u64 (u1 : Int), Value.int .u64 (v1 : Int), Value.bool ev] 71)) (Obj.cells #[Value.int .u64 (v0 : Int), Value.int .u64 (u0 : Int), Value.int .u64 (v1 : Int), Value.int .u64 (u1 : Int), Value.bool false] 71)
    rw [show (w.alloc (Obj.cells #[Value.int .u64 (u0 : Int), Value.int .u64 (v0 : Int), Value.int .u64 (u1 : Int), Value.int .u64 (v1 : Int), Value.bool ev] 71)).heap.size = w.heap.size + 1 by simp] at this
    exact this
  refine bodyPost_ret (v := .agg #[.int .u64 (v0 : Int), .int .u64 (u0 : Int), .int .u64 (v1 : Int), .int .u64 (u1 : Int), .bool false]) ?_ rfl ⟨rfl, ((Below.refl _ _).alloc (Nat.le_refl _) _).alloc (by simp) _⟩
  simp [results, Tryd.results62, go_sem, S1.cells.1, S1.cells.2.1, S1.cells.2.2.1, S1.cells.2.2.2.1, S1.cells.2.2.2.2]

/-- where apply stands ahead of its loop -/
def AplM (w wx : World) (h n X1 X2 : Nat) (g1 g2 c1 c2 : Nat) (A B : List Nat) (s8 s9 : Value) : Prop := ∃ (gx gy cx cy : Nat) (Xs Ys : List Nat) (a b c d : Nat) (e' : Bool), s8 = .slice (some ⟨gx, 0, none⟩) n cx ∧ s9 = .slice (some ⟨gy, 0, none⟩) n cy ∧ Str wx h a b c d e' ∧ a < B64 ∧ b < B64 ∧ c < B64 ∧ d < B64 ∧ X1 + b * val B64 Ys = a * val B64 Xs ∧ X2 + c * val B64 Xs = d * val B64 Ys ∧
  ((gx = g1 ∧ gy = g2 ∧ cx = c1 ∧ cy = c2 ∧ Xs = A ∧ Ys = B) ∨ (gx = g2 ∧ gy = g1 ∧ cx = c2 ∧ cy = c1 ∧ Xs = B ∧ Ys = A)) ∧ Below w.heap.size w wx
/-- what apply's loop holds -/
def AplO (w wr : World) (base g1 g2 f1 f2 n : Nat) (R1 R2 Xs Ys : List Nat) (a b c d : Nat) (i : Value) : Prop := ∃ (k : Nat) (R1' R2' : List Nat) (k1 l1 b1 k2 l2 b2 : Nat), k ≤ n ∧ i = .int .i64 (k : Int) ∧ Row wr 36 .u64 g1 R1' ∧ Row wr 36 .u64 g2 R2' ∧ R1'.length = R1.length ∧ R2'.length = R2.length ∧ Lim B64 R1' ∧ Lim B64 R2' ∧ (∀ j, k ≤ j → R1'.getD j 0 = R1.getD j 0) ∧ (∀ j, k ≤ j → R2'.getD j 0 = R2.getD j 0) ∧
  Dif wr f1 a b k1 l1 b1 ∧ Dif wr f2 d c k2 l2 b2 ∧ DfT a b Xs Ys R1' k k1 l1 b1 ∧ DfT d c Ys Xs R2' k k2 l2 b2 ∧ Below base w wr

set_option maxHeartbeats 4000000 in
set_option maxRecDepth 100000 in
theorem apply_any (g1 g2 c1 c2 la n : Nat) (R1 R2 : List Nat) (u0 v0 u1 v1 : Nat) (ev : Bool) (w : World) (base X1 X2 : Nat) (h1 : Row w 36 .u64 g1 R1) (h2 : Row w 36 .u64 g2 R2) (hne : g1 ≠ g2) (hb1 : base ≤ g1) (hb2 : base ≤ g2) (hn : n ≤ la) (hl1 : la ≤ R1.length) (hc1 : la ≤ c1) (hl2 : n ≤ R2.length) (hc2 : n ≤ c2) (hm1 : c1 ≤ maxLen) (hm2 : c2 ≤ maxLen) (l1 : Lim B64 R1) (l2 : Lim B64 R2) (hn2 : la ≤ 16777216)
    (hu0 : u0 < B64) (hv0 : v0 < B64) (hu1 : u1 < B64) (hv1 : v1 < B64)
    (e1 : ev = true → X1 + v0 * val B64 (R2.take n) = u0 * val B64 (R1.take la) ∧ X2 + u1 * val B64 (R1.take la) = v1 * val B64 (R2.take n))
    (e2 : ev = false → X1 + u0 * val B64 (R1.take la) = v0 * val B64 (R2.take n) ∧ X2 + v1 * val B64 (R2.take n) = u1 * val B64 (R1.take la)) (hX1 : X1 < B64 ^ n) (hX2 : X2 < B64 ^ n) :
    Calls Tryd.prog 50 #[.agg #[.int .u64 (u0 : Int), .int .u64 (v0 : Int), .int .u64 (u1 : Int), .int .u64 (v1 : Int), .bool ev], .slice (some ⟨g1, 0, none⟩) la c1, .slice (some ⟨g2, 0, none⟩) n c2] w fun e w' =>
      ∃ m1 m2 R1' R2', e = .returned (.tuple #[.slice (some ⟨g1, 0, none⟩) m1 c1, .slice (some ⟨g2, 0, none⟩) m2 c2]) ∧ Row w' 36 .u64 g1 R1' ∧ Row w' 36 .u64 g2 R2' ∧ m1 ≤ n ∧ m2 ≤ n ∧ R1'.length = R1.length ∧ R2'.length = R2.length ∧ Lim B64 R1' ∧ Lim B64 R2' ∧ Top (R1'.take m1) ∧ Top (R2'.take m2) ∧ val B64 (R1'.take m1) = X1 ∧ val B64 (R2'.take m2) = X2 ∧ Below base w w' := by
  have H1 := Lib.hid h1; have H2 := Lib.hid h2; have HNE := Lib.hid hne; have HB1 := Lib.hid hb1; have HB2 := Lib.hid hb2
  have L1 := Lib.hid l1; have L2 := Lib.hid l2
  have HU0 := Lib.hid hu0; have HV0 := Lib.hid hv0; have HU1 := Lib.hid hu1; have HV1 := Lib.hid hv1
  have E1 := Lib.hid e1; have E2 := Lib.hid e2; have HX1 := Lib.hid hX1; have HX2 := Lib.hid hX2
  have HL1 := Lib.hid hl1; have HL2 := Lib.hid hl2
  have hnc1 : n ≤ c1 := by omega
  unfold maxLen at hm1 hm2
  clear h1 h2 hne hb1 hb2 l1 l2 hu0 hv0 hu1 hv1 e1 e2 hX1 hX2 hl1 hl2
  go_enter Tryd.func50, Tryd.ntmps50
  have HB0 := Lib.hid ((Below.refl w.heap.size w).alloc (Nat.le_refl _) (Obj.cells #[Value.int .u64 (u0 : Int), Value.int .u64 (v0 : Int), Value.int .u64 (u1 : Int), Value.int .u64 (v1 : Int), Value.bool ev] 71))
  have HS0 : Hid (Str (w.alloc (Obj.cells #[Value.int .u64 (u0 : Int), Value.int .u64 (v0 : Int), Value.int .u64 (u1 : Int), Value.int .u64 (v1 : Int), Value.bool ev] 71)) w.heap.size u0 v0 u1 v1 ev) := Lib.hid (heap_alloc_new w _)
  have hall : ∀ s8 s9 wx, AplM w wx w.heap.size n X1 X2 g1 g2 c1 c2 (R1.take la) (R2.take n) s8 s9 → True := fun _ _ _ _ => trivial
  clear hall
  go_upto_if 23 with fail
  go_cut [8, 9] (fun s8 s9 wx => AplM w wx w.heap.size n X1 X2 g1 g2 c1 c2 (R1.take la) (R2.take n) s8 s9)
  case first =>
    cases ev with
    | true =>
      have E1' := Lib.hid (E1.out rfl)
      clear E1 E2
      go_wp2_with fail
      go_meet
      exact ⟨_, _, _, _, _, _, u0, v0, u1, v1, true, rfl, rfl, HS0.out, HU0.out, HV0.out, HU1.out, HV1.out, E1'.out.1, E1'.out.2, .inl ⟨rfl, rfl, rfl, rfl, rfl, rfl⟩, HB0.out⟩
    | false =>
      have E2' := Lib.hid (E2.out rfl)
      clear E1 E2
      go_wp2_with fail
      refine (turned_any u0 v0 u1 v1 false _).mono ?_
      rintro e w1 ⟨rfl, hbl⟩
      have S1 := HS0.out.below hbl
      obtain ⟨k0, k1, k2, k3, k4⟩ := S1.cells
      have q0 := S1.free 0; have q1 := S1.free 1; have q2 := S1.free 2; have q3 := S1.free 3; have q4 := S1.free 4
      have HSS := Lib.hid S1
      have HBB := Lib.hid (below_step HB0.out hbl)
      clear hbl S1
      go_wp2_with fail
      go_meet
      have S5 := ((((HSS.out.set0 v0).set1 u0).set2 v1).set3 u1).set4 false
      have B5 := (((((HBB.out.setCell (p := ⟨w.heap.size, 0, none⟩) (Nat.le_refl _) (.int .u64 (v0 : Int))).setCell (p := ⟨w.heap.size, 1, none⟩) (Nat.le_refl _) (.int .u64 (u0 : Int))).setCell (p := ⟨w.heap.size, 2, none⟩) (Nat.le_refl _) (.int .u64 (v1 : Int))).setCell (p := ⟨w.heap.size, 3, none⟩) (Nat.le_refl _) (.int .u64 (u1 : Int))).setCell (p := ⟨w.heap.size, 4, none⟩) (Nat.le_refl _) (.bool false))
      exact ⟨_, _, _, _, _, _, v0, u0, v1, u1, false, rfl, rfl, S5, HV0.out, HU0.out, HV1.out, HU1.out, E2'.out.1, E2'.out.2, .inr ⟨rfl, rfl, rfl, rfl, rfl, rfl⟩, B5⟩
  case rest =>
    obtain ⟨gx, gy, cx, cy, Xs, Ys, a, b, c, d, e', rfl, rfl, hS, ha, hb, hc, hd, hX1, hX2, hor, hbel⟩ := hcut
    clear HB0 HS0 E1 E2 HU0 HV0 HU1 HV1
    obtain ⟨k0, k1, k2, k3, k4⟩ := hS.cells
    have q0 := hS.free 0; have q1 := hS.free 1; have q2 := hS.free 2; have q3 := hS.free 3; have q4 := hS.free 4
    -- the lists of both
    have hlx : n ≤ Xs.length ∧ n ≤ Ys.length ∧ Lim B64 Xs ∧ Lim B64 Ys := by
      have := HL1.out; have := HL2.out
      have z : 0 < B64 := by have := B64_pos; omega
      rcases hor with ⟨_, _, _, _, rfl, rfl⟩ | ⟨_, _, _, _, rfl, rfl⟩
      · exact ⟨by rw [List.length_take]; omega, by rw [List.length_take]; omega, lim_take z L1.out _, lim_take z L2.out _⟩
      · exact ⟨by rw [List.length_take]; omega, by rw [List.length_take]; omega, lim_take z L2.out _, lim_take z L1.out _⟩
    have hcx : n ≤ cx ∧ n ≤ cy ∧ cx ≤ 2 ^ 63 - 1 ∧ cy ≤ 2 ^ 63 - 1 := by rcases hor with ⟨_, _, rfl, rfl, _⟩ | ⟨_, _, rfl, rfl, _⟩ <;> omega
    obtain ⟨hcx1, hcx2, hcx3, hcx4⟩ := hcx
    -- what is read, where both rows are as they were from k on
    have hread : ∀ (wr : World) (k : Nat) (R1' R2' : List Nat), k < n → Row wr 36 .u64 g1 R1' → Row wr 36 .u64 g2 R2' → R1'.length = R1.length → R2'.length = R2.length → (∀ j, k ≤ j → R1'.getD j 0 = R1.getD j 0) → (∀ j, k ≤ j → R2'.getD j 0 = R2.getD j 0) →
        wr.cell? ⟨gx, k, none⟩ = some (.int .u64 ((Xs.getD k 0 : Nat) : Int)) ∧ wr.cell? ⟨gy, k, none⟩ = some (.int .u64 ((Ys.getD k 0 : Nat) : Int)) := by
      intro wr k R1' R2' hk r1 r2 n1 n2 s1 s2
      have := HL1.out; have := HL2.out
      have c1 := r1.cell (j := k) (by omega)
      have c2 := r2.cell (j := k) (by omega)
      rw [s1 k (Nat.le_refl _)] at c1
      rw [s2 k (Nat.le_refl _)] at c2
      rcases hor with ⟨rfl, rfl, _, _, rfl, rfl⟩ | ⟨rfl, rfl, _, _, rfl, rfl⟩
      · rw [getD_take, getD_take, if_pos (by omega), if_pos hk]; exact ⟨c1, c2⟩
      · rw [getD_take, getD_take, if_pos hk, if_pos (by omega)]; exact ⟨c2, c1⟩
    have HS := Lib.hid hS; have HA := Lib.hid ha; have HB := Lib.hid hb; have HC := Lib.hid hc; have HD := Lib.hid hd; have HX1' := Lib.hid hX1; have HX2' := Lib.hid hX2; have HBE := Lib.hid hbel; have HLX := Lib.hid hlx
    have HRD := Lib.hid hread
    have HR1 := Lib.hid (H1.out.below hbel); have HR2 := Lib.hid (H2.out.below hbel)
    have HW := Lib.hid (show base ≤ w.heap.size by have := H1.out.lt; have := HB1.out; omega)
    have HWC := Lib.hid hbel.size
    have HLT : Hid (g1 < wc.heap.size ∧ g2 < wc.heap.size) := Lib.hid ⟨HR1.out.lt, HR2.out.lt⟩
    have S6 := hS.below ((Below.refl _ _).alloc (Nat.le_refl _) (Obj.cells #[Value.int .u64 (a : Int), Value.int .u64 (b : Int), Value.int .u64 0, Value.int .u64 0, Value.int .u64 0] 92))
    obtain ⟨p0, p1, p2, p3, p4⟩ := S6.cells
    clear hS ha hb hc hd hX1 hX2 hor hbel hlx hread S6
    go_wp2_with fail
    have hF1 : Dif (wc.alloc (Obj.cells #[Value.int .u64 (a : Int), Value.int .u64 (b : Int), Value.int .u64 0, Value.int .u64 0, Value.int .u64 0] 92)) wc.heap.size a b 0 0 0 := heap_alloc_new wc _
    have hF1' : Dif ((wc.alloc (Obj.cells #[Value.int .u64 (a : Int), Value.int .u64 (b : Int), Value.int .u64 0, Value.int .u64 0, Value.int .u64 0] 92)).alloc (Obj.cells #[Value.int .u64 (d : Int), Value.int .u64 (c : Int), Value.int .u64 0, Value.int .u64 0, Value.int .u64 0] 92)) wc.heap.size a b 0 0 0 :=
      hF1.grown (row := none) (grown_of_below ((Below.refl _ _).alloc (Nat.le_refl _) _) none) (by simp)
    have hF2 : Dif ((wc.alloc (Obj.cells #[Value.int .u64 (a : Int), Value.int .u64 (b : Int), Value.int .u64 0, Value.int .u64 0, Value.int .u64 0] 92)).alloc (Obj.cells #[Value.int .u64 (d : Int), Value.int .u64 (c : Int), Value.int .u64 0, Value.int .u64 0, Value.int .u64 0] 92)) (wc.heap.size + 1) d c 0 0 0 := by
      have := heap_alloc_new (wc.alloc (Obj.cells #[Value.int .u64 (a : Int), Value.int .u64 (b : Int), Value.int .u64 0, Value.int .u64 0, Value.int .u64 0] 92)) (Obj.cells #[Value.int .u64 (d : Int), Value.int .u64 (c : Int), Value.int .u64 0, Value.int .u64 0, Value.int .u64 0] 92)
      rw [show (wc.alloc (Obj.cells #[Value.int .u64 (a : Int), Value.int .u64 (b : Int), Value.int .u64 0, Value.int .u64 0, Value.int .u64 0] 92)).heap.size = wc.heap.size + 1 by simp] at this
      exact this
    have hB3 : Below w.heap.size w ((wc.alloc (Obj.cells #[Value.int .u64 (a : Int), Value.int .u64 (b : Int), Value.int .u64 0, Value.int .u64 0, Value.int .u64 0] 92)).alloc (Obj.cells #[Value.int .u64 (d : Int), Value.int .u64 (c : Int), Value.int .u64 0, Value.int .u64 0, Value.int .u64 0] 92)) := (HBE.out.alloc HWC.out _).alloc (by have := HWC.out; simp; omega) _
    have hg1 := HR1.out.below (((Below.refl _ _).alloc (Nat.le_refl _) (Obj.cells #[Value.int .u64 (a : Int), Value.int .u64 (b : Int), Value.int .u64 0, Value.int .u64 0, Value.int .u64 0] 92)).alloc (by simp) (Obj.cells #[Value.int .u64 (d : Int), Value.int .u64 (c : Int), Value.int .u64 0, Value.int .u64 0, Value.int .u64 0] 92))
    have hg2 := HR2.out.below (((Below.refl _ _).alloc (Nat.le_refl _) (Obj.cells #[Value.int .u64 (a : Int), Value.int .u64 (b : Int), Value.int .u64 0, Value.int .u64 0, Value.int .u64 0] 92)).alloc (by simp) (Obj.cells #[Value.int .u64 (d : Int), Value.int .u64 (c : Int), Value.int .u64 0, Value.int .u64 0, Value.int .u64 0] 92))
    obtain ⟨f1, hf1⟩ : ∃ f1, f1 = wc.heap.size := ⟨_, rfl⟩
    obtain ⟨f2, hf2⟩ : ∃ f2, f2 = wc.heap.size + 1 := ⟨_, rfl⟩
    have HF : Hid (f2 ≠ f1 ∧ g1 < f1 ∧ g1 < f2 ∧ g2 < f1 ∧ g2 < f2 ∧ base ≤ f1 ∧ base ≤ f2) := Lib.hid (by have := HLT.out; have := HW.out; have := HWC.out; omega)
    rw [← hf2] at hF2 ⊢
    rw [← hf1] at hF1' ⊢
    have KF1 := Lib.hid hF1'; have KF2 := Lib.hid hF2; have KB3 := Lib.hid (hB3.mono HW.out); have KG1 := Lib.hid hg1; have KG2 := Lib.hid hg2
    clear hF1 hF1' hF2 hB3 hg1 hg2 hf1 hf2 k0 k1 k2 k3 k4 q0 q1 q2 q3 q4 p0 p1 p2 p3 p4
    generalize (wc.alloc (Obj.cells #[Value.int .u64 (a : Int), Value.int .u64 (b : Int), Value.int .u64 0, Value.int .u64 0, Value.int .u64 0] 92)).alloc (Obj.cells #[Value.int .u64 (d : Int), Value.int .u64 (c : Int), Value.int .u64 0, Value.int .u64 0, Value.int .u64 0] 92) = w3 at *
    go_loopw [40] (fun i wr => AplO w wr base g1 g2 f1 f2 n R1 R2 Xs Ys a b c d i) (fun i _ => n - (intOf i).toNat)
    case atStart => exact ⟨0, R1, R2, 0, 0, 0, 0, 0, 0, Nat.zero_le _, rfl, KG1.out, KG2.out, rfl, rfl, L1.out, L2.out, fun _ _ => rfl, fun _ _ => rfl, KF1.out, KF2.out, dfT_zero _ _ _ _ _, dfT_zero _ _ _ _ _, KB3.out⟩
    case round =>
      obtain ⟨k, R1', R2', k1, l1, b1, k2, l2, b2, hk, rfl, r1, r2, n1, n2, m1, m2, s1, s2, d1, d2, t1, t2, hbr⟩ := hrel
      have HK := Lib.hid hk; have Q1 := Lib.hid r1; have Q2 := Lib.hid r2; have N1 := Lib.hid n1; have N2 := Lib.hid n2; have M1 := Lib.hid m1; have M2 := Lib.hid m2; have S1 := Lib.hid s1; have S2 := Lib.hid s2
      have Z1 := Lib.hid d1; have Z2 := Lib.hid d2; have T1 := Lib.hid t1; have T2 := Lib.hid t2; have HBR := Lib.hid hbr
      clear hk d1 d2 t1 t2 hbr m1 m2
      by_cases hkn : k < n
      · obtain ⟨hx, hy⟩ := HRD.out wr k R1' R2' hkn r1 r2 n1 n2 s1 s2
        have HX := Lib.hid (HLX.out.2.2.1 k); have HY := Lib.hid (HLX.out.2.2.2 k)
        have V1 := Lib.hid (dfT_step (R' := R1'.set k (dfO a b (Xs.getD k 0) (Ys.getD k 0) k1 l1 b1)) T1.out HA.out HB.out HLX.out.2.2.1 HLX.out.2.2.2 (by have := HLX.out.1; omega) (by have := HLX.out.2.1; omega) (by rw [List.length_set]; have := HL1.out; omega) (by rw [List.take_set_of_le (Nat.le_refl k)]) (by rw [getD_set' _ _ _ _ (by have := HL1.out; omega), if_pos rfl]))
        have V2 := Lib.hid (dfT_step (R' := R2'.set k (dfO d c (Ys.getD k 0) (Xs.getD k 0) k2 l2 b2)) T2.out HD.out HC.out HLX.out.2.2.2 HLX.out.2.2.1 (by have := HLX.out.2.1; omega) (by have := HLX.out.1; omega) (by rw [List.length_set]; have := HL2.out; omega) (by rw [List.take_set_of_le (Nat.le_refl k)]) (by rw [getD_set' _ _ _ _ (by have := HL2.out; omega), if_pos rfl]))
        have KN := Lib.hid hkn
        have O1 : Hid (dfO a b (Xs.getD k 0) (Ys.getD k 0) k1 l1 b1 < B64) := Lib.hid (sLo_lt _ _ _)
        have O2 : Hid (dfO d c (Ys.getD k 0) (Xs.getD k 0) k2 l2 b2 < B64) := Lib.hid (sLo_lt _ _ _)
        generalize Xs.getD k 0 = x at *
        generalize Ys.getD k 0 = y at *
        have hk0 : (0 : Int) ≤ (k : Int) := by omega
        have hk1 : (k : Int) < (n : Int) := by omega
        clear r1 r2 n1 n2 s1 s2
        go_wp2
        go_quiet (fail)
        go_wp2_with fail
        refine (next_any f1 a b k1 l1 b1 x y _ (show Dif (wr.drewN nq) f1 a b k1 l1 b1 from Z1.out) HA.out HB.out T1.out.clt T1.out.llt T1.out.ble HX.out HY.out).mono ?_
        rintro e w5 ⟨rfl, d5, g5⟩
        have D5 := Lib.hid d5; have G5 := Lib.hid g5
        have Y2 := Lib.hid ((show Dif (wr.drewN nq) f2 d c k2 l2 b2 from Z2.out).grown g5 (by have := HF.out.1; simp; omega))
        have P1 := Lib.hid ((show Row (wr.drewN nq) 36 .u64 g1 R1' from Q1.out).grown g5 (by have := HF.out; simp; omega))
        have P2 := Lib.hid ((show Row (wr.drewN nq) 36 .u64 g2 R2' from Q2.out).grown g5 (by have := HF.out; simp; omega))
        have B5 := Lib.hid (below_of_grown (show Below base w (wr.drewN nq) from bdrawn HBR.out nq) g5 HF.out.2.2.2.2.2.1 (by have := HW.out; have := HBR.out.size; simp [World.drewN]; omega))
        clear d5 g5
        go_wp2_with fail
        refine (next_any f2 d c k2 l2 b2 y x _ Y2.out HD.out HC.out T2.out.clt T2.out.llt T2.out.ble HY.out HX.out).mono ?_
        rintro e w6 ⟨rfl, d6, g6⟩
        have D6 := Lib.hid d6; have Y1 := Lib.hid (D5.out.grown g6 (by have := HF.out.1; simp; omega))
        have P3 := P1.out.grown g6 (by have := HF.out; simp; omega)
        have P4 := P2.out.grown g6 (by have := HF.out; simp; omega)
        have B6 := Lib.hid (below_of_grown B5.out g6 HF.out.2.2.2.2.2.2 (by have := HW.out; have := HBR.out.size; have := G5.out.size; simp [World.drewN] at this ⊢; omega))
        have j1 := P3.cell (j := k) (by have := HL1.out; have := N1.out; omega)
        have j2 := P4.cell (j := k) (by have := HL2.out; have := N2.out; omega)
        have i1 := P3.free k; have i2 := P4.free k
        have P3 := Lib.hid P3; have P4 := Lib.hid P4
        have hgg := HNE.out
        have hgg' := HNE.out.symm
        clear d6 g6
        generalize dfO a b x y k1 l1 b1 = o1 at *
        generalize dfO d c y x k2 l2 b2 = o2 at *
        have HKK : Hid (k + 1 ≤ 16777217) := Lib.hid (by omega)
        go_wp2
        go_roundw
        case rel =>
          have A1 := P3.out.set k o1
          have A2 := (P4.out.grown A1.2 (by simp; exact hgg')).set k o2
          have A3 := A1.1.grown A2.2 (by simp; exact hgg)
          have y1 := (Y1.out.grown A1.2 (by have := HF.out; simp; omega)).grown A2.2 (by have := HF.out; simp; omega)
          have y2 := (D6.out.grown A1.2 (by have := HF.out; simp; omega)).grown A2.2 (by have := HF.out; simp; omega)
          have z1 := below_of_grown B6.out A1.2 HB1.out (by have := HW.out; have := B6.out.size; omega)
          have z2 := below_of_grown z1 A2.2 HB2.out (by have := HW.out; have := z1.size; omega)
          refine ⟨k + 1, R1'.set k o1, R2'.set k o2, _, _, _, _, _, _, by have := KN.out; omega, by first | rfl | go_num, A3, A2.1, by rw [List.length_set]; exact N1.out, by rw [List.length_set]; exact N2.out, lim_set M1.out O1.out _, lim_set M2.out O2.out _, fun j hj => ?_, fun j hj => ?_, y1, y2, V1.out, V2.out, z2⟩
          · have := HL1.out; have := N1.out
            rw [getD_set' _ _ _ _ (by omega), if_neg (by omega)]; exact S1.out j (by omega)
          · have := HL2.out; have := N2.out
            rw [getD_set' _ _ _ _ (by omega), if_neg (by omega)]; exact S2.out j (by omega)
        case measure => have := KN.out; simp [intOf]; omega
      · have hkk : k = n := by have := HK.out; omega
        have hd3 : decide ((k : Int) < (n : Int)) = false := decide_eq_false (by omega)
        clear r1 r2 n1 n2 s1 s2
        subst hkk
        have F1 := dfT_end T1.out HLX.out.1 HLX.out.2.1 M1.out (by have := HL1.out; have := N1.out; omega) HX1'.out HX1.out
        have F2 := dfT_end T2.out HLX.out.2.1 HLX.out.1 M2.out (by have := HL2.out; have := N2.out; omega) HX2'.out HX2.out
        have F3 := Q1.out.sl (off := 0) (n := k) (cap := c1) (by have := HL1.out; have := N1.out; omega) (by omega) (by unfold maxLen; omega) (by omega)
        have F4 := Q2.out.sl (off := 0) (n := k) (cap := c2) (by have := HL2.out; have := N2.out; omega) (by omega) (by unfold maxLen; omega) (by omega)
        rw [List.drop_zero] at F3 F4
        have K1 := Lib.hid (trim_eq' F3); have K2 := Lib.hid (trim_eq' F4)
        have F1 := Lib.hid F1; have F2 := Lib.hid F2
        have tt1 := Lib.hid (tlen_take R1' k (by have := HL1.out; have := N1.out; omega)); have tt2 := Lib.hid (tlen_take R2' k (by have := HL2.out; have := N2.out; omega))
        clear F3 F4
        generalize tlen (R1'.take k) = p1 at *
        generalize tlen (R2'.take k) = p2 at *
        go_wp2_with fail
        refine (K1.out).mono ?_
        rintro e w' ⟨rfl, rfl⟩
        go_wp2_with fail
        refine (K2.out).mono ?_
        rintro e w' ⟨rfl, rfl⟩
        go_wp2
        go_ret2
        exact ⟨p1, p2, R1', R2', rfl, Q1.out, Q2.out, tt1.out.1, tt2.out.1, N1.out, N2.out, M1.out, M2.out, tt1.out.2.1, tt2.out.2.1, tt1.out.2.2.trans F1.out, tt2.out.2.2.trans F2.out, HBR.out⟩
end Go.Proofs.YtafeokkkbiaajabDoor
