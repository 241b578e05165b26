/- Package ratio: Neg, inverted, Quo (written by genrnq.py). -/
import Derived.Test.YthgmebnihpjnoaaGreatDoorBKO
import Derived.Test.YthgmebnihpjnoaaGreatDoorRLW
import Derived.Test.YthgmebnihpjnoaaGreatDoorQB4
import Derived.Deep.RegionHeld3
set_option linter.unusedVariables false
set_option linter.unusedSimpArgs false
namespace Go.Proofs.YthgmebnihpjnoaaGreatDoor
open Go.RowKit Mth

set_option maxHeartbeats 4000000 in
set_option maxRecDepth 100000 in
theorem rneg_any3 (v : Value) (x : Int) (d : Nat) (w : World) (h : RatV w v x d) : Calls Tryz.prog 24 #[v] w fun e w' => ∃ v' E, e = .returned (.tuple #[v', .int .i64 E]) ∧ AnsV w' v' E (-x) d ∧ Below w.heap.size w w' := by
  have H1 := Lib.hid h
  obtain ⟨m1, a1, k1, c1, s1, t1, u1, xs1, ys1, rfl, -⟩ := h
  obtain ⟨W, eW, h1, h2, bW, -⟩ := alloc2 w (Obj.cells #[.bool m1, .slice a1 k1 c1, .slice s1 t1 u1] 27) (Obj.cells #[.bool false, .slice none 0 0, .slice none 0 0] 27)
  have HR : Hid (W.heap[w.heap.size + 1]? = _) := Lib.hid h2; have BW := Lib.hid bW
  have TU := Lib.hid (rturned_any _ x d W (H1.out.below bW))
  have hle : w.heap.size ≤ w.heap.size + 1 := Nat.le_succ _
  obtain ⟨⟨p0, p1, p2⟩, _, _⟩ := blk3 h1
  clear h1 h2 bW
  go_enter Tryz.func24, Tryz.ntmps24
  go_wp2_with fail
  try rw [eW]
  try clear eW
  refine TU.out.mono ?_
  rintro e w1 ⟨v1, rfl, hr, b1⟩
  have B1 := Lib.hid (below_of BW.out b1); have R1 := Lib.hid (blk_below' b1 HR.out)
  have AN := Lib.hid (ranswer_any v1 (-x) d w1 hr)
  clear hr b1 TU p0 p1 p2
  go_wp2_with fail
  refine AN.out.mono ?_
  rintro e w2 ⟨v2, E, rfl, ha, b2⟩
  have HA := Lib.hid ha.v
  obtain ⟨n2, a2, k2, c2, s2, t2, u2, rfl⟩ := ansv_shape ha.v
  have B2 := Lib.hid (below_of B1.out b2); have R2 := Lib.hid (blk_below' b2 R1.out)
  clear ha b2 AN
  obtain ⟨⟨r0, r1, r2⟩, ⟨f0, f1, f2⟩, _⟩ := blk3 R2.out
  go_wp2
  refine bodyPost_ret (v := .tuple #[.agg #[.bool n2, .slice a2 k2 c2, .slice s2 t2 u2], .int .i64 E]) ?_ rfl ⟨_, _, rfl, HA.out.far3 R2.out, ((B2.out.setCell (p := ⟨w.heap.size + 1, 0, none⟩) hle _).setCell (p := ⟨w.heap.size + 1, 1, none⟩) hle _).setCell (p := ⟨w.heap.size + 1, 2, none⟩) hle _⟩
  simp [results, Tryz.results24, go_sem, *]
theorem sgn_sg {n : Bool} {m : Nat} (h : sg n m ≠ 0) : sgn (sg n m) = n := by
  cases n
  · simp only [sg] at h ⊢
    exact sgn_pos (by simp)
  · simp only [sg] at h ⊢
    exact sgn_neg (by simp at h ⊢; omega)
set_option maxHeartbeats 4000000 in
set_option maxRecDepth 100000 in
theorem rinv_any (v : Value) (x : Int) (d : Nat) (w : World) (h : RatV w v x d) (hx : x ≠ 0) : Calls Tryz.prog 60 #[v] w fun e w' => ∃ v', e = .returned v' ∧ RatV w' v' (sg (sgn x) d) x.natAbs ∧ Below w.heap.size w w' := by
  have H1 := Lib.hid h; have HX := Lib.hid hx
  obtain ⟨m1, a1, k1, c1, s1, t1, u1, xs1, ys1, rfl, -⟩ := h
  obtain ⟨W, eW, h1, h2, bW, -⟩ := alloc2 w (Obj.cells #[.bool m1, .slice a1 k1 c1, .slice s1 t1 u1] 27) (Obj.cells #[.bool false, .slice none 0 0, .slice none 0 0] 27)
  have HR : Hid (W.heap[w.heap.size + 1]? = _) := Lib.hid h2; have BW := Lib.hid bW
  have hle : w.heap.size ≤ w.heap.size + 1 := Nat.le_succ _
  have HN : Hid (RatV (((W.setCell ⟨w.heap.size + 1, 0, none⟩ (.bool m1)).setCell ⟨w.heap.size + 1, 1, none⟩ (.slice s1 t1 u1)).setCell ⟨w.heap.size + 1, 2, none⟩ (.slice a1 k1 c1)) (.agg #[.bool m1, .slice s1 t1 u1, .slice a1 k1 c1]) (sg (sgn x) d) x.natAbs) := Lib.hid (by
    obtain ⟨m, a, k, c, a', k', c', xs, ys, ev, g1, g2, g3, g4, g5, g6, g7, g8⟩ := H1.out.below bW
    simp only [Value.agg.injEq, Array.mk.injEq, List.cons.injEq, Value.bool.injEq, and_true] at ev
    obtain ⟨rfl, e1, e2⟩ := ev
    refine RatV.far3 ⟨m1, s1, t1, u1, a1, k1, c1, ys, xs, rfl, by rw [e2]; exact g5, g6, g7, ?_, by rw [e1]; exact g1, g2, g3, ?_⟩ h2
    · rw [← g8]
      have : sgn x = m1 := by rw [g4]; exact sgn_sg (by rw [← g4]; exact HX.out)
      rw [this]
    · rw [g4, natAbs_sg])
  obtain ⟨⟨p0, p1, p2⟩, _, _⟩ := blk3 h1
  obtain ⟨⟨r0, r1, r2⟩, ⟨f0, f1, f2⟩, _⟩ := blk3 h2
  clear h1 h2 bW
  go_enter Tryz.func60, Tryz.ntmps60
  go_wp2
  try rw [eW]
  refine bodyPost_ret (v := .agg #[.bool m1, .slice s1 t1 u1, .slice a1 k1 c1]) ?_ rfl ⟨_, rfl, HN.out, ((BW.out.setCell (p := ⟨w.heap.size + 1, 0, none⟩) hle _).setCell (p := ⟨w.heap.size + 1, 1, none⟩) hle _).setCell (p := ⟨w.heap.size + 1, 2, none⟩) hle _⟩
  simp [results, Tryz.results60, go_sem, *]
/-- what a quotient is -/
def QuoC (x : Int) (d : Nat) (y : Int) (e : Nat) (E : Int) (X : Int) (D : Nat) : Prop :=
  ((d = 0 ∨ e = 0) ∧ E = 11 ∧ X = 0 ∧ D = 0) ∨ (0 < d ∧ 0 < e ∧ (longQ (x, d) ∨ longQ (y, e)) ∧ E = 5 ∧ X = 0 ∧ D = 0) ∨
  (0 < d ∧ 0 < e ∧ ¬ longQ (x, d) ∧ ¬ longQ (y, e) ∧ y = 0 ∧ E = 11 ∧ X = 0 ∧ D = 0) ∨
  (0 < d ∧ 0 < e ∧ ¬ longQ (x, d) ∧ ¬ longQ (y, e) ∧ y ≠ 0 ∧ longQ (lowN (x * sg (sgn y) e) (d * y.natAbs), lowD (x * sg (sgn y) e) (d * y.natAbs)) ∧ E = 5 ∧ X = 0 ∧ D = 0) ∨
  (0 < d ∧ 0 < e ∧ ¬ longQ (x, d) ∧ ¬ longQ (y, e) ∧ y ≠ 0 ∧ ¬ longQ (lowN (x * sg (sgn y) e) (d * y.natAbs), lowD (x * sg (sgn y) e) (d * y.natAbs)) ∧ E = 0 ∧ X = lowN (x * sg (sgn y) e) (d * y.natAbs) ∧ D = lowD (x * sg (sgn y) e) (d * y.natAbs))
def QuoO (w : World) (v : Value) (x : Int) (d : Nat) (y : Int) (e : Nat) (E : Int) : Prop := ∃ (X : Int) (D : Nat), FrV w v X D ∧ QuoC x d y e E X D
theorem quoC_same {x : Int} {d : Nat} {y : Int} {e : Nat} {E E' X X' : Int} {D D' : Nat} (h : QuoC x d y e E X D) (k : QuoC x d y e E' X' D') : E = E' ∧ X = X' ∧ D = D' := by
  rcases h with ⟨h1, rfl, rfl, rfl⟩ | ⟨h1, h2, h3, rfl, rfl, rfl⟩ | ⟨h1, h2, h3, h4, h5, rfl, rfl, rfl⟩ | ⟨h1, h2, h3, h4, h5, h6, rfl, rfl, rfl⟩ | ⟨h1, h2, h3, h4, h5, h6, rfl, rfl, rfl⟩ <;>
    rcases k with ⟨k1, rfl, rfl, rfl⟩ | ⟨k1, k2, k3, rfl, rfl, rfl⟩ | ⟨k1, k2, k3, k4, k5, rfl, rfl, rfl⟩ | ⟨k1, k2, k3, k4, k5, k6, rfl, rfl, rfl⟩ | ⟨k1, k2, k3, k4, k5, k6, rfl, rfl, rfl⟩ <;> first
    | exact ⟨rfl, rfl, rfl⟩
    | (exfalso; omega)
    | (exfalso; rcases h3 with a | a <;> first | exact k3 a | exact k4 a)
    | (exfalso; rcases k3 with a | a <;> first | exact h3 a | exact h4 a)
    | exact absurd h5 k5
    | exact absurd k5 h5
    | exact absurd h6 k6
    | exact absurd k6 h6
theorem longQ_flip {y : Int} {e : Nat} : longQ (sg (sgn y) e, y.natAbs) ↔ longQ (y, e) := by
  unfold longQ
  show (BigR ≤ (sg (sgn y) e).natAbs ∨ BigR ≤ y.natAbs) ↔ (BigR ≤ y.natAbs ∨ BigR ≤ e)
  rw [natAbs_sg]; omega
theorem quo_out {w : World} {v : Value} {x : Int} {d : Nat} {y : Int} {e : Nat} {E : Int} (hd : 0 < d) (he : 0 < e) (hl : ¬ longQ (x, d)) (hl2 : ¬ longQ (y, e)) (hy : y ≠ 0) (h : OutQY w v (x * sg (sgn y) e) (d * y.natAbs) x d (sg (sgn y) e) y.natAbs E) : QuoO w v x d y e E := by
  obtain ⟨X, D, hf, _, _, hc⟩ := h
  refine ⟨X, D, hf, ?_⟩
  rcases hc with ⟨h1, _⟩ | ⟨_, _, h1, h2, h3, h4⟩ | ⟨_, _, _, _, h1, h2, h3, h4⟩
  · exfalso; omega
  · rcases h1 with h1 | h1 | h1
    · exact absurd h1 hl
    · exact absurd (longQ_flip.1 h1) hl2
    · exact .inr (.inr (.inr (.inl ⟨hd, he, hl, hl2, hy, h1, h2, h3, h4⟩)))
  · exact .inr (.inr (.inr (.inr ⟨hd, he, hl, hl2, hy, h1, h2, h3, h4⟩)))
theorem QuoO.far3 {x : Int} {d : Nat} {y : Int} {e : Nat} {w : World} {v y0 y1 y2 : Value} {E : Int} {R : Nat} {T : TypeId} {b : Bool} {ao ao' : Option Addr} {k c k' c' : Nat} (h : QuoO w v x d y e E) (hR : w.heap[R]? = some (.cells #[.bool b, .slice ao k c, .slice ao' k' c'] T (0, 0))) : QuoO (((w.setCell ⟨R, 0, none⟩ y0).setCell ⟨R, 1, none⟩ y1).setCell ⟨R, 2, none⟩ y2) v x d y e E := by
  obtain ⟨X, D, hf, hc⟩ := h
  exact ⟨X, D, hf.far3 hR, hc⟩
theorem frv_zq (w : World) : FrV w (.agg #[.bool false, .slice none 0 0, .slice none 0 0]) 0 0 := ⟨none, 0, 0, none, 0, 0, rfl, (ow_nil w 0).num, (ow_nil w 0).num⟩
set_option maxHeartbeats 16000000 in
set_option maxRecDepth 100000 in
theorem rquo_any3 (va vb : Value) (x1 x2 : Int) (d1 d2 : Nat) (w : World) (ha : RatV w va x1 d1) (hb : RatV w vb x2 d2) : Calls Tryz.prog 22 #[va, vb] w fun e w' => ∃ v' E, e = .returned (.tuple #[v', .int .i64 E]) ∧ QuoO w' v' x1 d1 x2 d2 E ∧ Below w.heap.size w w' := by
  have H1 := Lib.hid ha; have H2 := Lib.hid hb
  obtain ⟨m1, a1, k1, c1, s1, t1, u1, xs1, ys1, rfl, -⟩ := ha
  obtain ⟨m2, a2, k2, c2, s2, t2, u2, xs2, ys2, rfl, -⟩ := hb
  obtain ⟨W2, eW2, h1, h2, h3, b2, hz2⟩ := alloc3 w (Obj.cells #[.bool m1, .slice a1 k1 c1, .slice s1 t1 u1] 27) (Obj.cells #[.bool m2, .slice a2 k2 c2, .slice s2 t2 u2] 27) (Obj.cells #[.bool false, .slice none 0 0, .slice none 0 0] 27)
  have hs2 : W2.heap.size = w.heap.size + 1 + 1 + 1 := by rw [← eW2]; simp
  obtain ⟨W, eW, g1, bW, hzW⟩ := alloc1 W2 (Obj.cells #[.bool m1, .slice a1 k1 c1, .slice s1 t1 u1, .bool m2, .slice a2 k2 c2, .slice s2 t2 u2] 27)
  have HA := Lib.hid (blk_below' bW h1); have HB : Hid (W.heap[w.heap.size + 1]? = _) := Lib.hid (blk_below' bW h2); have HR : Hid (W.heap[w.heap.size + 1 + 1]? = _) := Lib.hid (blk_below' bW h3)
  have BW := Lib.hid (below_of b2 bW)
  have CK := Lib.hid (check_any _ _ W (ral_two g1 (H1.out.below BW.out) (H2.out.below BW.out)) (by simp))
  obtain ⟨⟨p0, p1, p2⟩, _, _⟩ := blk3 h1
  obtain ⟨⟨q0, q1, q2⟩, _, _⟩ := blk3 h2
  rw [hs2] at CK
  have hle : w.heap.size ≤ w.heap.size + 1 + 1 := by omega
  clear h1 h2 h3 b2 g1 bW
  go_enter Tryz.func22, Tryz.ntmps22
  go_wp2_with fail
  refine CK.out.mono ?_
  rintro e w1 ⟨E, rfl, hE, b1⟩
  have A1 := Lib.hid (blk_below' b1 HA.out); have C1 := Lib.hid (blk_below' b1 HB.out); have R1 := Lib.hid (blk_below' b1 HR.out); have B1 := Lib.hid (below_of BW.out b1)
  clear b1 p0 p1 p2 q0 q1 q2 CK HA HB HR BW eW eW2 hzW hz2 hs2
  unfold ChkO at hE
  rw [rzero_two, rlong_two] at hE
  obtain ⟨⟨r0, r1, r2⟩, ⟨f0, f1, f2⟩, _⟩ := blk3 R1.out
  rcases hE with ⟨hd, rfl⟩ | ⟨hd, hl, rfl⟩ | ⟨hd, hl, rfl⟩
  · have HD := Lib.hid hd
    clear hd
    go_wp2
    refine bodyPost_ret (v := .tuple #[.agg #[.bool false, .slice none 0 0, .slice none 0 0], .int .i64 11]) ?_ rfl ⟨_, _, rfl, ⟨0, 0, frv_zq _, .inl ⟨HD.out, rfl, rfl, rfl⟩⟩, ((B1.out.setCell (p := ⟨w.heap.size + 1 + 1, 0, none⟩) hle _).setCell (p := ⟨w.heap.size + 1 + 1, 1, none⟩) hle _).setCell (p := ⟨w.heap.size + 1 + 1, 2, none⟩) hle _⟩
    simp [results, Tryz.results22, go_sem, *]
  · have HD : Hid (0 < d1 ∧ 0 < d2) := Lib.hid (by omega)
    have HL := Lib.hid hl
    clear hd hl
    go_wp2
    refine bodyPost_ret (v := .tuple #[.agg #[.bool false, .slice none 0 0, .slice none 0 0], .int .i64 5]) ?_ rfl ⟨_, _, rfl, ⟨0, 0, frv_zq _, .inr (.inl ⟨HD.out.1, HD.out.2, HL.out, rfl, rfl, rfl⟩)⟩, ((B1.out.setCell (p := ⟨w.heap.size + 1 + 1, 0, none⟩) hle _).setCell (p := ⟨w.heap.size + 1 + 1, 1, none⟩) hle _).setCell (p := ⟨w.heap.size + 1 + 1, 2, none⟩) hle _⟩
    simp [results, Tryz.results22, go_sem, *]
  · have HD : Hid (0 < d1 ∧ 0 < d2) := Lib.hid (by omega)
    have HL : Hid (¬ longQ (x1, d1) ∧ ¬ longQ (x2, d2)) := Lib.hid ⟨fun h => hl (.inl h), fun h => hl (.inr h)⟩
    have RD := Lib.hid (rread_any _ x2 d2 w1 (H2.out.below B1.out))
    obtain ⟨⟨q0, q1, q2⟩, _, lq⟩ := blk3 C1.out
    clear hd hl r0 r1 r2 f0 f1 f2
    go_wp2_with fail
    refine RD.out.mono ?_
    rintro e w2 ⟨v2, rfl, hf, b2⟩
    obtain ⟨a3, k3, c3, s3, t3, u3, rfl, n1, n2⟩ := hf
    have A2 := Lib.hid (blk_below' b2 A1.out); have C2 := Lib.hid (blk_below' b2 C1.out); have R2 := Lib.hid (blk_below' b2 R1.out); have B2 := Lib.hid (below_of B1.out b2)
    have hfn : ∀ u, (Instr.field 84 (.agg #[.bool (sgn x2), .slice a3 k3 c3, .slice s3 t3 u3]) 0).run Tryz.prog u = .ok (.agg #[.bool (sgn x2), .slice a3 k3 c3]) u := fun u => by kernel_rfl
    have HK : Hid (k3 = 0 ↔ x2 = 0) := Lib.hid (by
      obtain ⟨xs, g1, g2, g3, g4⟩ := n1
      have e := sl_eq_len g1
      constructor
      · rintro rfl
        have : xs = [] := List.eq_nil_of_length_eq_zero e.symm
        rw [this] at g4
        have : (0 : Nat) = x2.natAbs := g4
        omega
      · rintro rfl
        have hv : val B64 xs = 0 := g4
        have := tlen_zero_iff.2 hv
        rw [show tlen xs = xs.length from g3] at this
        omega)
    clear b2 n1 n2 RD q0 q1 q2 lq A1 C1 R1 B1
    go_wp2_with fail
    refine (nzero_is (sgn x2) a3 k3 c3 w2).mono ?_
    rintro e w5 ⟨rfl, b5⟩
    have A2 := Lib.hid (blk_below' b5 A2.out); have C2 := Lib.hid (blk_below' b5 C2.out); have R2 := Lib.hid (blk_below' b5 R2.out); have B2 := Lib.hid (below_of B2.out b5)
    clear b5
    obtain ⟨⟨r0, r1, r2⟩, ⟨f0, f1, f2⟩, _⟩ := blk3 R2.out
    by_cases hx : x2 = 0
    · have HX := Lib.hid hx
      obtain rfl := HK.out.2 hx
      clear hx
      go_wp2
      refine bodyPost_ret (v := .tuple #[.agg #[.bool false, .slice none 0 0, .slice none 0 0], .int .i64 11]) ?_ rfl ⟨_, _, rfl, ⟨0, 0, frv_zq _, .inr (.inr (.inl ⟨HD.out.1, HD.out.2, HL.out.1, HL.out.2, HX.out, rfl, rfl, rfl⟩))⟩, ((B2.out.setCell (p := ⟨w.heap.size + 1 + 1, 0, none⟩) hle _).setCell (p := ⟨w.heap.size + 1 + 1, 1, none⟩) hle _).setCell (p := ⟨w.heap.size + 1 + 1, 2, none⟩) hle _⟩
      simp [results, Tryz.results22, go_sem, *]
    · have HX := Lib.hid hx
      have hk : ((k3 : Int) == 0) = false := by rw [beq_eq_false_iff_ne]; intro h; exact hx (HK.out.1 (by omega))
      clear hx r0 r1 r2 f0 f1 f2
      obtain ⟨⟨p0, p1, p2⟩, _, lp⟩ := blk3 A2.out
      obtain ⟨⟨q0, q1, q2⟩, _, lq⟩ := blk3 C2.out
      have NI0 : NoInt #[.bool false, .slice none 0 0, .slice none 0 0] := by
        intro i k n
        rcases i with _ | _ | _ | i <;> simp
      have HNI := Lib.hid NI0
      have STAY : Hid (∀ w', ZrN w5 w' (w.heap.size + 1 + 1) 27 3 → w'.cell? ⟨w.heap.size, 0, none⟩ = some (.bool m1) ∧ w'.cell? ⟨w.heap.size, 1, none⟩ = some (.slice a1 k1 c1) ∧ w'.cell? ⟨w.heap.size, 2, none⟩ = some (.slice s1 t1 u1) ∧ w'.cell? ⟨w.heap.size + 1, 0, none⟩ = some (.bool m2) ∧ w'.cell? ⟨w.heap.size + 1, 1, none⟩ = some (.slice a2 k2 c2) ∧ w'.cell? ⟨w.heap.size + 1, 2, none⟩ = some (.slice s2 t2 u2) ∧ ZrN w5 w' (w.heap.size + 1 + 1) 27 3) :=
        Lib.hid (fun w' h => ⟨h.cell p0 (by omega), h.cell p1 (by omega), h.cell p2 (by omega), h.cell q0 (by omega), h.cell q1 (by omega), h.cell q2 (by omega), h⟩)
      have TU : Hid (∀ u, ZrN w5 u (w.heap.size + 1 + 1) 27 3 → Calls Tryz.prog 60 #[.agg #[.bool m2, .slice a2 k2 c2, .slice s2 t2 u2]] u fun e w' => ∃ v', e = .returned v' ∧ RatV w' v' (sg (sgn x2) d2) x2.natAbs ∧ Below u.heap.size u w') := Lib.hid (fun u h => rinv_any _ x2 d2 u ((H2.out.below B2.out).zrn R2.out HNI.out h) HX.out)
      have RA : Hid (∀ u, ZrN w5 u (w.heap.size + 1 + 1) 27 3 → RatV u (.agg #[.bool m1, .slice a1 k1 c1, .slice s1 t1 u1]) x1 d1) := Lib.hid (fun u h => (H1.out.below B2.out).zrn R2.out HNI.out h)
      have AD : Hid (∀ u g m3 a3 k3 c3 s3 t3 u3, ZrN w5 u (w.heap.size + 1 + 1) 27 3 → u.heap[g]? = some (.cells #[.bool m1, .slice a1 k1 c1, .slice s1 t1 u1, .bool m3, .slice a3 k3 c3, .slice s3 t3 u3] 27 (0, 0)) → RatV u (.agg #[.bool m3, .slice a3 k3 c3, .slice s3 t3 u3]) (sg (sgn x2) d2) x2.natAbs → Calls Tryz.prog 26 #[.slice (some ⟨g, 0, none⟩) 2 2] u fun e w' => ∃ v' E, e = .returned (.tuple #[v', .int .i64 E]) ∧ GatO true (1, 1) [(zRat, x1, d1), (zRat, sg (sgn x2) d2, x2.natAbs)] w' v' E ∧ Below u.heap.size u w') := Lib.hid (fun u g m3 a3 k3 c3 s3 t3 u3 hz hg hr => (rmul_any3 _ _ u (ral_two hg (RA.out u hz) hr) (by simp)).mono fun e w' ⟨v', E, h1, h2, h3⟩ => ⟨v', E, h1, gat_vals h2, h3⟩)
      have hZ0 : ZrN w5 w5.drew (w.heap.size + 1 + 1) 27 3 := (zrn_start R2.out HNI.out).drew
      clear NI0 lp lq p0 p1 p2 q0 q1 q2 HK
      go_wp2_with fail
      go_region_held3 (fun w' => w'.cell? ⟨w.heap.size, 0, none⟩ = some (.bool m1) ∧ w'.cell? ⟨w.heap.size, 1, none⟩ = some (.slice a1 k1 c1) ∧ w'.cell? ⟨w.heap.size, 2, none⟩ = some (.slice s1 t1 u1) ∧ w'.cell? ⟨w.heap.size + 1, 0, none⟩ = some (.bool m2) ∧ w'.cell? ⟨w.heap.size + 1, 1, none⟩ = some (.slice a2 k2 c2) ∧ w'.cell? ⟨w.heap.size + 1, 2, none⟩ = some (.slice s2 t2 u2) ∧ ZrN w5 w' (w.heap.size + 1 + 1) 27 3)
        (((try go_split_ands); refine STAY.out _ ?_; repeat (first | (with_reducible assumption) | (with_reducible refine ZrN.drew ?_) | (with_reducible refine ZrN.alloc ?_) | (with_reducible refine ZrN.setS ?_) | (with_reducible refine ZrN.setB ?_))))
        (first
        | (go_at_call 60; go_split_ands; ((with_reducible refine Calls.mono (TU.out _ (by with_reducible assumption)) ?_); rintro e wA ⟨vA, rfl, jjA, hbA⟩; obtain ⟨m3, a3, k3, c3, s3, t3, u3, rfl⟩ := rat_shape jjA; have hkA := ZrN.call hbA (by with_reducible assumption)))
        | (go_at_call 26; go_split_ands; ((with_reducible refine Calls.mono (AD.out _ _ m3 a3 k3 c3 s3 t3 u3 (by with_reducible assumption) ?_ ?_) ?_); (repeat (first | (with_reducible assumption) | (with_reducible refine rat_allocz ?_) | (with_reducible refine rat_drewz ?_) | (with_reducible refine rat_callz hbA ?_) | ((with_reducible refine blk_newz ?_); (first | omega | (simp only [sz_alloc, sz_set, sz_drew]; omega) | (focus (simp only [sz_alloc, sz_set, sz_drew]; done)))) | (with_reducible refine blk_drew ?_) | (first | omega | (simp only [sz_alloc, sz_set, sz_drew]; omega) | (focus (simp only [sz_alloc, sz_set, sz_drew]; done))))); rintro e wB ⟨vB, E, rfl, jjB, hbB⟩; obtain ⟨m4, a4, k4, c4, s4, t4, u4, rfl⟩ := gat_shape jjB; have hkB := ZrN.call hbB (by with_reducible assumption); have JB := Lib.hid jjB; obtain ⟨x0B, x1B, x2B, hRB⟩ := zrn_three hkB; obtain ⟨⟨r0B, r1B, r2B⟩, ⟨f0B, f1B, f2B⟩, lRB⟩ := blk3 hRB)))
      all_goals
        have ZF : Hid (ZrN w5 (((wB.setCell ⟨w.heap.size + 1 + 1, 0, none⟩ (.bool m4)).setCell ⟨w.heap.size + 1 + 1, 1, none⟩ (.slice a4 k4 c4)).setCell ⟨w.heap.size + 1 + 1, 2, none⟩ (.slice s4 t4 u4)) (w.heap.size + 1 + 1) 27 3) := Lib.hid (((hkB.setB).setS).setS)
        have JF := Lib.hid (quo_out HD.out.1 HD.out.2 HL.out.1 HL.out.2 HX.out (out_mulY (GatO.farZ (y0 := .bool m4) (y1 := .slice a4 k4 c4) (y2 := .slice s4 t4 u4) JB.out hkB)))
        go_wp2
        refine bodyPost_ret (v := .tuple #[.agg #[.bool m4, .slice a4 k4 c4, .slice s4 t4 u4], .int .i64 E]) ?_ rfl ⟨_, _, rfl, JF.out, ZF.out.zr.below B2.out hle⟩
        simp [results, Tryz.results22, go_sem, *]
end Go.Proofs.YthgmebnihpjnoaaGreatDoor
