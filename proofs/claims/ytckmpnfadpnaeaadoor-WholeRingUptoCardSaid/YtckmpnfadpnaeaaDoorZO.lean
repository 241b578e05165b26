/- Package whole: an amount's quotient where neither is long; divide; answers. -/
import Derived.Test.YtckmpnfadpnaeaaDoorZM
set_option linter.unusedVariables false
set_option linter.unusedSimpArgs false
namespace Go.Proofs.YtckmpnfadpnaeaaDoor
open Go.RowKit Mth

/-- what quo answers -/
def QuoOk (w : World) (u v : Value) (m n : Nat) : Prop := Calls Tryd.prog 74 #[u, v] w fun e w' => ∃ q r, e = .returned (.tuple #[q, r]) ∧ Ow w' w.heap.size q (m / n) ∧ Ow w' w.heap.size r (m % n) ∧ Below w.heap.size w w'
theorem num_long {w : World} {n k c : Nat} {ao : Option Addr} (h : Num w (.slice ao k c) n) : 4096 < k ↔ Big ≤ n := by
  obtain ⟨xs, h1, h2, h3, h4⟩ := h
  obtain ⟨ao', c', e, _⟩ := h1
  simp only [Value.slice.injEq] at e
  obtain ⟨_, rfl, _⟩ := e
  rw [← h4, ← long_iff h2, trimL_of_top h3]
set_option maxRecDepth 100000 in
theorem quo_short (u v : Value) (m n : Nat) (w : World) (h1 : Num w u m) (h2 : Num w v n) (hm : m < Big) (hn : n < Big) (h0 : n ≠ 0) : QuoOk w u v m n := by
  unfold QuoOk
  have Q := Lib.hid (quo_nm h1.nm h2.nm)
  have F := Lib.hid (quo_fine (show ¬ (Big ≤ m ∨ Big ≤ n) by omega) h0)
  obtain ⟨a1, k1, c1, rfl⟩ := h1.nm.shape
  obtain ⟨a2, k2, c2, rfl⟩ := h2.nm.shape
  have l1 := num_long h1
  have l2 := num_long h2
  have hd1 : decide ((4096 : Int) < (k1 : Int)) = false := decide_eq_false (by intro e; have := l1.1 (by omega); omega)
  have hd2 : decide ((4096 : Int) < (k2 : Int)) = false := decide_eq_false (by intro e; have := l2.1 (by omega); omega)
  clear h1 h2 l1 l2 hm hn h0
  go_enter Tryd.func74, Tryd.ntmps74
  go_wp2_with (first | (go_at_call 70; refine (long_is _ _ _ _).mono ?_; rintro e w' ⟨rfl, rfl⟩) | (go_at_call 38; refine (limbs_is _ _ _ _).mono ?_; rintro e w' ⟨rfl, rfl⟩) | (go_at_call 91; refine Q.out.mono ?_; rintro e w1 ⟨vq, vr, rfl, hq, hr, hb⟩))
  rw [F.out.1] at hq
  rw [F.out.2.1] at hr
  have HQ := Lib.hid hq.ow; have HR := Lib.hid hr.ow; have HB := Lib.hid hb
  clear hq hr hb
  go_wp2
  go_ret2
  exact ⟨_, _, rfl, HQ.out, HR.out, HB.out⟩

/-- a block of four cells -/
theorem blk4 {w : World} {g : Nat} {a b c d : Value} {T : TypeId} (h : w.heap[g]? = some (.cells #[a, b, c, d] T (0, 0))) :
    (w.cell? ⟨g, 0, none⟩ = some a ∧ w.cell? ⟨g, 1, none⟩ = some b ∧ w.cell? ⟨g, 2, none⟩ = some c ∧ w.cell? ⟨g, 3, none⟩ = some d) ∧ (w.frozen? ⟨g, 0, none⟩ = false ∧ w.frozen? ⟨g, 1, none⟩ = false ∧ w.frozen? ⟨g, 2, none⟩ = false ∧ w.frozen? ⟨g, 3, none⟩ = false) := by
  refine ⟨⟨?_, ?_, ?_, ?_⟩, frozen_of_row w g 0 _ _ h, frozen_of_row w g 1 _ _ h, frozen_of_row w g 2 _ _ h, frozen_of_row w g 3 _ _ h⟩ <;> (rw [cell_of_row w g _ _ _ (0, 0) h]; rfl)
theorem Zr.four {W w1 : World} {R : Nat} {T : TypeId} (h : Zr W w1 R T 4) : ∃ a b c d, (w1.cell? ⟨R, 0, none⟩ = some a ∧ w1.cell? ⟨R, 1, none⟩ = some b ∧ w1.cell? ⟨R, 2, none⟩ = some c ∧ w1.cell? ⟨R, 3, none⟩ = some d) ∧ (w1.frozen? ⟨R, 0, none⟩ = false ∧ w1.frozen? ⟨R, 1, none⟩ = false ∧ w1.frozen? ⟨R, 2, none⟩ = false ∧ w1.frozen? ⟨R, 3, none⟩ = false) := by
  obtain ⟨_, cs, h2, h3⟩ := h
  obtain ⟨l⟩ := cs
  match l, h3 with
  | [a, b, c, d], _ => exact ⟨a, b, c, d, blk4 h2⟩
theorem Ow.zr {W w1 : World} {base n R k : Nat} {v : Value} {T : TypeId} (h : Ow W base v n) (hz : Zr W w1 R T k) (hne : ∀ b, inBlock v = some b → b ≠ R) : Ow w1 base v n := by
  rcases h with h | ⟨g, cap, cur, xs, rfl, h1, h2⟩
  · exact .inl h
  · exact .inr ⟨g, cap, cur, xs, rfl, (hz.1.block g (Array.getElem?_eq_some_iff.1 h1).1 (fun e => hne g rfl (Option.some.inj e))).trans h1, h2⟩
theorem signed_num {k n : Nat} {b : Bool} (h : k = 0 ↔ n = 0) : (b && !((k : Int) == 0)) = sgn (sg b n) := by
  by_cases hn : n = 0
  · have hk := h.2 hn
    subst hn hk
    rw [sgn_sg0]; cases b <;> rfl
  · have : ((k : Int) == 0) = false := by rw [beq_eq_false_iff_ne]; intro e; exact hn (h.1 (by omega))
    rw [this, sgn_sg (Nat.pos_of_ne_zero hn)]; cases b <;> rfl

set_option maxHeartbeats 1000000 in
set_option maxRecDepth 100000 in
theorem divide_zero (va vb : Value) (x : Int) (w : World) (ha : NuV w va x) (hb : NuV w vb 0) :
    Calls Tryd.prog 46 #[va, vb] w fun e w' => e = .returned (.tuple #[.agg #[.slice none 0 0, .bool false, .slice none 0 0, .bool false], .int .i64 11]) ∧ Below w.heap.size w w' := by
  obtain ⟨a1, k1, c1, n1, rfl⟩ := ha.shape
  obtain ⟨a2, k2, c2, n2, rfl⟩ := hb.shape
  have hk := hb.parts.2.1.2 rfl
  have hd : ((k2 : Int) == 0) = true := by rw [hk]; rfl
  clear ha hb hk
  go_enter Tryd.func46, Tryd.ntmps46
  go_wp2_with fail
  refine (zero_is _ _ _ _).mono ?_
  rintro e w' ⟨rfl, rfl⟩
  obtain ⟨W, eW, h1, h2, h3, bel, hsz⟩ := alloc3 w (Obj.cells #[Value.slice a1 k1 c1, Value.bool n1] 54) (Obj.cells #[Value.slice a2 k2 c2, Value.bool n2] 54) (Obj.cells #[Value.slice none 0 0, Value.bool false, Value.slice none 0 0, Value.bool false] 72)
  rw [eW]
  have h3' : W.heap[w.heap.size + 1 + 1]? = _ := h3
  obtain ⟨⟨k0, k1', k2', k3⟩, g0, g1, g2, g3⟩ := blk4 h3'
  clear eW h1 h2 h3 h3'
  go_wp2
  have hl : w.heap.size ≤ w.heap.size + 1 + 1 := by omega
  refine bodyPost_ret (v := .tuple #[.agg #[.slice none 0 0, .bool false, .slice none 0 0, .bool false], .int .i64 11]) ?_ rfl ⟨rfl, (((bel.setCell (p := ⟨w.heap.size + 1 + 1, 0, none⟩) hl _).setCell (p := ⟨w.heap.size + 1 + 1, 1, none⟩) hl _).setCell (p := ⟨w.heap.size + 1 + 1, 2, none⟩) hl _).setCell (p := ⟨w.heap.size + 1 + 1, 3, none⟩) hl _⟩
  simp [results, Tryd.results46, go_sem, *]
set_option maxHeartbeats 4000000 in
set_option maxRecDepth 100000 in
theorem divide_fine (va vb : Value) (x y : Int) (w : World) (ha : NuV w va x) (hb : NuV w vb y) (hy : y ≠ 0) (hl : ∀ a1 k1 c1 b1 a2 k2 c2 b2, va = .agg #[.slice a1 k1 c1, .bool b1] → vb = .agg #[.slice a2 k2 c2, .bool b2] → k1 ≤ 4096 + k2)
    (hq : ∀ u v w1, Below w.heap.size w w1 → Num w1 u x.natAbs → Num w1 v y.natAbs → QuoOk w1 u v x.natAbs y.natAbs) :
    Calls Tryd.prog 46 #[va, vb] w fun e w' => ∃ q b r d, e = .returned (.tuple #[.agg #[q, b, r, d], .int .i64 0]) ∧ NuC w' w.heap.size (.agg #[q, b]) (qC x y) ∧ NuC w' w.heap.size (.agg #[r, d]) (rC x y) ∧ Below w.heap.size w w' := by
  obtain ⟨a1, k1, c1, n1, rfl⟩ := ha.shape
  obtain ⟨a2, k2, c2, n2, rfl⟩ := hb.shape
  obtain ⟨rfl, _, m1⟩ := ha.parts
  obtain ⟨rfl, z2, m2⟩ := hb.parts
  have hkk := hl _ _ _ _ _ _ _ _ rfl rfl
  have hd : ((k2 : Int) == 0) = false := by rw [beq_eq_false_iff_ne]; intro e; exact hy (z2.1 (by omega))
  have Q : Hid (∀ w1, Below w.heap.size w w1 → QuoOk w1 (.slice a1 k1 c1) (.slice a2 k2 c2) x.natAbs y.natAbs) := Lib.hid (fun w1 h => hq _ _ w1 h (m1.below h) (m2.below h))
  have L1 : k1 ≤ 16777216 := by obtain ⟨xs, s, _⟩ := m1; have := s.len; obtain ⟨_, _, e, _⟩ := s; simp only [Value.slice.injEq] at e; omega
  have L2 : k2 ≤ 16777216 := by obtain ⟨xs, s, _⟩ := m2; have := s.len; obtain ⟨_, _, e, _⟩ := s; simp only [Value.slice.injEq] at e; omega
  clear ha hb hl hq z2 m1 m2 hy
  go_enter Tryd.func46, Tryd.ntmps46
  go_wp2_with fail
  obtain ⟨W, eW, h1, h2, h3, bel, hsz⟩ := alloc3 w (Obj.cells #[Value.slice a1 k1 c1, Value.bool (sgn x)] 54) (Obj.cells #[Value.slice a2 k2 c2, Value.bool (sgn y)] 54) (Obj.cells #[Value.slice none 0 0, Value.bool false, Value.slice none 0 0, Value.bool false] 72)
  rw [eW]
  obtain ⟨p0, p1, _, _, _⟩ := blk2 h1
  obtain ⟨q0, q1, _, _, _⟩ := blk2 h2
  have H3 := Lib.hid h3
  clear eW h1 h2 h3
  refine (zero_is _ _ _ _).mono ?_
  rintro e w' ⟨rfl, rfl⟩
  go_wp2_with fail
  refine (Q.out W bel).mono ?_
  rintro e w1 ⟨vq, vr, rfl, oq, orr, hb1⟩
  obtain ⟨aq, kq, cq, rfl⟩ := oq.shape
  obtain ⟨ar, kr, cr, rfl⟩ := orr.shape
  have EQ : Hid ((!(sgn x == sgn y) && !((kq : Int) == 0)) = sgn (sg (sgn x != sgn y) (x.natAbs / y.natAbs))) := Lib.hid (signed_num (b := sgn x != sgn y) oq.zero)
  have ER := Lib.hid (signed_num (b := sgn x) orr.zero)
  have OQ := Lib.hid oq; have OR := Lib.hid orr
  have h3 : w1.heap[w.heap.size + 1 + 1]? = _ := (hb1.block _ hsz).trans H3.out
  have Z0 := zr_start h3
  have p1' := cell_to hb1 p1 (by omega); have q1' := cell_to hb1 q1 (by omega)
  have B1 := below_of bel hb1
  have hs1 : w.heap.size + 1 + 1 < w1.heap.size := size_to hb1 hsz
  have STAY : Hid (∀ w', Zr w1 w' (w.heap.size + 1 + 1) 72 4 → w'.cell? ⟨w.heap.size, 1, none⟩ = some (.bool (sgn x)) ∧ w'.cell? ⟨w.heap.size + 1, 1, none⟩ = some (.bool (sgn y)) ∧ Zr w1 w' (w.heap.size + 1 + 1) 72 4) :=
    Lib.hid (fun w' h => ⟨h.cell p1' (by omega), h.cell q1' (by omega), h⟩)
  have HZ := Lib.hid (show ∀ w', Zr w1 w' (w.heap.size + 1 + 1) 72 4 → Below w1.heap.size w1 w1 → Ow w' w.heap.size (.slice aq kq cq) (x.natAbs / y.natAbs) ∧ Ow w' w.heap.size (.slice ar kr cr) (x.natAbs % y.natAbs) ∧ Below w.heap.size w w' from
    fun w' h _ => ⟨(OQ.out.zr h (fun b hb => by have := (OQ.out.block b hb).1; omega)).mono bel.size, (OR.out.zr h (fun b hb => by have := (OR.out.block b hb).1; omega)).mono bel.size, h.below B1 (by omega)⟩)
  obtain ⟨s1, s2, _⟩ := STAY.out _ Z0
  clear oq orr p0 p1 q0 q1 h3 p1' q1'
  go_wp2_with fail
  go_region_held3 (fun w' => w'.cell? ⟨w.heap.size, 1, none⟩ = some (.bool (sgn x)) ∧ w'.cell? ⟨w.heap.size + 1, 1, none⟩ = some (.bool (sgn y)) ∧ Zr w1 w' (w.heap.size + 1 + 1) 72 4)
    ((try go_split_ands; refine STAY.out _ ?_; first | assumption | exact Zr.call (by assumption) (by assumption) | exact Zr.set (Zr.set (Zr.set (Zr.set (by assumption))))))
    (first
    | (go_at_call 55; go_split_ands; refine (signed_is _ _ _ _ _).mono ?_; rintro e w' ⟨rfl, hb3, _⟩; (first | rw [EQ.out] | rw [ER.out]); obtain ⟨_, _, _, _, ⟨u0, u1, u2, u3⟩, g0, g1, g2, g3⟩ := Zr.four (Zr.call ‹Zr _ _ _ _ _› hb3)))
  go_wp2
  refine bodyPost_ret (v := .tuple #[.agg #[.slice aq kq cq, .bool (sgn (qC x y)), .slice ar kr cr, .bool (sgn (rC x y))], .int .i64 0]) ?_ rfl ⟨_, _, _, _, rfl, ⟨_, rfl, by rw [amt_qC]; exact (HZ.out _ (by first | assumption | (go_split_ands; assumption)) (Below.refl _ _)).1⟩, ⟨_, rfl, by rw [amt_rC]; exact (HZ.out _ (by first | assumption | (go_split_ands; assumption)) (Below.refl _ _)).2.1⟩, (HZ.out _ (by first | assumption | (go_split_ands; assumption)) (Below.refl _ _)).2.2⟩
  simp [results, Tryd.results46, go_sem, *, qC, rC]
end Go.Proofs.YtckmpnfadpnaeaaDoor
