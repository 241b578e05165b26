/- tribunalref02: Rounded. -/
import Derived.Test.YthgmebnihpjnoaaGreatDoorYB4
import Derived.Test.YthgmebnihpjnoaaGreatDoorYJ
import Derived.Test.YthgmebnihpjnoaaGreatDoorZB4
import Derived.Deep.RegionWith
set_option linter.unusedVariables false
set_option linter.unusedSimpArgs false
namespace Go.Proofs.YthgmebnihpjnoaaGreatDoor
open Go.RowKit Mth

theorem zv_len {w : World} {ao : Option Addr} {n : Bool} {k c : Nat} {z : Int} (h : ZV w (.agg #[.bool n, .slice ao k c]) z) : k = 0 ↔ z = 0 := by
  obtain ⟨_, ys, _, hl, ht, hv, rfl⟩ := h.parts
  constructor
  · intro h0; obtain rfl : ys = [] := List.eq_nil_of_length_eq_zero h0
    have : (0 : Nat) = z.natAbs := hv
    omega
  · intro h0
    rcases Nat.eq_zero_or_pos ys.length with h1 | h1
    · exact h1
    · have h2 := val_ge_top (B := B16) ht h1
      have h3 : 0 < B16 ^ (ys.length - 1) := Nat.pow_pos (by unfold B16; omega)
      have h4 : val B16 ys = 0 := by rw [hv, h0]; rfl
      omega
theorem blk_to2 {w : World} {g : Nat} {a b x y : Value} {T : TypeId} (h : w.heap[g]? = some (.cells #[a, b] T (0, 0))) : ((w.setCell ⟨g, 0, none⟩ x).setCell ⟨g, 1, none⟩ y).heap[g]? = some (.cells #[x, y] T (0, 0)) :=
  heap_setCell_same _ g 1 _ _ y (heap_setCell_same w g 0 _ _ x h)
/-- rounded up, or down -/
def rUF (up : Bool) (x y : Int) : Int := if up = true then qU x y else qF x y
theorem rUF_t (x y : Int) : rUF true x y = qU x y := if_pos rfl
theorem rUF_f (x y : Int) : rUF false x y = qF x y := if_neg (by simp)
/-- a number that the reference can add (a name: the bound must not stand open in a walk) -/
structure LtZ (z : Int) : Prop where
  out : z.natAbs < HugeD

set_option maxHeartbeats 8000000 in
set_option maxRecDepth 100000 in
theorem rounded_any (va vb : Value) (x y : Int) (up : Bool) (w : World) (ha : ZV w va x) (hb : ZV w vb y) (hx : x.natAbs < HugeD) (hy : y.natAbs < HugeD) (h0 : y ≠ 0) :
    Calls Tryz.prog 70 #[va, vb, .bool up] w fun e w' => ∃ v', e = .returned v' ∧ ZV w' v' (rUF up x y) ∧ Below w.heap.size w w' := by
  obtain ⟨n1, a1, k1, c1, rfl⟩ := ha.shape
  obtain ⟨n2, a2, k2, c2, rfl⟩ := hb.shape
  obtain ⟨rfl, _⟩ := ha.parts
  obtain ⟨rfl, _⟩ := hb.parts
  have LQ : Hid (LtZ (qC x y)) := Lib.hid ⟨by rw [amt_qC]; exact Nat.lt_of_le_of_lt (Nat.div_le_self _ _) hx⟩
  have CU : Hid (∀ w1, Below w.heap.size w w1 → Calls Tryz.prog 90 #[.agg #[.bool (sgn x), .slice a1 k1 c1], .agg #[.bool (sgn y), .slice a2 k2 c2]] w1 fun e w' => ∃ v1 v2, e = .returned (.tuple #[v1, v2]) ∧ ZV w' v1 (qC x y) ∧ ZV w' v2 (rC x y) ∧ Below w1.heap.size w1 w') := Lib.hid (fun w1 h => cut_any _ _ x y w1 (ha.below h) (hb.below h) hy h0)
  clear ha hb hx hy h0
  go_enter Tryz.func70, Tryz.ntmps70
  go_wp2_with fail
  obtain ⟨W, eW, h1, h2, h3, bel, hsz⟩ := alloc3 w (Obj.cells #[Value.bool (sgn x), Value.slice a1 k1 c1] 66) (Obj.cells #[Value.bool (sgn y), Value.slice a2 k2 c2] 66) (Obj.cells #[Value.bool false, Value.slice none 0 0] 66)
  rw [eW]
  have hlw : w.heap.size + 1 + 1 < W.heap.size := hsz
  have H1 := Lib.hid h1; have H2 := Lib.hid h2; have H3 : Hid (W.heap[w.heap.size + 1 + 1]? = _) := Lib.hid h3
  have BW := Lib.hid bel
  clear eW h1 h2 h3 bel hsz
  refine (CU.out W BW.out).mono ?_
  rintro e w3 ⟨vq, vr, rfl, zq, zr, hb3⟩
  obtain ⟨nq, aq, kq, cq, rfl⟩ := zq.shape
  obtain ⟨nr, ar, kr, cr, rfl⟩ := zr.shape
  have hz3 := hb3.size
  obtain ⟨U, eU, hQ, hR, belU, hsU⟩ := alloc2 w3 (Obj.cells #[Value.bool nq, Value.slice aq kq cq] 66) (Obj.cells #[Value.bool nr, Value.slice ar kr cr] 66)
  have HL := Lib.hid (zv_len zr)
  have ZQ := Lib.hid (zq.below belU)
  have BU := Lib.hid (below_of (below_of BW.out hb3) belU)
  have HRES := Lib.hid (blk_below' belU (blk_below' hb3 H3.out))
  have HQ := Lib.hid hQ
  obtain ⟨x0, x1, _, _, _⟩ := blk2 (blk_below' belU (blk_below' hb3 H1.out))
  obtain ⟨y0, y1, _, _, _⟩ := blk2 (blk_below' belU (blk_below' hb3 H2.out))
  obtain ⟨r0, r1, f0, f1, hlr⟩ := blk2 HRES.out
  obtain ⟨q0, q1, _, _, hlq⟩ := blk2 hQ
  obtain ⟨s0, s1, _, _, _⟩ := blk2 hR
  have hneq : w3.heap.size ≠ w.heap.size + 1 + 1 := by omega
  have hl2 : w.heap.size ≤ w.heap.size + 1 + 1 := by omega
  clear zq zr hb3 hQ hR belU H1 H2 H3 CU
  have SAME : Hid (∀ (z : Int), qC x y = z → ZV ((U.setCell ⟨w.heap.size + 1 + 1, 0, none⟩ (.bool nq)).setCell ⟨w.heap.size + 1 + 1, 1, none⟩ (.slice aq kq cq)) (.agg #[.bool nq, .slice aq kq cq]) z ∧ Below w.heap.size w ((U.setCell ⟨w.heap.size + 1 + 1, 0, none⟩ (.bool nq)).setCell ⟨w.heap.size + 1 + 1, 1, none⟩ (.slice aq kq cq))) := Lib.hid (fun z e => by
    subst e
    exact ⟨ZQ.out.far HRES.out, (BU.out.setCell (p := ⟨w.heap.size + 1 + 1, 0, none⟩) hl2 _).setCell (p := ⟨w.heap.size + 1 + 1, 1, none⟩) hl2 _⟩)
  by_cases hr : rC x y = 0
  · have hk : kr = 0 := HL.out.2 hr
    subst hk
    have S := Lib.hid (SAME.out (rUF up x y) (by cases up; (rw [rUF_f]; unfold qF; rw [if_neg (fun h => h.1 hr)]); (rw [rUF_t]; unfold qU; rw [if_neg (fun h => h.1 hr)])))
    clear hr SAME
    go_wp2
    refine bodyPost_ret (v := .agg #[.bool nq, .slice aq kq cq]) ?_ rfl ⟨_, rfl, S.out.1, S.out.2⟩
    simp [results, Tryz.results70, go_sem, *]
  · have hd : ((kr : Int) == 0) = false := by rw [beq_eq_false_iff_ne]; intro e; exact hr (HL.out.1 (by omega))
    have KEEP : Hid (∀ w', Below U.heap.size U w' → w'.cell? ⟨w3.heap.size, 0, none⟩ = some (.bool nq) ∧ w'.cell? ⟨w3.heap.size, 1, none⟩ = some (.slice aq kq cq) ∧ w'.heap[w.heap.size + 1 + 1]? = some (.cells #[.bool false, .slice none 0 0] 66 (0, 0))) :=
      Lib.hid (fun w' h => ⟨cell_to h q0 hlq, cell_to h q1 hlq, (h.block _ hlr).trans HRES.out⟩)
    have hone : (1 : Nat) < HugeD := Nat.lt_of_lt_of_le one_lt_big (Nat.le_trans big_huge huge_d)
    have O1 : Hid (LtZ 1) := Lib.hid ⟨hone⟩
    have O2 : Hid (LtZ (-1)) := Lib.hid ⟨hone⟩
    clear hone
    obtain ⟨bl, hbl⟩ : ∃ bl, (sgn x == sgn y) = bl := ⟨_, rfl⟩
    cases bl <;> cases up
    · have E : Hid (qC x y + (-1) = rUF false x y) := Lib.hid (by
        have e : sgn x ≠ sgn y := by simpa using hbl
        rw [rUF_f]; unfold qF; rw [if_pos ⟨hr, e⟩]; omega)
      have ONE := O2
      clear hr O1 O2 SAME
      go_wp2
      go_region_with (first
        | (go_at_call 66; refine Calls.mono (small1_any (-1) _ (by omega) (by omega)) ?_; rintro e w4 ⟨v4, rfl, z4, hb4⟩; obtain ⟨n4, a4, k4, c4, rfl⟩ := z4.shape; have hB4 := Lib.hid (below_of (Below.refl U.heap.size U).drew hb4); have HZ4 := Lib.hid z4; obtain ⟨o0, o1, hG4⟩ := KEEP.out _ hB4.out; obtain ⟨m0, m1, i0, i1, _⟩ := blk2 hG4; clear z4 hb4 hG4)
        | (go_at_call 94; refine Calls.mono (plus_any2 _ _ (qC x y) (-1) _ ?_ ?_ LQ.out.out ONE.out.out) ?_; (exact ZQ.out.below hB4.out); (exact HZ4.out); rintro e w5 ⟨v5, rfl, z5, hb5⟩; obtain ⟨n5, a5, k5, c5, rfl⟩ := z5.shape; have hB5 := Lib.hid (below_of hB4.out hb5); have HZ5 := Lib.hid z5; obtain ⟨u0, u1, hG5⟩ := KEEP.out _ hB5.out; obtain ⟨j0, j1, l0, l1, _⟩ := blk2 hG5; have HG5 := Lib.hid hG5; clear z5 hb5 hG5 m0 m1 i0 i1 o0 o1))
      all_goals
        have z6 := HZ5.out
        rw [E.out] at z6
        have Z6 := Lib.hid (z6.far (y0 := .bool n5) (y1 := .slice a5 k5 c5) HG5.out)
        have B6 := Lib.hid (((below_of BU.out hB5.out).setCell (p := ⟨w.heap.size + 1 + 1, 0, none⟩) hl2 (.bool n5)).setCell (p := ⟨w.heap.size + 1 + 1, 1, none⟩) hl2 (.slice a5 k5 c5))
        clear z6
        go_wp2
        refine bodyPost_ret (v := .agg #[.bool n5, .slice a5 k5 c5]) ?_ rfl ⟨_, rfl, Z6.out, B6.out⟩
        simp [results, Tryz.results70, go_sem, *]
    · have S := Lib.hid (SAME.out (rUF true x y) (by
        have e : sgn x ≠ sgn y := by simpa using hbl
        rw [rUF_t]; unfold qU; rw [if_neg (fun h => e h.2)]))
      clear hr O1 O2
      clear SAME KEEP
      go_wp2
      refine bodyPost_ret (v := .agg #[.bool nq, .slice aq kq cq]) ?_ rfl ⟨_, rfl, S.out.1, S.out.2⟩
      simp [results, Tryz.results70, go_sem, *]
    · have S := Lib.hid (SAME.out (rUF false x y) (by
        have e : sgn x = sgn y := by simpa using hbl
        rw [rUF_f]; unfold qF; rw [if_neg (fun h => h.2 e)]))
      clear hr O1 O2
      clear SAME KEEP
      go_wp2
      refine bodyPost_ret (v := .agg #[.bool nq, .slice aq kq cq]) ?_ rfl ⟨_, rfl, S.out.1, S.out.2⟩
      simp [results, Tryz.results70, go_sem, *]
    · have E : Hid (qC x y + 1 = rUF true x y) := Lib.hid (by
        have e : sgn x = sgn y := by simpa using hbl
        rw [rUF_t]; unfold qU; rw [if_pos ⟨hr, e⟩])
      have ONE := O1
      clear hr O1 O2 SAME
      go_wp2
      go_region_with (first
        | (go_at_call 66; refine Calls.mono (small1_any (1) _ (by omega) (by omega)) ?_; rintro e w4 ⟨v4, rfl, z4, hb4⟩; obtain ⟨n4, a4, k4, c4, rfl⟩ := z4.shape; have hB4 := Lib.hid (below_of (Below.refl U.heap.size U).drew hb4); have HZ4 := Lib.hid z4; obtain ⟨o0, o1, hG4⟩ := KEEP.out _ hB4.out; obtain ⟨m0, m1, i0, i1, _⟩ := blk2 hG4; clear z4 hb4 hG4)
        | (go_at_call 94; refine Calls.mono (plus_any2 _ _ (qC x y) (1) _ ?_ ?_ LQ.out.out ONE.out.out) ?_; (exact ZQ.out.below hB4.out); (exact HZ4.out); rintro e w5 ⟨v5, rfl, z5, hb5⟩; obtain ⟨n5, a5, k5, c5, rfl⟩ := z5.shape; have hB5 := Lib.hid (below_of hB4.out hb5); have HZ5 := Lib.hid z5; obtain ⟨u0, u1, hG5⟩ := KEEP.out _ hB5.out; obtain ⟨j0, j1, l0, l1, _⟩ := blk2 hG5; have HG5 := Lib.hid hG5; clear z5 hb5 hG5 m0 m1 i0 i1 o0 o1))
      all_goals
        have z6 := HZ5.out
        rw [E.out] at z6
        have Z6 := Lib.hid (z6.far (y0 := .bool n5) (y1 := .slice a5 k5 c5) HG5.out)
        have B6 := Lib.hid (((below_of BU.out hB5.out).setCell (p := ⟨w.heap.size + 1 + 1, 0, none⟩) hl2 (.bool n5)).setCell (p := ⟨w.heap.size + 1 + 1, 1, none⟩) hl2 (.slice a5 k5 c5))
        clear z6
        go_wp2
        refine bodyPost_ret (v := .agg #[.bool n5, .slice a5 k5 c5]) ?_ rfl ⟨_, rfl, Z6.out, B6.out⟩
        simp [results, Tryz.results70, go_sem, *]
end Go.Proofs.YthgmebnihpjnoaaGreatDoor
