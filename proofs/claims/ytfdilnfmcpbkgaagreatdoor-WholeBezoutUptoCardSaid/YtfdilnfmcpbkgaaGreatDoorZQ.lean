/- Package whole: a division's block; DivMod where nothing is long. -/
import Derived.Test.YtfdilnfmcpbkgaaGreatDoorZD
import Derived.Test.YtfdilnfmcpbkgaaGreatDoorZ3
set_option linter.unusedVariables false
set_option linter.unusedSimpArgs false
namespace Go.Proofs.YtfdilnfmcpbkgaaGreatDoor
open Go.RowKit Mth

theorem nuc_to {w w' : World} {b b' : Nat} {v : Value} {z : Int} (h : NuC w b v z) (hb : b' ≤ b) (hB : Below w.heap.size w w') : NuC w' b' v z := (h.below hB).mono hb
theorem nuc_new (w : World) (o : Obj) : Below w.heap.size w (w.alloc o) := (Below.refl _ _).alloc (Nat.le_refl _) _
theorem nuc_to4 {w : World} {b b' R : Nat} {v y0 y1 y2 y3 : Value} {z : Int} (h : NuC w b v z) (hR : R < b) (hb : b' ≤ b) : NuC ((((w.setCell ⟨R, 0, none⟩ y0).setCell ⟨R, 1, none⟩ y1).setCell ⟨R, 2, none⟩ y2).setCell ⟨R, 3, none⟩ y3) b' v z := ((((h.far hR).far hR).far hR).far hR).mono hb
theorem NuC.away {w : World} {base R j : Nat} {v x : Value} {z : Int} {cs : Array Value} {T : TypeId} (h : NuC w base v z) (hR : w.heap[R]? = some (.cells cs T (0, 0))) (hT : T ≠ 44) : NuC (w.setCell ⟨R, j, none⟩ x) base v z := by
  obtain ⟨u, h0, h1⟩ := h; exact ⟨u, h0, h1.away hR hT⟩
theorem blk_set {w : World} {g i : Nat} {cs ds : Array Value} {T : TypeId} {v : Value} (h : w.heap[g]? = some (.cells cs T (0, 0))) (e : cs.setIfInBounds i v = ds) : (w.setCell ⟨g, i, none⟩ v).heap[g]? = some (.cells ds T (0, 0)) := by
  rw [heap_setCell_same w g i cs T v h, e]
theorem blk_set4 {w : World} {g : Nat} {a b c d a' b' c' d' : Value} {T : TypeId} (h : w.heap[g]? = some (.cells #[a, b, c, d] T (0, 0))) : ((((w.setCell ⟨g, 0, none⟩ a').setCell ⟨g, 1, none⟩ b').setCell ⟨g, 2, none⟩ c').setCell ⟨g, 3, none⟩ d').heap[g]? = some (.cells #[a', b', c', d'] T (0, 0)) :=
  blk_set (blk_set (blk_set (blk_set h rfl) rfl) rfl) rfl
theorem blk_new {w : World} {cs : Array Value} {T : TypeId} {g : Nat} (h : g = w.heap.size) : (w.alloc (.cells cs T)).heap[g]? = some (.cells cs T (0, 0)) := by subst h; exact heap_alloc_new w _
theorem blk_below {w w' : World} {B g : Nat} {x : Obj} (hb : Below B w w') (hg : g < B) (h : w.heap[g]? = some x) : w'.heap[g]? = some x := (hb.block g hg).trans h
theorem blk_drew {w : World} {g : Nat} {x : Obj} (h : w.heap[g]? = some x) : w.drew.heap[g]? = some x := h
/-- what divide has left -/
def DivO (W wx : World) (x y : Int) (s e : Value) : Prop := ∃ (g : Nat) (aq : Option Addr) (kq cq : Nat) (bq : Bool) (ar : Option Addr) (kr cr : Nat) (br : Bool), s = .pointer (some ⟨g, 0, none⟩) ∧ e = .int .i64 0 ∧ wx.heap[g]? = some (.cells #[.slice aq kq cq, .bool bq, .slice ar kr cr, .bool br] 77 (0, 0)) ∧ W.heap.size ≤ g ∧ NuC wx W.heap.size (.agg #[.slice aq kq cq, .bool bq]) x ∧ NuC wx W.heap.size (.agg #[.slice ar kr cr, .bool br]) y ∧ Below W.heap.size W wx
theorem set_below {B g i : Nat} {w w' : World} {v : Value} (h : Below B w w') (hg : B ≤ g) : Below B w (w'.setCell ⟨g, i, none⟩ v) := h.setCell (p := ⟨g, i, none⟩) hg v
theorem divO_quo {V wc w5 : World} {y z : Int} {g b : Nat} {aq : Option Addr} {kq cq : Nat} {bq : Bool} {ar : Option Addr} {kr cr : Nat} {br : Bool} {a5 : Option Addr} {k5 c5 : Nat} {b5 : Bool} (hg : wc.heap[g]? = some (.cells #[.slice aq kq cq, .bool bq, .slice ar kr cr, .bool br] 77 (0, 0))) (hV : V.heap.size ≤ g) (hr : NuC wc V.heap.size (.agg #[.slice ar kr cr, .bool br]) y) (hB : Below V.heap.size V wc) (h5 : Below wc.heap.size wc w5) (hn : NuC w5 b (.agg #[.slice a5 k5 c5, .bool b5]) z) (hb : V.heap.size ≤ b) :
    DivO V ((w5.setCell ⟨g, 0, none⟩ (.slice a5 k5 c5)).setCell ⟨g, 1, none⟩ (.bool b5)) z y (.pointer (some ⟨g, 0, none⟩)) (.int .i64 0) := by
  have hlt := (Array.getElem?_eq_some_iff.1 hg).1
  have e5 := blk_below h5 hlt hg
  have e6 := blk_set (v := .slice a5 k5 c5) (i := 0) e5 rfl
  exact ⟨g, a5, k5, c5, b5, ar, kr, cr, br, rfl, rfl, blk_set e6 rfl, hV, (((hn.away e5 (by decide)).away e6 (by decide)).mono hb), (((hr.below h5).away e5 (by decide)).away e6 (by decide)), set_below (set_below (hB.trans (h5.mono hB.size)) hV) hV⟩
theorem divO_rest {V wc w5 : World} {x z : Int} {g b : Nat} {aq : Option Addr} {kq cq : Nat} {bq : Bool} {ar : Option Addr} {kr cr : Nat} {br : Bool} {a5 : Option Addr} {k5 c5 : Nat} {b5 : Bool} (hg : wc.heap[g]? = some (.cells #[.slice aq kq cq, .bool bq, .slice ar kr cr, .bool br] 77 (0, 0))) (hV : V.heap.size ≤ g) (hq : NuC wc V.heap.size (.agg #[.slice aq kq cq, .bool bq]) x) (hB : Below V.heap.size V wc) (h5 : Below wc.heap.size wc w5) (hn : NuC w5 b (.agg #[.slice a5 k5 c5, .bool b5]) z) (hb : V.heap.size ≤ b) :
    DivO V ((w5.setCell ⟨g, 2, none⟩ (.slice a5 k5 c5)).setCell ⟨g, 3, none⟩ (.bool b5)) x z (.pointer (some ⟨g, 0, none⟩)) (.int .i64 0) := by
  have hlt := (Array.getElem?_eq_some_iff.1 hg).1
  have e5 := blk_below h5 hlt hg
  have e6 := blk_set (v := .slice a5 k5 c5) (i := 2) e5 rfl
  exact ⟨g, aq, kq, cq, bq, a5, k5, c5, b5, rfl, rfl, blk_set e6 rfl, hV, (((hq.below h5).away e5 (by decide)).away e6 (by decide)), (((hn.away e5 (by decide)).away e6 (by decide)).mono hb), set_below (set_below (hB.trans (h5.mono hB.size)) hV) hV⟩
theorem intk_four {w : World} {R S : Nat} {v x0 x1 y0 y1 : Value} {z : Int} {a b : Bool} {ao bo : Option Addr} {n c m d : Nat} (h : IntK w v z) (hR : w.heap[R]? = some (.cells #[.bool a, .slice ao n c] 25 (0, 0))) (hS : w.heap[S]? = some (.cells #[.bool b, .slice bo m d] 25 (0, 0))) (hne : S ≠ R) :
    IntK ((((w.setCell ⟨R, 0, none⟩ x0).setCell ⟨R, 1, none⟩ x1).setCell ⟨S, 0, none⟩ y0).setCell ⟨S, 1, none⟩ y1) v z := by
  refine (h.far hR (y0 := x0) (y1 := x1)).far (R := S) (T := 25) (x := b) (ao := bo) (n := m) (c := d) ?_
  rw [heap_setCell_other _ ⟨R, 1, none⟩ S _ hne, heap_setCell_other _ ⟨R, 0, none⟩ S _ hne]
  exact hS
theorem dvs_bounds {x y : Int} (hx : x.natAbs < Big) (hy : y.natAbs < Big) (h0 : y ≠ 0) : (qC x y).natAbs < Big ∧ (rC x y).natAbs < Big ∧ (qE x y).natAbs < Big ∧ (rE x y).natAbs < Big ∧ (qF x y).natAbs < Big ∧ (qU x y).natAbs < Big := by
  have h1 := amt_qC x y
  have h2 := amt_rC x y
  have h3 := rC_bounds (a := x) h0
  have h4 : x.natAbs / y.natAbs ≤ x.natAbs := Nat.div_le_self _ _
  have h5 := rE_bounds (a := x) h0
  have h6 : rC x y ≠ 0 → x.natAbs / y.natAbs + 1 ≤ x.natAbs := by
    intro hr
    have hr' : x.natAbs % y.natAbs ≠ 0 := by rw [← h2]; omega
    have hm := Nat.mod_add_div x.natAbs y.natAbs
    rcases Nat.eq_zero_or_pos (x.natAbs / y.natAbs) with hz | hz
    · rw [hz] at hm ⊢
      rw [Nat.mul_zero] at hm; omega
    · have h7 : x.natAbs / y.natAbs ≤ y.natAbs * (x.natAbs / y.natAbs) := Nat.le_mul_of_pos_left _ (by omega)
      omega
  have hE := qE_near x y
  refine ⟨by omega, by omega, ?_, by omega, ?_, ?_⟩
  · unfold qE
    by_cases h : rC x y < 0
    · have := h6 (by omega)
      rw [if_pos h]; split <;> omega
    · rw [if_neg h]; omega
  · rcases f_cases x y with ⟨_, e, _⟩ | ⟨hr, _, e, _⟩ | ⟨_, _, e, _⟩
    · rw [e]; omega
    · have := h6 hr; rw [e]; omega
    · rw [e]; omega
  · rcases f_cases x y with ⟨_, _, e⟩ | ⟨_, _, _, e⟩ | ⟨hr, _, _, e⟩
    · rw [e]; omega
    · rw [e]; omega
    · have := h6 hr; rw [e]; omega
theorem big_hugeN {n : Nat} (h : n < Big) : n < HugeN := Nat.lt_of_lt_of_le h big_huge
theorem one_huge (b : Bool) : (sg b 1).natAbs < HugeN := by
  rw [natAbs_sg]
  have h : B64 ^ 1 ≤ B64 ^ Lm := pow_mono' (by unfold Lm; omega)
  have : HugeN = B64 ^ Lm := rfl
  have : (1 : Nat) < B64 ^ 1 := by unfold B64; omega
  omega
/-- what is owed to divide, where nothing is long -/
def DvC (w : World) (s1 s2 : Value) (x y : Int) : Prop := ∀ w1, Below w.heap.size w w1 → Calls Tryz.prog 42 #[s1, s2] w1 fun e w' => ∃ aq kq cq bq ar kr cr br, e = .returned (.tuple #[.agg #[.slice aq kq cq, .bool bq, .slice ar kr cr, .bool br], .int .i64 0]) ∧ NuC w' w1.heap.size (.agg #[.slice aq kq cq, .bool bq]) (qC x y) ∧ NuC w' w1.heap.size (.agg #[.slice ar kr cr, .bool br]) (rC x y) ∧ Below w1.heap.size w1 w'
theorem dvc_of {w : World} {a1 a2 : Option Addr} {t1 c1 t2 c2 : Nat} {x y : Int} (N1 : NuV w (.agg #[.slice a1 t1 c1, .bool (sgn x)]) x) (N2 : NuV w (.agg #[.slice a2 t2 c2, .bool (sgn y)]) y) (hx : x.natAbs < Big) (hy : y.natAbs < Big) (h0 : y ≠ 0) : DvC w (.agg #[.slice a1 t1 c1, .bool (sgn x)]) (.agg #[.slice a2 t2 c2, .bool (sgn y)]) x y := by
  intro w1 hB
  refine Calls.mono (divide_fine _ _ x y w1 (N1.below hB) (N2.below hB) h0 ?_ (fun u v w2 _ m n => quo_short u v _ _ w2 m n hx hy (by omega))) ?_
  rotate_left
  · rintro e w' ⟨q, b, r, d, he, hq, hr, hb⟩
    obtain ⟨aq, kq, cq, bq, e1⟩ := hq.shape
    obtain ⟨ar, kr, cr, br, e2⟩ := hr.shape
    simp only [Value.agg.injEq, Array.mk.injEq, List.cons.injEq, and_true] at e1 e2
    obtain ⟨rfl, rfl⟩ := e1
    obtain ⟨rfl, rfl⟩ := e2
    exact ⟨_, _, _, _, _, _, _, _, he, hq, hr, hb⟩
  intro a1 k1 c1 b1 a2 k2 c2 b2 e1 e2
  simp only [Value.agg.injEq, Array.mk.injEq, List.cons.injEq, Value.slice.injEq, and_true] at e1 e2
  obtain ⟨⟨_, rfl, _⟩, _⟩ := e1
  have hl := num_long (N1.parts.2.2)
  by_cases h : 4096 < t1
  · have := hl.1 h; omega
  · omega

set_option maxHeartbeats 16000000 in
set_option maxRecDepth 100000 in
theorem divmodI_any (va vb : Value) (x y : Int) (w : World) (ha : IntV w va x) (hb : IntV w vb y) (hx : x.natAbs < Big) (hy : y.natAbs < Big) (h0 : y ≠ 0) :
    Calls Tryz.prog 34 #[va, vb] w fun e w' => ∃ v1 v2, e = .returned (.tuple #[v1, v2, .int .i64 0]) ∧ IntK w' v1 (qE x y) ∧ IntK w' v2 (rE x y) ∧ Below w.heap.size w w' := by
  obtain ⟨n1, a1, k1, c1, t1, rfl, N1', R1'⟩ := ha.rd
  obtain ⟨n2, a2, k2, c2, t2, rfl, N2', R2'⟩ := hb.rd
  have N2H := Lib.hid (big_hugeN hy)
  have DV := Lib.hid (dvc_of N1' N2' hx hy h0)
  have BD := Lib.hid (dvs_bounds hx hy h0)
  have N2 := Lib.hid N2'; have R1 := Lib.hid R1'; have R2 := Lib.hid R2'
  clear ha hb N1' N2' R1' R2' hx hy
  go_enter Tryz.func34, Tryz.ntmps34
  go_wp2_with fail
  obtain ⟨W, eW, h1, h2, h3, h4, bel, hsz⟩ := alloc4 w (Obj.cells #[Value.bool n1, Value.slice a1 k1 c1] 25) (Obj.cells #[Value.bool n2, Value.slice a2 k2 c2] 25) (Obj.cells #[Value.bool false, Value.slice none 0 0] 25) (Obj.cells #[Value.bool false, Value.slice none 0 0] 25)
  rw [eW]
  obtain ⟨p0, p1, f0, f1, _⟩ := blk2 h1
  have H3 := Lib.hid h3; have H4 := Lib.hid h4
  clear eW h1 h2 h3 h4
  refine (R2.out W bel).mono ?_
  rintro e w1 ⟨rfl, hb1, hs1⟩
  clear hs1
  have p0' := cell_to hb1 p0 (by omega); have p1' := cell_to hb1 p1 (by omega)
  clear p0 p1 f0 f1
  go_wp2_with fail
  obtain ⟨V, eV, hN, belV, hszV⟩ := alloc1 w1 (Obj.cells #[Value.slice a2 t2 c2, Value.bool (sgn y)] 49)
  rw [eV]
  clear eV
  obtain ⟨q0, q1, _, _, _⟩ := blk2 hN
  have p0 := cell_to belV p0' (by have := hb1.size; omega); have p1 := cell_to belV p1' (by have := hb1.size; omega)
  have STAY : Hid (∀ w', Below V.heap.size V w' → w'.cell? ⟨w.heap.size, 0, none⟩ = some (.bool n1) ∧ w'.cell? ⟨w.heap.size, 1, none⟩ = some (.slice a1 k1 c1) ∧ w'.cell? ⟨w1.heap.size, 0, none⟩ = some (.slice a2 t2 c2) ∧ w'.cell? ⟨w1.heap.size, 1, none⟩ = some (.bool (sgn y)) ∧ Below V.heap.size V w' ∧ V.heap.size ≤ w'.heap.size) :=
    Lib.hid (fun w' h => ⟨cell_to h p0 (World.block_lt_of_cell? V _ p0), cell_to h p1 (World.block_lt_of_cell? V _ p1), cell_to h q0 hszV, cell_to h q1 hszV, h, h.size⟩)
  have BV := Lib.hid (below_of (below_of bel hb1) belV)
  have BW := Lib.hid (hb1.trans (belV.mono hb1.size))
  have hB0 := (Below.refl V.heap.size V).drew
  have Q0 := Lib.hid q0; have Q1 := Lib.hid q1
  clear p0' p1' hN
  go_cut [8, 9] (fun s8 s9 wx => DivO V wx (qC x y) (rC x y) s8 s9)
  case first =>
    clear p0 p1 q0 q1
    go_region_held3 (fun w' => w'.cell? ⟨w.heap.size, 0, none⟩ = some (.bool n1) ∧ w'.cell? ⟨w.heap.size, 1, none⟩ = some (.slice a1 k1 c1) ∧ w'.cell? ⟨w1.heap.size, 0, none⟩ = some (.slice a2 t2 c2) ∧ w'.cell? ⟨w1.heap.size, 1, none⟩ = some (.bool (sgn y)) ∧ Below V.heap.size V w' ∧ V.heap.size ≤ w'.heap.size)
      ((try go_split_ands; refine STAY.out _ ?_; first | assumption | exact below_to (by assumption) (by assumption) | exact Below.alloc (by assumption) (by first | omega | (simp; done) | (simp; omega)) _ | exact Below.setCell (Below.setCell (Below.setCell (Below.setCell (by assumption) (by first | omega | (simp; done) | (simp; omega)) _) (by first | omega | (simp; done) | (simp; omega)) _) (by first | omega | (simp; done) | (simp; omega)) _) (by first | omega | (simp; done) | (simp; omega)) _))
      (first
      | (go_at_call 22; go_split_ands; refine (R1.out _ (below_of BV.out (by assumption))).mono ?_; rintro e w2 ⟨rfl, hbx1, hs1⟩; have hk1 := below_to hbx1 (by assumption); obtain ⟨hc1, hf1⟩ := bcell hbx1; (try simp at hs1))
      | (go_at_call 42; go_split_ands; refine (DV.out _ (below_of BV.out (by assumption))).mono ?_; rintro e w3 ⟨aq, kq, cq, bq, ar, kr, cr, br, rfl, hq, hr, hbx2⟩; have hk2 := below_to hbx2 (by assumption); obtain ⟨hc2, hf2⟩ := bcell hbx2; have hz2 := hbx2.size; (try simp only [sz_alloc, sz_set, sz_drew] at hz2)))
    all_goals
      (go_wp2_with fail
       go_meet
       clear hc1 hf1 hc2 hf2
       refine ⟨_, aq, kq, cq, bq, ar, kr, cr, br, rfl, rfl, ?_, ?_, ?_, ?_, by first | assumption | (go_split_ands; assumption)⟩)
    all_goals
      repeat (first
       | ((with_reducible refine blk_new ?_); (first | omega | (simp only [sz_alloc, sz_set, sz_drew]; omega) | (focus (simp only [sz_alloc, sz_set, sz_drew]; done))))
       | (with_reducible refine blk_set4 (a := .slice none 0 0) (b := .bool false) (c := .slice none 0 0) (d := .bool false) ?_)
       | (with_reducible refine blk_drew ?_)
       | ((with_reducible refine blk_below hbx2 ?_ ?_); (first | omega | (simp only [sz_alloc, sz_set, sz_drew]; omega) | (focus (simp only [sz_alloc, sz_set, sz_drew]; done))))
       | ((with_reducible refine blk_below hbx1 ?_ ?_); (first | omega | (simp only [sz_alloc, sz_set, sz_drew]; omega) | (focus (simp only [sz_alloc, sz_set, sz_drew]; done))))
       | ((with_reducible refine nuc_to hq ?_ ?_); (first | omega | (simp only [sz_alloc, sz_set, sz_drew]; omega) | (focus (simp only [sz_alloc, sz_set, sz_drew]; done))); (with_reducible exact nuc_new _ _))
       | ((with_reducible refine nuc_to4 hq ?_ ?_); (first | omega | (simp only [sz_alloc, sz_set, sz_drew]; omega) | (focus (simp only [sz_alloc, sz_set, sz_drew]; done))); (first | omega | (simp only [sz_alloc, sz_set, sz_drew]; omega) | (focus (simp only [sz_alloc, sz_set, sz_drew]; done))))
       | ((with_reducible refine nuc_to hr ?_ ?_); (first | omega | (simp only [sz_alloc, sz_set, sz_drew]; omega) | (focus (simp only [sz_alloc, sz_set, sz_drew]; done))); (with_reducible exact nuc_new _ _))
       | ((with_reducible refine nuc_to4 hr ?_ ?_); (first | omega | (simp only [sz_alloc, sz_set, sz_drew]; omega) | (focus (simp only [sz_alloc, sz_set, sz_drew]; done))); (first | omega | (simp only [sz_alloc, sz_set, sz_drew]; omega) | (focus (simp only [sz_alloc, sz_set, sz_drew]; done))))
       | (first | omega | (simp only [sz_alloc, sz_set, sz_drew]; omega) | (focus (simp only [sz_alloc, sz_set, sz_drew]; done))))
  case rest =>
    obtain ⟨g, aq, kq, cq, bq, ar, kr, cr, br, rfl, rfl, hG, hgV, hq, hr, hBV⟩ := hcut
    have hbr := hr.parts.1
    have hbq := hq.parts.1
    have hzr := hr.parts.2.zero
    obtain ⟨⟨s0, s1, s2, s3⟩, ⟨g0, g1, g2, g3⟩⟩ := blk4 hG
    have u0 := cell_to hBV q0 hszV; have u1 := cell_to hBV q1 hszV
    have HG := Lib.hid hG; have HQ := Lib.hid hq; have HR := Lib.hid hr; have HBV := Lib.hid hBV
    have hNV : w1.heap.size < wc.heap.size := Nat.lt_of_lt_of_le hszV hBV.size
    have HNV := Lib.hid hNV; have HGV := Lib.hid hgV
    clear p0 p1 q0 q1 STAY hB0 hG hq hr hBV R1 R2 DV hNV hgV
    by_cases hneg : rC x y < 0
    · have hbt : br = true := by rw [hbr, sgn_neg hneg]
      subst hbt
      have EQE : Hid (qC x y + sg (!sgn y) 1 = qE x y) := Lib.hid (by
        unfold qE; rw [if_pos hneg]
        by_cases hyn : y < 0
        · rw [if_pos hyn, sgn_neg hyn]; show _ + sg false 1 = _; rw [sg_false]; rfl
        · rw [if_neg hyn, sgn_pos (by omega)]; show _ + sg true 1 = _; rw [sg_true]; rfl)
      have ERE : Hid (rC x y + (y.natAbs : Int) = rE x y) := Lib.hid (by unfold rE; rw [if_pos hneg])
      clear hneg hbr
      go_wp2
      have KEEP : Hid (∀ w', Below wc.heap.size wc w' → (w'.heap[g]? = some (.cells #[.slice aq kq cq, .bool bq, .slice ar kr cr, .bool true] 77 (0, 0)) ∧ w'.cell? ⟨w1.heap.size, 0, none⟩ = some (.slice a2 t2 c2) ∧ w'.cell? ⟨w1.heap.size, 1, none⟩ = some (.bool (sgn y)))) :=
        Lib.hid (fun w' h => ⟨(h.block g (Array.getElem?_eq_some_iff.1 HG.out).1).trans HG.out, cell_to h u0 HNV.out, cell_to h u1 HNV.out⟩)
      go_cut [8] (fun s8 wy => DivO V wy (qE x y) (rC x y) s8 (.int .i64 0))
      case first =>
        have EQ : Hid (qC x y + sg (!sgn y) 1 = qE x y) := Lib.hid (EQE.out)
        have U : Hid ((qC x y).natAbs < HugeN) := Lib.hid (big_hugeN BD.out.1)
        clear hzr hbq
        go_region_with (first
          | (go_at_call 58; refine (unit_is _ _).mono ?_; rintro e w4 ⟨v4, rfl, hn4, hb4⟩; obtain ⟨a4, k4, c4, b4, rfl⟩ := hn4.shape; have hB4 := Lib.hid (below_of (Below.refl wc.heap.size wc).drew hb4); have HN4 := Lib.hid hn4; have hle4 := Lib.hid hb4.size; obtain ⟨hG4, o0, o1⟩ := KEEP.out _ hB4.out; obtain ⟨⟨m0, m1, m2, m3⟩, ⟨i0, i1, i2, i3⟩⟩ := blk4 hG4; clear hn4 hb4 hG4)
          | (go_at_call 39; refine Calls.mono (sumOf_any _ _ (qC x y) (sg (!sgn y) 1) _ ?_ ?_ U.out (one_huge _)) ?_; (exact HQ.out.nuV.below hB4.out); (exact HN4.out.nuV); rintro e w5 ⟨v5, rfl, hn5, hb5⟩; obtain ⟨a5, k5, c5, b5, rfl⟩ := hn5.shape; have hB5 := Lib.hid (below_of hB4.out hb5); have hle5 := Lib.hid hB4.out.size; obtain ⟨hG5, y0, y1⟩ := KEEP.out _ hB5.out; obtain ⟨⟨j0, j1, j2, j3⟩, ⟨l0, l1, l2, l3⟩⟩ := blk4 hG5; clear hb5 m0 m1 m2 m3 i0 i1 i2 i3 o0 o1 hG5))
        all_goals
          (rw [EQ.out] at hn5
           go_wp2_with fail
           go_meet
           exact divO_quo HG.out HGV.out HR.out HBV.out hB5.out hn5 (Nat.le_trans HBV.out.size hle5.out))
      case rest =>
        clear s0 s1 s2 s3 g0 g1 g2 g3 u0 u1 HG HQ HR HBV HNV HGV KEEP hzr hbq
        obtain ⟨g, aq, kq, cq, bq, ar, kr, cr, br, rfl, _, hG, hgV, hq, hr, hBV⟩ := hcut
        have hbr := hr.parts.1
        obtain ⟨⟨s0, s1, s2, s3⟩, ⟨g0, g1, g2, g3⟩⟩ := blk4 hG
        have u0 := cell_to hBV Q0.out hszV; have u1 := cell_to hBV Q1.out hszV
        have HG := Lib.hid hG; have HQ := Lib.hid hq; have HR := Lib.hid hr; have HBV := Lib.hid hBV
        have HNV : Hid (w1.heap.size < wc.heap.size) := Lib.hid (Nat.lt_of_lt_of_le hszV hBV.size)
        have HGV := Lib.hid hgV
        clear hG hq hr hBV hgV
        
        have SG : Hid (∀ w1, Below wc.heap.size wc w1 → NuV w1 (.agg #[.slice a2 t2 c2, .bool false]) (y.natAbs : Int)) := Lib.hid (fun w1 hb => ⟨_, by rw [sgn_nat], ((N2.out.below (below_of (below_of BV.out HBV.out) hb)).parts.2.2)⟩)
        have UY : Hid ((y.natAbs : Int).natAbs < HugeN) := Lib.hid (by rw [Int.natAbs_natCast]; exact N2H.out)
        clear hbr
        go_wp2
        have KEEP : Hid (∀ w', Below wc.heap.size wc w' → (w'.heap[g]? = some (.cells #[.slice aq kq cq, .bool bq, .slice ar kr cr, .bool br] 77 (0, 0)) ∧ w'.cell? ⟨w1.heap.size, 0, none⟩ = some (.slice a2 t2 c2) ∧ w'.cell? ⟨w1.heap.size, 1, none⟩ = some (.bool (sgn y)))) :=
          Lib.hid (fun w' h => ⟨(h.block g (Array.getElem?_eq_some_iff.1 HG.out).1).trans HG.out, cell_to h u0 HNV.out, cell_to h u1 HNV.out⟩)
        go_cut [8] (fun s8 wy => DivO V wy (qE x y) (rE x y) s8 (.int .i64 0))
        case first =>
          have EQ : Hid (rC x y + (y.natAbs : Int) = rE x y) := Lib.hid (ERE.out)
          have U : Hid ((rC x y).natAbs < HugeN) := Lib.hid (big_hugeN BD.out.2.1)
          skip
          go_region_with (first
            | (go_at_call 44; refine (signed_is _ _ _ _ _).mono ?_; rintro e w4 ⟨rfl, hb4, hs4⟩; (try simp only [Bool.false_and]); clear hs4; have hB4 := Lib.hid (below_of (Below.refl wc.heap.size wc).drew hb4); have HN4 := Lib.hid (SG.out _ hB4.out); obtain ⟨hG4, o0, o1⟩ := KEEP.out _ hB4.out; obtain ⟨⟨m0, m1, m2, m3⟩, ⟨i0, i1, i2, i3⟩⟩ := blk4 hG4; clear hb4 hG4)
            | (go_at_call 39; refine Calls.mono (sumOf_any _ _ (rC x y) ((y.natAbs : Int)) _ ?_ ?_ U.out UY.out) ?_; (exact HR.out.nuV.below hB4.out); (exact HN4.out); rintro e w5 ⟨v5, rfl, hn5, hb5⟩; obtain ⟨a5, k5, c5, b5, rfl⟩ := hn5.shape; have hB5 := Lib.hid (below_of hB4.out hb5); have hle5 := Lib.hid hB4.out.size; obtain ⟨hG5, y0, y1⟩ := KEEP.out _ hB5.out; obtain ⟨⟨j0, j1, j2, j3⟩, ⟨l0, l1, l2, l3⟩⟩ := blk4 hG5; clear hb5 m0 m1 m2 m3 i0 i1 i2 i3 o0 o1 hG5))
          all_goals
            (rw [EQ.out] at hn5
             go_wp2_with fail
             go_meet
             exact divO_rest HG.out HGV.out HQ.out HBV.out hB5.out hn5 (Nat.le_trans HBV.out.size hle5.out))
        case rest =>
          clear s0 s1 s2 s3 g0 g1 g2 g3 u0 u1 HG HQ HR HBV HNV HGV KEEP
          obtain ⟨g, aq, kq, cq, bq, ar, kr, cr, br, rfl, _, hG, hgV, hq, hr, hBV⟩ := hcut
          have hbr := hr.parts.1
          obtain ⟨⟨s0, s1, s2, s3⟩, ⟨g0, g1, g2, g3⟩⟩ := blk4 hG
          have u0 := cell_to hBV Q0.out hszV; have u1 := cell_to hBV Q1.out hszV
          have HG := Lib.hid hG; have HQ := Lib.hid hq; have HR := Lib.hid hr; have HBV := Lib.hid hBV
          have HNV : Hid (w1.heap.size < wc.heap.size) := Lib.hid (Nat.lt_of_lt_of_le hszV hBV.size)
          have HGV := Lib.hid hgV
          clear hG hq hr hBV hgV
          clear hbr u0 u1
          have a2r := (Array.getElem?_eq_some_iff.1 HG.out).1
          have r3 := (HBV.out.block _ (Nat.lt_of_lt_of_le (Nat.lt_of_lt_of_le (show w.heap.size + 2 < W.heap.size by omega) BW.out.size) (Nat.le_refl _))).trans ((BW.out.block _ (show w.heap.size + 2 < W.heap.size by omega)).trans H3.out)
          have r4 := (HBV.out.block _ (Nat.lt_of_lt_of_le (Nat.lt_of_lt_of_le (show w.heap.size + 3 < W.heap.size by omega) BW.out.size) (Nat.le_refl _))).trans ((BW.out.block _ (show w.heap.size + 3 < W.heap.size by omega)).trans H4.out)
          have R3 := Lib.hid r3; have R4 := Lib.hid r4
          have l3 := (Array.getElem?_eq_some_iff.1 r3).1; have l4 := (Array.getElem?_eq_some_iff.1 r4).1
          clear r3 r4
          go_wp2_with fail
          refine (answers_fine V.heap.size _ _ _ _ (qE x y) (rE x y) _ HQ.out HR.out BD.out.2.2.1 BD.out.2.2.2.1 HBV.out.size).mono ?_
          rintro e w9 ⟨v1, v2, rfl, i1, i2, hb9⟩
          obtain ⟨m1, d1, e1, f1, rfl⟩ := i1.shape
          obtain ⟨m2, d2, e2, f2, rfl⟩ := i2.shape
          have x3 : w9.heap[w.heap.size + 1 + 1]? = _ := (hb9.block _ l3).trans R3.out
          have x4 : w9.heap[w.heap.size + 1 + 1 + 1]? = _ := (hb9.block _ l4).trans R4.out
          obtain ⟨k0, k1', g0', g1', _⟩ := blk2 x3
          obtain ⟨k3, k4, g3', g4', _⟩ := blk2 x4
          have X3 := Lib.hid x3; have X4 := Lib.hid x4; have I1 := Lib.hid i1.k; have I2 := Lib.hid i2.k
          have B9 := Lib.hid (below_of (below_of BV.out HBV.out) hb9)
          have hL3 : w.heap.size ≤ w.heap.size + 1 + 1 := by omega
          have hL4 : w.heap.size ≤ w.heap.size + 1 + 1 + 1 := by omega
          have hne : w.heap.size + 1 + 1 + 1 ≠ w.heap.size + 1 + 1 := by omega
          clear x3 x4 i1 i2 hb9
          go_wp2
          refine bodyPost_ret (v := .tuple #[.agg #[.bool m1, .slice d1 e1 f1], .agg #[.bool m2, .slice d2 e2 f2], .int .i64 0]) ?_ rfl ⟨_, _, rfl, intk_four I1.out X3.out X4.out hne, intk_four I2.out X3.out X4.out hne, set_below (set_below (set_below (set_below B9.out hL3) hL3) hL4) hL4⟩
          simp [results, Tryz.results34, go_sem, *]
    · have hbt : br = false := by rw [hbr, sgn_pos (by omega)]
      subst hbt
      have E : Hid (qE x y = qC x y ∧ rE x y = rC x y) := Lib.hid (by unfold qE rE; rw [if_neg hneg, if_neg hneg]; exact ⟨rfl, rfl⟩)
      clear hneg hbr hbq hzr u0 u1
      have a2r := (Array.getElem?_eq_some_iff.1 HG.out).1
      have r3 := (HBV.out.block _ (Nat.lt_of_lt_of_le (Nat.lt_of_lt_of_le (show w.heap.size + 2 < W.heap.size by omega) BW.out.size) (Nat.le_refl _))).trans ((BW.out.block _ (show w.heap.size + 2 < W.heap.size by omega)).trans H3.out)
      have r4 := (HBV.out.block _ (Nat.lt_of_lt_of_le (Nat.lt_of_lt_of_le (show w.heap.size + 3 < W.heap.size by omega) BW.out.size) (Nat.le_refl _))).trans ((BW.out.block _ (show w.heap.size + 3 < W.heap.size by omega)).trans H4.out)
      have R3 := Lib.hid r3; have R4 := Lib.hid r4
      have l3 := (Array.getElem?_eq_some_iff.1 r3).1; have l4 := (Array.getElem?_eq_some_iff.1 r4).1
      clear r3 r4
      go_wp2_with fail
      refine (answers_fine V.heap.size _ _ _ _ (qC x y) (rC x y) _ HQ.out HR.out BD.out.1 BD.out.2.1 HBV.out.size).mono ?_
      rintro e w9 ⟨v1, v2, rfl, i1, i2, hb9⟩
      obtain ⟨m1, d1, e1, f1, rfl⟩ := i1.shape
      obtain ⟨m2, d2, e2, f2, rfl⟩ := i2.shape
      have x3 : w9.heap[w.heap.size + 1 + 1]? = _ := (hb9.block _ l3).trans R3.out
      have x4 : w9.heap[w.heap.size + 1 + 1 + 1]? = _ := (hb9.block _ l4).trans R4.out
      obtain ⟨k0, k1', g0', g1', _⟩ := blk2 x3
      obtain ⟨k3, k4, g3', g4', _⟩ := blk2 x4
      have X3 := Lib.hid x3; have X4 := Lib.hid x4; have I1 := Lib.hid i1.k; have I2 := Lib.hid i2.k
      have B9 := Lib.hid (below_of (below_of BV.out HBV.out) hb9)
      have hL3 : w.heap.size ≤ w.heap.size + 1 + 1 := by omega
      have hL4 : w.heap.size ≤ w.heap.size + 1 + 1 + 1 := by omega
      have hne : w.heap.size + 1 + 1 + 1 ≠ w.heap.size + 1 + 1 := by omega
      clear x3 x4 i1 i2 hb9
      go_wp2
      refine bodyPost_ret (v := .tuple #[.agg #[.bool m1, .slice d1 e1 f1], .agg #[.bool m2, .slice d2 e2 f2], .int .i64 0]) ?_ rfl ⟨_, _, rfl, by rw [E.out.1]; exact intk_four I1.out X3.out X4.out hne, by rw [E.out.2]; exact intk_four I2.out X3.out X4.out hne, set_below (set_below (set_below (set_below B9.out hL3) hL3) hL4) hL4⟩
      simp [results, Tryz.results34, go_sem, *]
end Go.Proofs.YtfdilnfmcpbkgaaGreatDoor
