/- Package whole: DivMod of any two. -/
import Derived.Test.YtkccjddmmjdceaaGreatDoorHF
import Derived.Test.YtkccjddmmjdceaaGreatDoorZQZ
import Derived.Test.YtkccjddmmjdceaaGreatDoorHL
set_option linter.unusedVariables false
set_option linter.unusedSimpArgs false
namespace Go.Proofs.YtkccjddmmjdceaaGreatDoor
open Go.RowKit Mth

set_option maxHeartbeats 16000000 in
set_option maxRecDepth 100000 in
theorem divI_near (x y : Int) (w : World) (n1 n2 : Bool) (a1 a2 : Option Addr) (k1 c1 t1 k2 c2 t2 : Nat) (R1' : ∀ w1, Below w.heap.size w w1 → Calls Tryz.prog 30 #[.agg #[.bool n1, .slice a1 k1 c1]] w1 fun e w' => e = .returned (.agg #[.slice a1 t1 c1, .bool (sgn x)]) ∧ Below w1.heap.size w1 w' ∧ w'.heap.size = w1.heap.size + 3) (R2' : ∀ w1, Below w.heap.size w w1 → Calls Tryz.prog 30 #[.agg #[.bool n2, .slice a2 k2 c2]] w1 fun e w' => e = .returned (.agg #[.slice a2 t2 c2, .bool (sgn y)]) ∧ Below w1.heap.size w1 w' ∧ w'.heap.size = w1.heap.size + 3)
    (N2' : NuV w (.agg #[.slice a2 t2 c2, .bool (sgn y)]) y) (hx : x.natAbs < HugeN) (hy : y.natAbs < HugeN) (hdv : DvC w (.agg #[.slice a1 t1 c1, .bool (sgn x)]) (.agg #[.slice a2 t2 c2, .bool (sgn y)]) x y) :
    Calls Tryz.prog 9 #[.agg #[.bool n1, .slice a1 k1 c1], .agg #[.bool n2, .slice a2 k2 c2]] w fun e w' => ∃ v1 v2, e = .returned (.tuple #[v1, v2, .int .i64 (twE (qE x y) (rE x y))]) ∧ IntK w' v1 (twZ (qE x y) (rE x y) (qE x y)) ∧ IntK w' v2 (twZ (qE x y) (rE x y) (rE x y)) ∧ Below w.heap.size w w' := by
  have N2H := Lib.hid hy
  have DV := Lib.hid hdv
  have QCH : Hid ((qC x y).natAbs < HugeN) := Lib.hid (by rw [amt_qC]; exact Nat.lt_of_le_of_lt (Nat.div_le_self _ _) hx)
  have RCH : Hid ((rC x y).natAbs < HugeN) := Lib.hid (by rw [amt_rC]; exact Nat.lt_of_le_of_lt (Nat.mod_le _ _) hx)
  have N2 := Lib.hid N2'; have R1 := Lib.hid R1'; have R2 := Lib.hid R2'
  clear N2' R1' R2' hx hy hdv
  go_enter Tryz.func9, Tryz.ntmps9
  go_wp2_with fail
  obtain ⟨W, eW, h1, h2, h3, h4, bel, hsz⟩ := alloc4 w (Obj.cells #[Value.bool n1, Value.slice a1 k1 c1] 25) (Obj.cells #[Value.bool n2, Value.slice a2 k2 c2] 25) (Obj.cells #[Value.bool false, Value.slice none 0 0] 25) (Obj.cells #[Value.bool false, Value.slice none 0 0] 25)
  rw [eW]
  obtain ⟨p0, p1, f0, f1, _⟩ := blk2 h1
  have H3 := Lib.hid h3; have H4 := Lib.hid h4
  clear eW h1 h2 h3 h4
  refine (R2.out W bel).mono ?_
  rintro e w1 ⟨rfl, hb1, hs1⟩
  clear hs1
  have p0' := cell_to hb1 p0 (by omega); have p1' := cell_to hb1 p1 (by omega)
  clear p0 p1 f0 f1
  go_wp2_with fail
  obtain ⟨V, eV, hN, belV, hszV⟩ := alloc1 w1 (Obj.cells #[Value.slice a2 t2 c2, Value.bool (sgn y)] 53)
  rw [eV]
  clear eV
  obtain ⟨q0, q1, _, _, _⟩ := blk2 hN
  have p0 := cell_to belV p0' (by have := hb1.size; omega); have p1 := cell_to belV p1' (by have := hb1.size; omega)
  have STAY : Hid (∀ w', Below V.heap.size V w' → w'.cell? ⟨w.heap.size, 0, none⟩ = some (.bool n1) ∧ w'.cell? ⟨w.heap.size, 1, none⟩ = some (.slice a1 k1 c1) ∧ w'.cell? ⟨w1.heap.size, 0, none⟩ = some (.slice a2 t2 c2) ∧ w'.cell? ⟨w1.heap.size, 1, none⟩ = some (.bool (sgn y)) ∧ Below V.heap.size V w' ∧ V.heap.size ≤ w'.heap.size) :=
    Lib.hid (fun w' h => ⟨cell_to h p0 (World.block_lt_of_cell? V _ p0), cell_to h p1 (World.block_lt_of_cell? V _ p1), cell_to h q0 hszV, cell_to h q1 hszV, h, h.size⟩)
  have BV := Lib.hid (below_of (below_of bel hb1) belV)
  have BW := Lib.hid (hb1.trans (belV.mono hb1.size))
  have hB0 := (Below.refl V.heap.size V).drew
  have Q0 := Lib.hid q0; have Q1 := Lib.hid q1
  clear p0' p1' hN
  go_cut [8, 9] (fun s8 s9 wx => DivO V wx (qC x y) (rC x y) s8 s9)
  case first =>
    clear p0 p1 q0 q1
    go_region_held3 (fun w' => w'.cell? ⟨w.heap.size, 0, none⟩ = some (.bool n1) ∧ w'.cell? ⟨w.heap.size, 1, none⟩ = some (.slice a1 k1 c1) ∧ w'.cell? ⟨w1.heap.size, 0, none⟩ = some (.slice a2 t2 c2) ∧ w'.cell? ⟨w1.heap.size, 1, none⟩ = some (.bool (sgn y)) ∧ Below V.heap.size V w' ∧ V.heap.size ≤ w'.heap.size)
      ((try go_split_ands; refine STAY.out _ ?_; first | assumption | exact below_to (by assumption) (by assumption) | exact Below.alloc (by assumption) (by first | omega | (simp; done) | (simp; omega)) _ | exact Below.setCell (Below.setCell (Below.setCell (Below.setCell (by assumption) (by first | omega | (simp; done) | (simp; omega)) _) (by first | omega | (simp; done) | (simp; omega)) _) (by first | omega | (simp; done) | (simp; omega)) _) (by first | omega | (simp; done) | (simp; omega)) _))
      (first
      | (go_at_call 30; go_split_ands; refine (R1.out _ (below_of BV.out (by assumption))).mono ?_; rintro e w2 ⟨rfl, hbx1, hs1⟩; have hk1 := below_to hbx1 (by assumption); obtain ⟨hc1, hf1⟩ := bcell hbx1; (try simp at hs1))
      | (go_at_call 31; go_split_ands; refine (DV.out _ (below_of BV.out (by assumption))).mono ?_; rintro e w3 ⟨aq, kq, cq, bq, ar, kr, cr, br, rfl, hq, hr, hbx2⟩; have hk2 := below_to hbx2 (by assumption); obtain ⟨hc2, hf2⟩ := bcell hbx2; have hz2 := hbx2.size; (try simp only [sz_alloc, sz_set, sz_drew] at hz2)))
    all_goals
      (go_wp2_with fail
       go_meet
       clear hc1 hf1 hc2 hf2
       refine ⟨_, aq, kq, cq, bq, ar, kr, cr, br, rfl, rfl, ?_, ?_, ?_, ?_, by first | assumption | (go_split_ands; assumption)⟩)
    all_goals
      repeat (first
       | ((with_reducible refine blk_new ?_); (first | omega | (simp only [sz_alloc, sz_set, sz_drew]; omega) | (focus (simp only [sz_alloc, sz_set, sz_drew]; done))))
       | (with_reducible refine blk_set4 (a := .slice none 0 0) (b := .bool false) (c := .slice none 0 0) (d := .bool false) ?_)
       | (with_reducible refine blk_drew ?_)
       | ((with_reducible refine blk_below hbx2 ?_ ?_); (first | omega | (simp only [sz_alloc, sz_set, sz_drew]; omega) | (focus (simp only [sz_alloc, sz_set, sz_drew]; done))))
       | ((with_reducible refine blk_below hbx1 ?_ ?_); (first | omega | (simp only [sz_alloc, sz_set, sz_drew]; omega) | (focus (simp only [sz_alloc, sz_set, sz_drew]; done))))
       | ((with_reducible refine nuc_to hq ?_ ?_); (first | omega | (simp only [sz_alloc, sz_set, sz_drew]; omega) | (focus (simp only [sz_alloc, sz_set, sz_drew]; done))); (with_reducible exact nuc_new _ _))
       | ((with_reducible refine nuc_to4 hq ?_ ?_); (first | omega | (simp only [sz_alloc, sz_set, sz_drew]; omega) | (focus (simp only [sz_alloc, sz_set, sz_drew]; done))); (first | omega | (simp only [sz_alloc, sz_set, sz_drew]; omega) | (focus (simp only [sz_alloc, sz_set, sz_drew]; done))))
       | ((with_reducible refine nuc_to hr ?_ ?_); (first | omega | (simp only [sz_alloc, sz_set, sz_drew]; omega) | (focus (simp only [sz_alloc, sz_set, sz_drew]; done))); (with_reducible exact nuc_new _ _))
       | ((with_reducible refine nuc_to4 hr ?_ ?_); (first | omega | (simp only [sz_alloc, sz_set, sz_drew]; omega) | (focus (simp only [sz_alloc, sz_set, sz_drew]; done))); (first | omega | (simp only [sz_alloc, sz_set, sz_drew]; omega) | (focus (simp only [sz_alloc, sz_set, sz_drew]; done))))
       | (first | omega | (simp only [sz_alloc, sz_set, sz_drew]; omega) | (focus (simp only [sz_alloc, sz_set, sz_drew]; done))))
  case rest =>
    obtain ⟨g, aq, kq, cq, bq, ar, kr, cr, br, rfl, rfl, hG, hgV, hq, hr, hBV⟩ := hcut
    have hbr := hr.parts.1
    have hbq := hq.parts.1
    have hzr := hr.parts.2.zero
    obtain ⟨⟨s0, s1, s2, s3⟩, ⟨g0, g1, g2, g3⟩⟩ := blk4 hG
    have u0 := cell_to hBV q0 hszV; have u1 := cell_to hBV q1 hszV
    have HG := Lib.hid hG; have HQ := Lib.hid hq; have HR := Lib.hid hr; have HBV := Lib.hid hBV
    have hNV : w1.heap.size < wc.heap.size := Nat.lt_of_lt_of_le hszV hBV.size
    have HNV := Lib.hid hNV; have HGV := Lib.hid hgV
    clear p0 p1 q0 q1 STAY hB0 hG hq hr hBV R1 R2 DV hNV hgV
    by_cases hneg : rC x y < 0
    · have hbt : br = true := by rw [hbr, sgn_neg hneg]
      subst hbt
      have EQE : Hid (qC x y + sg (!sgn y) 1 = qE x y) := Lib.hid (by
        unfold qE; rw [if_pos hneg]
        by_cases hyn : y < 0
        · rw [if_pos hyn, sgn_neg hyn]; show _ + sg false 1 = _; rw [sg_false]; rfl
        · rw [if_neg hyn, sgn_pos (by omega)]; show _ + sg true 1 = _; rw [sg_true]; rfl)
      have ERE : Hid (rC x y + (y.natAbs : Int) = rE x y) := Lib.hid (by unfold rE; rw [if_pos hneg])
      clear hneg hbr
      go_wp2
      have KEEP : Hid (∀ w', Below wc.heap.size wc w' → (w'.heap[g]? = some (.cells #[.slice aq kq cq, .bool bq, .slice ar kr cr, .bool true] 56 (0, 0)) ∧ w'.cell? ⟨w1.heap.size, 0, none⟩ = some (.slice a2 t2 c2) ∧ w'.cell? ⟨w1.heap.size, 1, none⟩ = some (.bool (sgn y)))) :=
        Lib.hid (fun w' h => ⟨(h.block g (Array.getElem?_eq_some_iff.1 HG.out).1).trans HG.out, cell_to h u0 HNV.out, cell_to h u1 HNV.out⟩)
      go_cut [8] (fun s8 wy => DivO V wy (qE x y) (rC x y) s8 (.int .i64 0))
      case first =>
        have EQ : Hid (qC x y + sg (!sgn y) 1 = qE x y) := Lib.hid (EQE.out)
        have U : Hid ((qC x y).natAbs < HugeN) := Lib.hid (QCH.out)
        clear hzr hbq
        go_region_with (first
          | (go_at_call 33; refine (unit_is _ _).mono ?_; rintro e w4 ⟨v4, rfl, hn4, hb4⟩; obtain ⟨a4, k4, c4, b4, rfl⟩ := hn4.shape; have hB4 := Lib.hid (below_of (Below.refl wc.heap.size wc).drew hb4); have HN4 := Lib.hid hn4; have hle4 := Lib.hid hb4.size; obtain ⟨hG4, o0, o1⟩ := KEEP.out _ hB4.out; obtain ⟨⟨m0, m1, m2, m3⟩, ⟨i0, i1, i2, i3⟩⟩ := blk4 hG4; clear hn4 hb4 hG4)
          | (go_at_call 32; refine Calls.mono (sumOf_any _ _ (qC x y) (sg (!sgn y) 1) _ ?_ ?_ U.out (one_huge _)) ?_; (exact HQ.out.nuV.below hB4.out); (exact HN4.out.nuV); rintro e w5 ⟨v5, rfl, hn5, hb5⟩; obtain ⟨a5, k5, c5, b5, rfl⟩ := hn5.shape; have hB5 := Lib.hid (below_of hB4.out hb5); have hle5 := Lib.hid hB4.out.size; obtain ⟨hG5, y0, y1⟩ := KEEP.out _ hB5.out; obtain ⟨⟨j0, j1, j2, j3⟩, ⟨l0, l1, l2, l3⟩⟩ := blk4 hG5; clear hb5 m0 m1 m2 m3 i0 i1 i2 i3 o0 o1 hG5))
        all_goals
          (rw [EQ.out] at hn5
           go_wp2_with fail
           go_meet
           exact divO_quo HG.out HGV.out HR.out HBV.out hB5.out hn5 (Nat.le_trans HBV.out.size hle5.out))
      case rest =>
        clear s0 s1 s2 s3 g0 g1 g2 g3 u0 u1 HG HQ HR HBV HNV HGV KEEP hzr hbq
        obtain ⟨g, aq, kq, cq, bq, ar, kr, cr, br, rfl, _, hG, hgV, hq, hr, hBV⟩ := hcut
        have hbr := hr.parts.1
        obtain ⟨⟨s0, s1, s2, s3⟩, ⟨g0, g1, g2, g3⟩⟩ := blk4 hG
        have u0 := cell_to hBV Q0.out hszV; have u1 := cell_to hBV Q1.out hszV
        have HG := Lib.hid hG; have HQ := Lib.hid hq; have HR := Lib.hid hr; have HBV := Lib.hid hBV
        have HNV : Hid (w1.heap.size < wc.heap.size) := Lib.hid (Nat.lt_of_lt_of_le hszV hBV.size)
        have HGV := Lib.hid hgV
        clear hG hq hr hBV hgV
        
        have SG : Hid (∀ w1, Below wc.heap.size wc w1 → NuV w1 (.agg #[.slice a2 t2 c2, .bool false]) (y.natAbs : Int)) := Lib.hid (fun w1 hb => ⟨_, by rw [sgn_nat], ((N2.out.below (below_of (below_of BV.out HBV.out) hb)).parts.2.2)⟩)
        have UY : Hid ((y.natAbs : Int).natAbs < HugeN) := Lib.hid (by rw [Int.natAbs_natCast]; exact N2H.out)
        clear hbr
        go_wp2
        have KEEP : Hid (∀ w', Below wc.heap.size wc w' → (w'.heap[g]? = some (.cells #[.slice aq kq cq, .bool bq, .slice ar kr cr, .bool br] 56 (0, 0)) ∧ w'.cell? ⟨w1.heap.size, 0, none⟩ = some (.slice a2 t2 c2) ∧ w'.cell? ⟨w1.heap.size, 1, none⟩ = some (.bool (sgn y)))) :=
          Lib.hid (fun w' h => ⟨(h.block g (Array.getElem?_eq_some_iff.1 HG.out).1).trans HG.out, cell_to h u0 HNV.out, cell_to h u1 HNV.out⟩)
        go_cut [8] (fun s8 wy => DivO V wy (qE x y) (rE x y) s8 (.int .i64 0))
        case first =>
          have EQ : Hid (rC x y + (y.natAbs : Int) = rE x y) := Lib.hid (ERE.out)
          have U : Hid ((rC x y).natAbs < HugeN) := Lib.hid (RCH.out)
          skip
          go_region_with (first
            | (go_at_call 34; refine (signed_is _ _ _ _ _).mono ?_; rintro e w4 ⟨rfl, hb4, hs4⟩; (try simp only [Bool.false_and]); clear hs4; have hB4 := Lib.hid (below_of (Below.refl wc.heap.size wc).drew hb4); have HN4 := Lib.hid (SG.out _ hB4.out); obtain ⟨hG4, o0, o1⟩ := KEEP.out _ hB4.out; obtain ⟨⟨m0, m1, m2, m3⟩, ⟨i0, i1, i2, i3⟩⟩ := blk4 hG4; clear hb4 hG4)
            | (go_at_call 32; refine Calls.mono (sumOf_any _ _ (rC x y) ((y.natAbs : Int)) _ ?_ ?_ U.out UY.out) ?_; (exact HR.out.nuV.below hB4.out); (exact HN4.out); rintro e w5 ⟨v5, rfl, hn5, hb5⟩; obtain ⟨a5, k5, c5, b5, rfl⟩ := hn5.shape; have hB5 := Lib.hid (below_of hB4.out hb5); have hle5 := Lib.hid hB4.out.size; obtain ⟨hG5, y0, y1⟩ := KEEP.out _ hB5.out; obtain ⟨⟨j0, j1, j2, j3⟩, ⟨l0, l1, l2, l3⟩⟩ := blk4 hG5; clear hb5 m0 m1 m2 m3 i0 i1 i2 i3 o0 o1 hG5))
          all_goals
            (rw [EQ.out] at hn5
             go_wp2_with fail
             go_meet
             exact divO_rest HG.out HGV.out HQ.out HBV.out hB5.out hn5 (Nat.le_trans HBV.out.size hle5.out))
        case rest =>
          clear s0 s1 s2 s3 g0 g1 g2 g3 u0 u1 HG HQ HR HBV HNV HGV KEEP
          obtain ⟨g, aq, kq, cq, bq, ar, kr, cr, br, rfl, _, hG, hgV, hq, hr, hBV⟩ := hcut
          have hbr := hr.parts.1
          obtain ⟨⟨s0, s1, s2, s3⟩, ⟨g0, g1, g2, g3⟩⟩ := blk4 hG
          have u0 := cell_to hBV Q0.out hszV; have u1 := cell_to hBV Q1.out hszV
          have HG := Lib.hid hG; have HQ := Lib.hid hq; have HR := Lib.hid hr; have HBV := Lib.hid hBV
          have HNV : Hid (w1.heap.size < wc.heap.size) := Lib.hid (Nat.lt_of_lt_of_le hszV hBV.size)
          have HGV := Lib.hid hgV
          clear hG hq hr hBV hgV
          clear hbr u0 u1
          have a2r := (Array.getElem?_eq_some_iff.1 HG.out).1
          have r3 := (HBV.out.block _ (Nat.lt_of_lt_of_le (Nat.lt_of_lt_of_le (show w.heap.size + 2 < W.heap.size by omega) BW.out.size) (Nat.le_refl _))).trans ((BW.out.block _ (show w.heap.size + 2 < W.heap.size by omega)).trans H3.out)
          have r4 := (HBV.out.block _ (Nat.lt_of_lt_of_le (Nat.lt_of_lt_of_le (show w.heap.size + 3 < W.heap.size by omega) BW.out.size) (Nat.le_refl _))).trans ((BW.out.block _ (show w.heap.size + 3 < W.heap.size by omega)).trans H4.out)
          have R3 := Lib.hid r3; have R4 := Lib.hid r4
          have l3 := (Array.getElem?_eq_some_iff.1 r3).1; have l4 := (Array.getElem?_eq_some_iff.1 r4).1
          clear r3 r4
          go_wp2_with fail
          refine (answers_any V.heap.size _ _ _ _ (qE x y) (rE x y) _ HQ.out HR.out HBV.out.size).mono ?_
          rintro e w9 ⟨v1, v2, rfl, i1, i2, hb9⟩
          obtain ⟨m1, d1, e1, f1, rfl⟩ := i1.shape
          obtain ⟨m2, d2, e2, f2, rfl⟩ := i2.shape
          have x3 : w9.heap[w.heap.size + 1 + 1]? = _ := (hb9.block _ l3).trans R3.out
          have x4 : w9.heap[w.heap.size + 1 + 1 + 1]? = _ := (hb9.block _ l4).trans R4.out
          obtain ⟨k0, k1', g0', g1', _⟩ := blk2 x3
          obtain ⟨k3, k4, g3', g4', _⟩ := blk2 x4
          have X3 := Lib.hid x3; have X4 := Lib.hid x4; have I1 := Lib.hid i1; have I2 := Lib.hid i2
          have B9 := Lib.hid (below_of (below_of BV.out HBV.out) hb9)
          have hL3 : w.heap.size ≤ w.heap.size + 1 + 1 := by omega
          have hL4 : w.heap.size ≤ w.heap.size + 1 + 1 + 1 := by omega
          have hne : w.heap.size + 1 + 1 + 1 ≠ w.heap.size + 1 + 1 := by omega
          clear x3 x4 i1 i2 hb9
          go_wp2
          refine bodyPost_ret (v := .tuple #[.agg #[.bool m1, .slice d1 e1 f1], .agg #[.bool m2, .slice d2 e2 f2], .int .i64 (twE (qE x y) (rE x y))]) ?_ rfl ⟨_, _, rfl, intk_four I1.out X3.out X4.out hne, intk_four I2.out X3.out X4.out hne, set_below (set_below (set_below (set_below B9.out hL3) hL3) hL4) hL4⟩
          simp [results, Tryz.results9, go_sem, *]
    · have hbt : br = false := by rw [hbr, sgn_pos (by omega)]
      subst hbt
      have E : Hid (qE x y = qC x y ∧ rE x y = rC x y) := Lib.hid (by unfold qE rE; rw [if_neg hneg, if_neg hneg]; exact ⟨rfl, rfl⟩)
      clear hneg hbr hbq hzr u0 u1
      have a2r := (Array.getElem?_eq_some_iff.1 HG.out).1
      have r3 := (HBV.out.block _ (Nat.lt_of_lt_of_le (Nat.lt_of_lt_of_le (show w.heap.size + 2 < W.heap.size by omega) BW.out.size) (Nat.le_refl _))).trans ((BW.out.block _ (show w.heap.size + 2 < W.heap.size by omega)).trans H3.out)
      have r4 := (HBV.out.block _ (Nat.lt_of_lt_of_le (Nat.lt_of_lt_of_le (show w.heap.size + 3 < W.heap.size by omega) BW.out.size) (Nat.le_refl _))).trans ((BW.out.block _ (show w.heap.size + 3 < W.heap.size by omega)).trans H4.out)
      have R3 := Lib.hid r3; have R4 := Lib.hid r4
      have l3 := (Array.getElem?_eq_some_iff.1 r3).1; have l4 := (Array.getElem?_eq_some_iff.1 r4).1
      clear r3 r4
      go_wp2_with fail
      refine (answers_any V.heap.size _ _ _ _ (qC x y) (rC x y) _ HQ.out HR.out HBV.out.size).mono ?_
      rintro e w9 ⟨v1, v2, rfl, i1, i2, hb9⟩
      obtain ⟨m1, d1, e1, f1, rfl⟩ := i1.shape
      obtain ⟨m2, d2, e2, f2, rfl⟩ := i2.shape
      have x3 : w9.heap[w.heap.size + 1 + 1]? = _ := (hb9.block _ l3).trans R3.out
      have x4 : w9.heap[w.heap.size + 1 + 1 + 1]? = _ := (hb9.block _ l4).trans R4.out
      obtain ⟨k0, k1', g0', g1', _⟩ := blk2 x3
      obtain ⟨k3, k4, g3', g4', _⟩ := blk2 x4
      have X3 := Lib.hid x3; have X4 := Lib.hid x4; have I1 := Lib.hid i1; have I2 := Lib.hid i2
      have B9 := Lib.hid (below_of (below_of BV.out HBV.out) hb9)
      have hL3 : w.heap.size ≤ w.heap.size + 1 + 1 := by omega
      have hL4 : w.heap.size ≤ w.heap.size + 1 + 1 + 1 := by omega
      have hne : w.heap.size + 1 + 1 + 1 ≠ w.heap.size + 1 + 1 := by omega
      clear x3 x4 i1 i2 hb9
      go_wp2
      refine bodyPost_ret (v := .tuple #[.agg #[.bool m1, .slice d1 e1 f1], .agg #[.bool m2, .slice d2 e2 f2], .int .i64 (twE (qC x y) (rC x y))]) ?_ rfl ⟨_, _, by rw [E.out.1, E.out.2], by rw [E.out.1, E.out.2]; exact intk_four I1.out X3.out X4.out hne, by rw [E.out.1, E.out.2]; exact intk_four I2.out X3.out X4.out hne, set_below (set_below (set_below (set_below B9.out hL3) hL3) hL4) hL4⟩
      simp [results, Tryz.results9, go_sem, *]

set_option maxHeartbeats 16000000 in
set_option maxRecDepth 100000 in
theorem divI_far (x y : Int) (w : World) (n1 n2 : Bool) (a1 a2 : Option Addr) (k1 c1 t1 k2 c2 t2 : Nat) (R1' : ∀ w1, Below w.heap.size w w1 → Calls Tryz.prog 30 #[.agg #[.bool n1, .slice a1 k1 c1]] w1 fun e w' => e = .returned (.agg #[.slice a1 t1 c1, .bool (sgn x)]) ∧ Below w1.heap.size w1 w' ∧ w'.heap.size = w1.heap.size + 3) (R2' : ∀ w1, Below w.heap.size w w1 → Calls Tryz.prog 30 #[.agg #[.bool n2, .slice a2 k2 c2]] w1 fun e w' => e = .returned (.agg #[.slice a2 t2 c2, .bool (sgn y)]) ∧ Below w1.heap.size w1 w' ∧ w'.heap.size = w1.heap.size + 3)
    (N2' : NuV w (.agg #[.slice a2 t2 c2, .bool (sgn y)]) y) (hdv : ∀ w1, Below w.heap.size w w1 → Calls Tryz.prog 31 #[.agg #[.slice a1 t1 c1, .bool (sgn x)], .agg #[.slice a2 t2 c2, .bool (sgn y)]] w1 fun e w' => e = .returned (.tuple #[.agg #[.slice none 0 0, .bool false, .slice none 0 0, .bool false], .int .i64 5]) ∧ Below w1.heap.size w1 w') :
    Calls Tryz.prog 9 #[.agg #[.bool n1, .slice a1 k1 c1], .agg #[.bool n2, .slice a2 k2 c2]] w fun e w' => e = .returned (.tuple #[.agg #[.bool false, .slice none 0 0], .agg #[.bool false, .slice none 0 0], .int .i64 5]) ∧ Below w.heap.size w w' := by
  have DV := Lib.hid hdv
  have N2 := Lib.hid N2'; have R1 := Lib.hid R1'; have R2 := Lib.hid R2'
  clear N2' R1' R2' hdv
  go_enter Tryz.func9, Tryz.ntmps9
  go_wp2_with fail
  obtain ⟨W, eW, h1, h2, h3, h4, bel, hsz⟩ := alloc4 w (Obj.cells #[Value.bool n1, Value.slice a1 k1 c1] 25) (Obj.cells #[Value.bool n2, Value.slice a2 k2 c2] 25) (Obj.cells #[Value.bool false, Value.slice none 0 0] 25) (Obj.cells #[Value.bool false, Value.slice none 0 0] 25)
  rw [eW]
  obtain ⟨p0, p1, f0, f1, _⟩ := blk2 h1
  have H3 := Lib.hid h3; have H4 := Lib.hid h4
  clear eW h1 h2 h3 h4
  refine (R2.out W bel).mono ?_
  rintro e w1 ⟨rfl, hb1, hs1⟩
  clear hs1
  have p0' := cell_to hb1 p0 (by omega); have p1' := cell_to hb1 p1 (by omega)
  clear p0 p1 f0 f1
  go_wp2_with fail
  obtain ⟨V, eV, hN, belV, hszV⟩ := alloc1 w1 (Obj.cells #[Value.slice a2 t2 c2, Value.bool (sgn y)] 53)
  rw [eV]
  clear eV
  obtain ⟨q0, q1, _, _, _⟩ := blk2 hN
  have p0 := cell_to belV p0' (by have := hb1.size; omega); have p1 := cell_to belV p1' (by have := hb1.size; omega)
  have STAY : Hid (∀ w', Below V.heap.size V w' → w'.cell? ⟨w.heap.size, 0, none⟩ = some (.bool n1) ∧ w'.cell? ⟨w.heap.size, 1, none⟩ = some (.slice a1 k1 c1) ∧ w'.cell? ⟨w1.heap.size, 0, none⟩ = some (.slice a2 t2 c2) ∧ w'.cell? ⟨w1.heap.size, 1, none⟩ = some (.bool (sgn y)) ∧ Below V.heap.size V w' ∧ V.heap.size ≤ w'.heap.size) :=
    Lib.hid (fun w' h => ⟨cell_to h p0 (World.block_lt_of_cell? V _ p0), cell_to h p1 (World.block_lt_of_cell? V _ p1), cell_to h q0 hszV, cell_to h q1 hszV, h, h.size⟩)
  have BV := Lib.hid (below_of (below_of bel hb1) belV)
  have BW := Lib.hid (hb1.trans (belV.mono hb1.size))
  have hB0 := (Below.refl V.heap.size V).drew
  have Q0 := Lib.hid q0; have Q1 := Lib.hid q1
  clear p0' p1' hN
  go_cut [8, 9] (fun s8 s9 wx => s9 = .int .i64 5 ∧ Below V.heap.size V wx)
  case first =>
    clear p0 p1 q0 q1
    go_region_held3 (fun w' => w'.cell? ⟨w.heap.size, 0, none⟩ = some (.bool n1) ∧ w'.cell? ⟨w.heap.size, 1, none⟩ = some (.slice a1 k1 c1) ∧ w'.cell? ⟨w1.heap.size, 0, none⟩ = some (.slice a2 t2 c2) ∧ w'.cell? ⟨w1.heap.size, 1, none⟩ = some (.bool (sgn y)) ∧ Below V.heap.size V w' ∧ V.heap.size ≤ w'.heap.size)
      ((try go_split_ands; refine STAY.out _ ?_; first | assumption | exact below_to (by assumption) (by assumption) | exact Below.alloc (by assumption) (by first | omega | (simp; done) | (simp; omega)) _ | exact Below.setCell (Below.setCell (Below.setCell (Below.setCell (by assumption) (by first | omega | (simp; done) | (simp; omega)) _) (by first | omega | (simp; done) | (simp; omega)) _) (by first | omega | (simp; done) | (simp; omega)) _) (by first | omega | (simp; done) | (simp; omega)) _))
      (first
      | (go_at_call 30; go_split_ands; refine (R1.out _ (below_of BV.out (by assumption))).mono ?_; rintro e w2 ⟨rfl, hbx1, hs1⟩; have hk1 := below_to hbx1 (by assumption); obtain ⟨hc1, hf1⟩ := bcell hbx1; (try simp at hs1))
      | (go_at_call 31; go_split_ands; refine (DV.out _ (below_of BV.out (by assumption))).mono ?_; rintro e w3 ⟨rfl, hbx2⟩; have hk2 := below_to hbx2 (by assumption); obtain ⟨hc2, hf2⟩ := bcell hbx2; have hz2 := hbx2.size; (try simp only [sz_alloc, sz_set, sz_drew] at hz2)))
    all_goals
      (go_wp2_with fail
       go_meet
       exact ⟨rfl, by first | assumption | (go_split_ands; assumption)⟩)
  case rest =>
    obtain ⟨rfl, hBV⟩ := hcut
    have B0 := Lib.hid (below_of BV.out hBV)
    have hBW := (BW.out.trans (hBV.mono BW.out.size))
    have x0 : wc.heap[w.heap.size + 1 + 1]? = _ := (hBW.block _ (show w.heap.size + 1 + 1 < W.heap.size by omega)).trans H3.out
    obtain ⟨kk0, kl0, gg0, gl0, _⟩ := blk2 x0
    have hl0 : w.heap.size ≤ w.heap.size + 1 + 1 := by omega
    have x1 : wc.heap[w.heap.size + 1 + 1 + 1]? = _ := (hBW.block _ (show w.heap.size + 1 + 1 + 1 < W.heap.size by omega)).trans H4.out
    obtain ⟨kk1, kl1, gg1, gl1, _⟩ := blk2 x1
    have hl1 : w.heap.size ≤ w.heap.size + 1 + 1 + 1 := by omega
    clear hBV hBW x0 x1
    go_wp2
    refine bodyPost_ret (v := .tuple #[.agg #[.bool false, .slice none 0 0], .agg #[.bool false, .slice none 0 0], .int .i64 5]) ?_ rfl ⟨rfl, set_below (set_below (set_below (set_below (B0.out) hl0) hl0) hl1) hl1⟩
    simp [results, Tryz.results9, go_sem, *]

/-- DivMod of any two, b not 0 -/
theorem divI_full (va vb : Value) (x y : Int) (w : World) (ha : IntV w va x) (hb : IntV w vb y) (h0 : y ≠ 0) :
    Calls Tryz.prog 9 #[va, vb] w fun e w' => ∃ v1 v2, e = .returned (.tuple #[v1, v2, .int .i64 (twE (qE x y) (rE x y))]) ∧ IntK w' v1 (twZ (qE x y) (rE x y) (qE x y)) ∧ IntK w' v2 (twZ (qE x y) (rE x y) (rE x y)) ∧ Below w.heap.size w w' := by
  have hx := ha.huge
  have hy := hb.huge
  obtain ⟨n1, a1, k1, c1, t1, rfl, N1, R1⟩ := ha.rd
  obtain ⟨n2, a2, k2, c2, t2, rfl, N2, R2⟩ := hb.rd
  by_cases hl : t1 ≤ 4096 + t2
  · exact divI_near x y w n1 n2 a1 a2 k1 c1 t1 k2 c2 t2 R1 R2 N2 hx hy (dvc_gen N1 N2 hx hy h0 hl)
  · have E := e_big (far_big N1 N2 h0 (by omega))
    refine (divI_far x y w n1 n2 a1 a2 k1 c1 t1 k2 c2 t2 R1 R2 N2 (fun w1 hB => divide_far a1 a2 t1 c1 t2 c2 x y w1 (N1.below hB) (N2.below hB) h0 (by omega))).mono ?_
    rintro e w' ⟨rfl, hb⟩
    exact ⟨_, _, by rw [(tw_big (.inl E) 0).1], by rw [(tw_big (.inl E) _).2]; exact intk_zero _, by rw [(tw_big (.inl E) _).2]; exact intk_zero _, hb⟩
end Go.Proofs.YtkccjddmmjdceaaGreatDoor
