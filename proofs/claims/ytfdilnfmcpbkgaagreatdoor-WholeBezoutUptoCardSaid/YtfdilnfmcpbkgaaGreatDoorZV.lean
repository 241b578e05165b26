/- Package whole: Quo where nothing is long, and by nought. -/
import Derived.Test.YtfdilnfmcpbkgaaGreatDoorZQ
set_option linter.unusedVariables false
set_option linter.unusedSimpArgs false
namespace Go.Proofs.YtfdilnfmcpbkgaaGreatDoor
open Go.RowKit Mth

set_option maxHeartbeats 16000000 in
set_option maxRecDepth 100000 in
theorem quoI_any (va vb : Value) (x y : Int) (w : World) (ha : IntV w va x) (hb : IntV w vb y) (hx : x.natAbs < Big) (hy : y.natAbs < Big) (h0 : y ≠ 0) :
    Calls Tryz.prog 15 #[va, vb] w fun e w' => ∃ v1 v2, e = .returned (.tuple #[v1, v2, .int .i64 0]) ∧ IntK w' v1 (qC x y) ∧ IntK w' v2 (rC x y) ∧ Below w.heap.size w w' := by
  obtain ⟨n1, a1, k1, c1, t1, rfl, N1', R1'⟩ := ha.rd
  obtain ⟨n2, a2, k2, c2, t2, rfl, N2', R2'⟩ := hb.rd
  have DV := Lib.hid (dvc_of N1' N2' hx hy h0)
  have BD := Lib.hid (dvs_bounds hx hy h0)
  have N2 := Lib.hid N2'; have R1 := Lib.hid R1'; have R2 := Lib.hid R2'
  clear ha hb N1' N2' R1' R2' hx hy
  go_enter Tryz.func15, Tryz.ntmps15
  go_wp2_with fail
  obtain ⟨W, eW, h1, h2, h3, h4, bel, hsz⟩ := alloc4 w (Obj.cells #[Value.bool n1, Value.slice a1 k1 c1] 25) (Obj.cells #[Value.bool n2, Value.slice a2 k2 c2] 25) (Obj.cells #[Value.bool false, Value.slice none 0 0] 25) (Obj.cells #[Value.bool false, Value.slice none 0 0] 25)
  rw [eW]
  obtain ⟨p0, p1, f0, f1, _⟩ := blk2 h1
  have H3 := Lib.hid h3; have H4 := Lib.hid h4
  have QH := Lib.hid h2
  clear eW h1 h2 h3 h4
  obtain ⟨q0, q1, _, _, _⟩ := blk2 QH.out
  clear f0 f1
  have STAY : Hid (∀ w', Below W.heap.size W w' → w'.cell? ⟨w.heap.size, 0, none⟩ = some (.bool n1) ∧ w'.cell? ⟨w.heap.size, 1, none⟩ = some (.slice a1 k1 c1) ∧ w'.cell? ⟨w.heap.size + 1, 0, none⟩ = some (.bool n2) ∧ w'.cell? ⟨w.heap.size + 1, 1, none⟩ = some (.slice a2 k2 c2) ∧ Below W.heap.size W w' ∧ W.heap.size ≤ w'.heap.size) :=
    Lib.hid (fun w' h => ⟨cell_to h p0 (World.block_lt_of_cell? W _ p0), cell_to h p1 (World.block_lt_of_cell? W _ p1), cell_to h q0 (by omega), cell_to h q1 (by omega), h, h.size⟩)
  have R1' : Hid (∀ v w1, v = .agg #[.bool n1, .slice a1 k1 c1] → Below W.heap.size W w1 → Calls Tryz.prog 22 #[v] w1 fun e w' => e = .returned (.agg #[.slice a1 t1 c1, .bool (sgn x)]) ∧ Below w1.heap.size w1 w' ∧ w'.heap.size = w1.heap.size + 3) := Lib.hid (fun v w1 e h => by subst e; exact R1.out w1 (below_of bel h))
  have R2' : Hid (∀ v w1, v = .agg #[.bool n2, .slice a2 k2 c2] → Below W.heap.size W w1 → Calls Tryz.prog 22 #[v] w1 fun e w' => e = .returned (.agg #[.slice a2 t2 c2, .bool (sgn y)]) ∧ Below w1.heap.size w1 w' ∧ w'.heap.size = w1.heap.size + 3) := Lib.hid (fun v w1 e h => by subst e; exact R2.out w1 (below_of bel h))
  have BV := Lib.hid bel
  have hB0 := (Below.refl W.heap.size W).drew
  go_cut [7, 8] (fun s8 s9 wx => DivO W wx (qC x y) (rC x y) s8 s9)
  case first =>
    clear p0 p1 q0 q1
    go_region_held3 (fun w' => w'.cell? ⟨w.heap.size, 0, none⟩ = some (.bool n1) ∧ w'.cell? ⟨w.heap.size, 1, none⟩ = some (.slice a1 k1 c1) ∧ w'.cell? ⟨w.heap.size + 1, 0, none⟩ = some (.bool n2) ∧ w'.cell? ⟨w.heap.size + 1, 1, none⟩ = some (.slice a2 k2 c2) ∧ Below W.heap.size W w' ∧ W.heap.size ≤ w'.heap.size)
      ((try go_split_ands; refine STAY.out _ ?_; first | assumption | exact below_to (by assumption) (by assumption) | exact Below.alloc (by assumption) (by first | omega | (simp; done) | (simp; omega)) _ | exact Below.setCell (Below.setCell (Below.setCell (Below.setCell (by assumption) (by first | omega | (simp; done) | (simp; omega)) _) (by first | omega | (simp; done) | (simp; omega)) _) (by first | omega | (simp; done) | (simp; omega)) _) (by first | omega | (simp; done) | (simp; omega)) _))
      (first
      | (go_at_call 22; go_split_ands; first | (refine Calls.mono (R1'.out _ _ ?_ (by assumption)) ?_; (exact rfl); rintro e w1 ⟨rfl, hbx1, hs1⟩; have hk1 := below_to hbx1 (by assumption); obtain ⟨hc1, hf1⟩ := bcell hbx1; (try simp at hs1)) | (refine Calls.mono (R2'.out _ _ ?_ (by assumption)) ?_; (exact rfl); rintro e w2 ⟨rfl, hbx2, hs2⟩; have hk2 := below_to hbx2 (by assumption); obtain ⟨hc2, hf2⟩ := bcell hbx2; (try simp at hs2); (try simp only [hs1] at hs2)))
      | (go_at_call 42; go_split_ands; refine (DV.out _ (below_of BV.out (by assumption))).mono ?_; rintro e w3 ⟨aq, kq, cq, bq, ar, kr, cr, br, rfl, hq, hr, hbx3⟩; have hk3 := below_to hbx3 (by assumption); obtain ⟨hc3, hf3⟩ := bcell hbx3; have hz3 := hbx3.size; (try simp only [sz_alloc, sz_set, sz_drew] at hz3)))
    all_goals
      (go_wp2_with fail
       go_meet
       clear hc1 hf1 hc2 hf2 hc3 hf3
       refine ⟨_, aq, kq, cq, bq, ar, kr, cr, br, rfl, rfl, ?_, ?_, ?_, ?_, by first | assumption | (go_split_ands; assumption)⟩)
    all_goals
      repeat (first
       | ((with_reducible refine blk_new ?_); (first | omega | (simp only [sz_alloc, sz_set, sz_drew]; omega) | (focus (simp only [sz_alloc, sz_set, sz_drew]; done))))
       | (with_reducible refine blk_set4 (a := .slice none 0 0) (b := .bool false) (c := .slice none 0 0) (d := .bool false) ?_)
       | (with_reducible refine blk_drew ?_)
       | ((with_reducible refine blk_below hbx3 ?_ ?_); (first | omega | (simp only [sz_alloc, sz_set, sz_drew]; omega) | (focus (simp only [sz_alloc, sz_set, sz_drew]; done))))
       | ((with_reducible refine blk_below hbx2 ?_ ?_); (first | omega | (simp only [sz_alloc, sz_set, sz_drew]; omega) | (focus (simp only [sz_alloc, sz_set, sz_drew]; done))))
       | ((with_reducible refine blk_below hbx1 ?_ ?_); (first | omega | (simp only [sz_alloc, sz_set, sz_drew]; omega) | (focus (simp only [sz_alloc, sz_set, sz_drew]; done))))
       | ((with_reducible refine nuc_to hq ?_ ?_); (first | omega | (simp only [sz_alloc, sz_set, sz_drew]; omega) | (focus (simp only [sz_alloc, sz_set, sz_drew]; done))); (with_reducible exact nuc_new _ _))
       | ((with_reducible refine nuc_to4 hq ?_ ?_); (first | omega | (simp only [sz_alloc, sz_set, sz_drew]; omega) | (focus (simp only [sz_alloc, sz_set, sz_drew]; done))); (first | omega | (simp only [sz_alloc, sz_set, sz_drew]; omega) | (focus (simp only [sz_alloc, sz_set, sz_drew]; done))))
       | ((with_reducible refine nuc_to hr ?_ ?_); (first | omega | (simp only [sz_alloc, sz_set, sz_drew]; omega) | (focus (simp only [sz_alloc, sz_set, sz_drew]; done))); (with_reducible exact nuc_new _ _))
       | ((with_reducible refine nuc_to4 hr ?_ ?_); (first | omega | (simp only [sz_alloc, sz_set, sz_drew]; omega) | (focus (simp only [sz_alloc, sz_set, sz_drew]; done))); (first | omega | (simp only [sz_alloc, sz_set, sz_drew]; omega) | (focus (simp only [sz_alloc, sz_set, sz_drew]; done))))
       | (first | omega | (simp only [sz_alloc, sz_set, sz_drew]; omega) | (focus (simp only [sz_alloc, sz_set, sz_drew]; done))))
  case rest =>
    obtain ⟨g, aq, kq, cq, bq, ar, kr, cr, br, rfl, rfl, hG, hgV, hq, hr, hBV⟩ := hcut
    obtain ⟨⟨s0, s1, s2, s3⟩, ⟨g0, g1, g2, g3⟩⟩ := blk4 hG
    have HG := Lib.hid hG; have HQ := Lib.hid hq; have HR := Lib.hid hr; have HBV := Lib.hid hBV
    clear p0 p1 q0 q1 STAY hB0 hG hq hr hBV R1 R2 R1' R2' DV
    have a2r := (Array.getElem?_eq_some_iff.1 HG.out).1
    have r3 := (HBV.out.block _ (show w.heap.size + 2 < W.heap.size by omega)).trans H3.out
    have r4 := (HBV.out.block _ (show w.heap.size + 3 < W.heap.size by omega)).trans H4.out
    have R3 := Lib.hid r3; have R4 := Lib.hid r4
    have l3 := (Array.getElem?_eq_some_iff.1 r3).1; have l4 := (Array.getElem?_eq_some_iff.1 r4).1
    clear r3 r4
    go_wp2_with fail
    refine (answers_fine W.heap.size _ _ _ _ (qC x y) (rC x y) _ HQ.out HR.out BD.out.1 BD.out.2.1 HBV.out.size).mono ?_
    rintro e w9 ⟨v1, v2, rfl, i1, i2, hb9⟩
    obtain ⟨m1, d1, e1, f1, rfl⟩ := i1.shape
    obtain ⟨m2, d2, e2, f2, rfl⟩ := i2.shape
    have x3 : w9.heap[w.heap.size + 1 + 1]? = _ := (hb9.block _ l3).trans R3.out
    have x4 : w9.heap[w.heap.size + 1 + 1 + 1]? = _ := (hb9.block _ l4).trans R4.out
    obtain ⟨k0, k1', g0', g1', _⟩ := blk2 x3
    obtain ⟨k3, k4, g3', g4', _⟩ := blk2 x4
    have X3 := Lib.hid x3; have X4 := Lib.hid x4; have I1 := Lib.hid i1.k; have I2 := Lib.hid i2.k
    have B9 := Lib.hid (below_of (below_of BV.out HBV.out) hb9)
    have hL3 : w.heap.size ≤ w.heap.size + 1 + 1 := by omega
    have hL4 : w.heap.size ≤ w.heap.size + 1 + 1 + 1 := by omega
    have hne : w.heap.size + 1 + 1 + 1 ≠ w.heap.size + 1 + 1 := by omega
    clear x3 x4 i1 i2 hb9
    go_wp2
    refine bodyPost_ret (v := .tuple #[.agg #[.bool m1, .slice d1 e1 f1], .agg #[.bool m2, .slice d2 e2 f2], .int .i64 0]) ?_ rfl ⟨_, _, rfl, intk_four I1.out X3.out X4.out hne, intk_four I2.out X3.out X4.out hne, set_below (set_below (set_below (set_below B9.out hL3) hL3) hL4) hL4⟩
    simp [results, Tryz.results15, go_sem, *]
set_option maxHeartbeats 16000000 in
set_option maxRecDepth 100000 in
theorem quoI_zero (va vb : Value) (x : Int) (w : World) (ha : IntV w va x) (hb : IntV w vb 0) :
    Calls Tryz.prog 15 #[va, vb] w fun e w' => e = .returned (.tuple #[.agg #[.bool false, .slice none 0 0], .agg #[.bool false, .slice none 0 0], .int .i64 11]) ∧ Below w.heap.size w w' := by
  obtain ⟨n1, a1, k1, c1, t1, rfl, N1', R1'⟩ := ha.rd
  obtain ⟨n2, a2, k2, c2, t2, rfl, N2', R2'⟩ := hb.rd
  have DV : Hid (∀ w1, Below w.heap.size w w1 → Calls Tryz.prog 42 #[.agg #[.slice a1 t1 c1, .bool (sgn x)], .agg #[.slice a2 t2 c2, .bool (sgn 0)]] w1 fun e w' => e = .returned (.tuple #[.agg #[.slice none 0 0, .bool false, .slice none 0 0, .bool false], .int .i64 11]) ∧ Below w1.heap.size w1 w') := Lib.hid (fun w1 hB => divide_zero _ _ x w1 (N1'.below hB) (N2'.below hB))
  have N2 := Lib.hid N2'; have R1 := Lib.hid R1'; have R2 := Lib.hid R2'
  clear ha hb N1' N2' R1' R2'
  go_enter Tryz.func15, Tryz.ntmps15
  go_wp2_with fail
  obtain ⟨W, eW, h1, h2, h3, h4, bel, hsz⟩ := alloc4 w (Obj.cells #[Value.bool n1, Value.slice a1 k1 c1] 25) (Obj.cells #[Value.bool n2, Value.slice a2 k2 c2] 25) (Obj.cells #[Value.bool false, Value.slice none 0 0] 25) (Obj.cells #[Value.bool false, Value.slice none 0 0] 25)
  rw [eW]
  obtain ⟨p0, p1, f0, f1, _⟩ := blk2 h1
  have H3 := Lib.hid h3; have H4 := Lib.hid h4
  have QH := Lib.hid h2
  clear eW h1 h2 h3 h4
  obtain ⟨q0, q1, _, _, _⟩ := blk2 QH.out
  clear f0 f1
  have STAY : Hid (∀ w', Below W.heap.size W w' → w'.cell? ⟨w.heap.size, 0, none⟩ = some (.bool n1) ∧ w'.cell? ⟨w.heap.size, 1, none⟩ = some (.slice a1 k1 c1) ∧ w'.cell? ⟨w.heap.size + 1, 0, none⟩ = some (.bool n2) ∧ w'.cell? ⟨w.heap.size + 1, 1, none⟩ = some (.slice a2 k2 c2) ∧ Below W.heap.size W w' ∧ W.heap.size ≤ w'.heap.size) :=
    Lib.hid (fun w' h => ⟨cell_to h p0 (World.block_lt_of_cell? W _ p0), cell_to h p1 (World.block_lt_of_cell? W _ p1), cell_to h q0 (by omega), cell_to h q1 (by omega), h, h.size⟩)
  have R1' : Hid (∀ v w1, v = .agg #[.bool n1, .slice a1 k1 c1] → Below W.heap.size W w1 → Calls Tryz.prog 22 #[v] w1 fun e w' => e = .returned (.agg #[.slice a1 t1 c1, .bool (sgn x)]) ∧ Below w1.heap.size w1 w' ∧ w'.heap.size = w1.heap.size + 3) := Lib.hid (fun v w1 e h => by subst e; exact R1.out w1 (below_of bel h))
  have R2' : Hid (∀ v w1, v = .agg #[.bool n2, .slice a2 k2 c2] → Below W.heap.size W w1 → Calls Tryz.prog 22 #[v] w1 fun e w' => e = .returned (.agg #[.slice a2 t2 c2, .bool (sgn 0)]) ∧ Below w1.heap.size w1 w' ∧ w'.heap.size = w1.heap.size + 3) := Lib.hid (fun v w1 e h => by subst e; exact R2.out w1 (below_of bel h))
  have BV := Lib.hid bel
  have hB0 := (Below.refl W.heap.size W).drew
  go_cut [7, 8] (fun s8 s9 wx => s9 = .int .i64 11 ∧ Below W.heap.size W wx)
  case first =>
    clear p0 p1 q0 q1
    go_region_held3 (fun w' => w'.cell? ⟨w.heap.size, 0, none⟩ = some (.bool n1) ∧ w'.cell? ⟨w.heap.size, 1, none⟩ = some (.slice a1 k1 c1) ∧ w'.cell? ⟨w.heap.size + 1, 0, none⟩ = some (.bool n2) ∧ w'.cell? ⟨w.heap.size + 1, 1, none⟩ = some (.slice a2 k2 c2) ∧ Below W.heap.size W w' ∧ W.heap.size ≤ w'.heap.size)
      ((try go_split_ands; refine STAY.out _ ?_; first | assumption | exact below_to (by assumption) (by assumption) | exact Below.alloc (by assumption) (by first | omega | (simp; done) | (simp; omega)) _ | exact Below.setCell (Below.setCell (Below.setCell (Below.setCell (by assumption) (by first | omega | (simp; done) | (simp; omega)) _) (by first | omega | (simp; done) | (simp; omega)) _) (by first | omega | (simp; done) | (simp; omega)) _) (by first | omega | (simp; done) | (simp; omega)) _))
      (first
      | (go_at_call 22; go_split_ands; first | (refine Calls.mono (R1'.out _ _ ?_ (by assumption)) ?_; (exact rfl); rintro e w1 ⟨rfl, hbx1, hs1⟩; have hk1 := below_to hbx1 (by assumption); obtain ⟨hc1, hf1⟩ := bcell hbx1; (try simp at hs1)) | (refine Calls.mono (R2'.out _ _ ?_ (by assumption)) ?_; (exact rfl); rintro e w2 ⟨rfl, hbx2, hs2⟩; have hk2 := below_to hbx2 (by assumption); obtain ⟨hc2, hf2⟩ := bcell hbx2; (try simp at hs2); (try simp only [hs1] at hs2)))
      | (go_at_call 42; go_split_ands; refine (DV.out _ (below_of BV.out (by assumption))).mono ?_; rintro e w3 ⟨rfl, hbx3⟩; have hk3 := below_to hbx3 (by assumption); obtain ⟨hc3, hf3⟩ := bcell hbx3; have hz3 := hbx3.size; (try simp only [sz_alloc, sz_set, sz_drew] at hz3)))
    all_goals
      (go_wp2_with fail
       go_meet
       exact ⟨rfl, by first | assumption | (go_split_ands; assumption)⟩)
  case rest =>
    obtain ⟨rfl, hBV⟩ := hcut
    have B0 := Lib.hid (below_of BV.out hBV)
    have hBW := hBV
    have x0 : wc.heap[w.heap.size + 1 + 1]? = _ := (hBW.block _ (show w.heap.size + 1 + 1 < W.heap.size by omega)).trans H3.out
    obtain ⟨kk0, kl0, gg0, gl0, _⟩ := blk2 x0
    have hl0 : w.heap.size ≤ w.heap.size + 1 + 1 := by omega
    have x1 : wc.heap[w.heap.size + 1 + 1 + 1]? = _ := (hBW.block _ (show w.heap.size + 1 + 1 + 1 < W.heap.size by omega)).trans H4.out
    obtain ⟨kk1, kl1, gg1, gl1, _⟩ := blk2 x1
    have hl1 : w.heap.size ≤ w.heap.size + 1 + 1 + 1 := by omega
    clear hBV hBW x0 x1
    go_wp2
    refine bodyPost_ret (v := .tuple #[.agg #[.bool false, .slice none 0 0], .agg #[.bool false, .slice none 0 0], .int .i64 11]) ?_ rfl ⟨rfl, set_below (set_below (set_below (set_below (B0.out) hl0) hl0) hl1) hl1⟩
    simp [results, Tryz.results15, go_sem, *]
end Go.Proofs.YtfdilnfmcpbkgaaGreatDoor
