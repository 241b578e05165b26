/- Package whole: DivMod by nought. -/
import Derived.Test.YtfdilnfmcpbkgaaGreatDoorZQ
set_option linter.unusedVariables false
set_option linter.unusedSimpArgs false
namespace Go.Proofs.YtfdilnfmcpbkgaaGreatDoor
open Go.RowKit Mth

set_option maxHeartbeats 16000000 in
set_option maxRecDepth 100000 in
theorem divmodI_zero (va vb : Value) (x : Int) (w : World) (ha : IntV w va x) (hb : IntV w vb 0) :
    Calls Tryz.prog 34 #[va, vb] w fun e w' => e = .returned (.tuple #[.agg #[.bool false, .slice none 0 0], .agg #[.bool false, .slice none 0 0], .int .i64 11]) ∧ Below w.heap.size w w' := by
  obtain ⟨n1, a1, k1, c1, t1, rfl, N1', R1'⟩ := ha.rd
  obtain ⟨n2, a2, k2, c2, t2, rfl, N2', R2'⟩ := hb.rd
  have DV : Hid (∀ w1, Below w.heap.size w w1 → Calls Tryz.prog 42 #[.agg #[.slice a1 t1 c1, .bool (sgn x)], .agg #[.slice a2 t2 c2, .bool (sgn 0)]] w1 fun e w' => e = .returned (.tuple #[.agg #[.slice none 0 0, .bool false, .slice none 0 0, .bool false], .int .i64 11]) ∧ Below w1.heap.size w1 w') := Lib.hid (fun w1 hB => divide_zero _ _ x w1 (N1'.below hB) (N2'.below hB))
  have N2 := Lib.hid N2'; have R1 := Lib.hid R1'; have R2 := Lib.hid R2'
  clear ha hb N1' N2' R1' R2'
  go_enter Tryz.func34, Tryz.ntmps34
  go_wp2_with fail
  obtain ⟨W, eW, h1, h2, h3, h4, bel, hsz⟩ := alloc4 w (Obj.cells #[Value.bool n1, Value.slice a1 k1 c1] 25) (Obj.cells #[Value.bool n2, Value.slice a2 k2 c2] 25) (Obj.cells #[Value.bool false, Value.slice none 0 0] 25) (Obj.cells #[Value.bool false, Value.slice none 0 0] 25)
  rw [eW]
  obtain ⟨p0, p1, f0, f1, _⟩ := blk2 h1
  have H3 := Lib.hid h3; have H4 := Lib.hid h4
  clear eW h1 h2 h3 h4
  refine (R2.out W bel).mono ?_
  rintro e w1 ⟨rfl, hb1, hs1⟩
  clear hs1
  have p0' := cell_to hb1 p0 (by omega); have p1' := cell_to hb1 p1 (by omega)
  clear p0 p1 f0 f1
  go_wp2_with fail
  obtain ⟨V, eV, hN, belV, hszV⟩ := alloc1 w1 (Obj.cells #[Value.slice a2 t2 c2, Value.bool (sgn 0)] 49)
  rw [eV]
  clear eV
  obtain ⟨q0, q1, _, _, _⟩ := blk2 hN
  have p0 := cell_to belV p0' (by have := hb1.size; omega); have p1 := cell_to belV p1' (by have := hb1.size; omega)
  have STAY : Hid (∀ w', Below V.heap.size V w' → w'.cell? ⟨w.heap.size, 0, none⟩ = some (.bool n1) ∧ w'.cell? ⟨w.heap.size, 1, none⟩ = some (.slice a1 k1 c1) ∧ w'.cell? ⟨w1.heap.size, 0, none⟩ = some (.slice a2 t2 c2) ∧ w'.cell? ⟨w1.heap.size, 1, none⟩ = some (.bool (sgn 0)) ∧ Below V.heap.size V w' ∧ V.heap.size ≤ w'.heap.size) :=
    Lib.hid (fun w' h => ⟨cell_to h p0 (World.block_lt_of_cell? V _ p0), cell_to h p1 (World.block_lt_of_cell? V _ p1), cell_to h q0 hszV, cell_to h q1 hszV, h, h.size⟩)
  have BV := Lib.hid (below_of (below_of bel hb1) belV)
  have BW := Lib.hid (hb1.trans (belV.mono hb1.size))
  have hB0 := (Below.refl V.heap.size V).drew
  have Q0 := Lib.hid q0; have Q1 := Lib.hid q1
  clear p0' p1' hN
  go_cut [8, 9] (fun s8 s9 wx => s9 = .int .i64 11 ∧ Below V.heap.size V wx)
  case first =>
    clear p0 p1 q0 q1
    go_region_held3 (fun w' => w'.cell? ⟨w.heap.size, 0, none⟩ = some (.bool n1) ∧ w'.cell? ⟨w.heap.size, 1, none⟩ = some (.slice a1 k1 c1) ∧ w'.cell? ⟨w1.heap.size, 0, none⟩ = some (.slice a2 t2 c2) ∧ w'.cell? ⟨w1.heap.size, 1, none⟩ = some (.bool (sgn 0)) ∧ Below V.heap.size V w' ∧ V.heap.size ≤ w'.heap.size)
      ((try go_split_ands; refine STAY.out _ ?_; first | assumption | exact below_to (by assumption) (by assumption) | exact Below.alloc (by assumption) (by first | omega | (simp; done) | (simp; omega)) _ | exact Below.setCell (Below.setCell (Below.setCell (Below.setCell (by assumption) (by first | omega | (simp; done) | (simp; omega)) _) (by first | omega | (simp; done) | (simp; omega)) _) (by first | omega | (simp; done) | (simp; omega)) _) (by first | omega | (simp; done) | (simp; omega)) _))
      (first
      | (go_at_call 22; go_split_ands; refine (R1.out _ (below_of BV.out (by assumption))).mono ?_; rintro e w2 ⟨rfl, hbx1, hs1⟩; have hk1 := below_to hbx1 (by assumption); obtain ⟨hc1, hf1⟩ := bcell hbx1; (try simp at hs1))
      | (go_at_call 42; go_split_ands; refine (DV.out _ (below_of BV.out (by assumption))).mono ?_; rintro e w3 ⟨rfl, hbx2⟩; have hk2 := below_to hbx2 (by assumption); obtain ⟨hc2, hf2⟩ := bcell hbx2; have hz2 := hbx2.size; (try simp only [sz_alloc, sz_set, sz_drew] at hz2)))
    all_goals
      (go_wp2_with fail
       go_meet
       exact ⟨rfl, by first | assumption | (go_split_ands; assumption)⟩)
  case rest =>
    obtain ⟨rfl, hBV⟩ := hcut
    have B0 := Lib.hid (below_of BV.out hBV)
    have hBW := (BW.out.trans (hBV.mono BW.out.size))
    have x0 : wc.heap[w.heap.size + 1 + 1]? = _ := (hBW.block _ (show w.heap.size + 1 + 1 < W.heap.size by omega)).trans H3.out
    obtain ⟨kk0, kl0, gg0, gl0, _⟩ := blk2 x0
    have hl0 : w.heap.size ≤ w.heap.size + 1 + 1 := by omega
    have x1 : wc.heap[w.heap.size + 1 + 1 + 1]? = _ := (hBW.block _ (show w.heap.size + 1 + 1 + 1 < W.heap.size by omega)).trans H4.out
    obtain ⟨kk1, kl1, gg1, gl1, _⟩ := blk2 x1
    have hl1 : w.heap.size ≤ w.heap.size + 1 + 1 + 1 := by omega
    clear hBV hBW x0 x1
    go_wp2
    refine bodyPost_ret (v := .tuple #[.agg #[.bool false, .slice none 0 0], .agg #[.bool false, .slice none 0 0], .int .i64 11]) ?_ rfl ⟨rfl, set_below (set_below (set_below (set_below (B0.out) hl0) hl0) hl1) hl1⟩
    simp [results, Tryz.results34, go_sem, *]
end Go.Proofs.YtfdilnfmcpbkgaaGreatDoor
