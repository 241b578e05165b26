/- lexis: nothing, parenthesis, keyword, number (written by genlj.py). -/
import Derived.Test.YtlgcmpiobglbbaaDoorLI
set_option linter.unusedVariables false
set_option linter.unusedSimpArgs false
namespace Go.Proofs.YtlgcmpiobglbbaaDoor
open Go.RowKit Mth

theorem one_par {s : ByteArray} {p : Nat} (h : cb s p = 40) : oneF s p = .tok 1 ⟨#[40]⟩ false (p + 1) := by unfold oneF; rw [if_pos h]
theorem one_cls {s : ByteArray} {p : Nat} (h : cb s p = 41) : oneF s p = .tok 2 ⟨#[41]⟩ false (p + 1) := by unfold oneF; rw [if_neg (by omega), if_pos h]
theorem one_nothing {s : ByteArray} {p : Nat} (h : cb s p ≠ 40 ∧ cb s p ≠ 41 ∧ cb s p ≠ 34 ∧ cb s p ≠ 124 ∧ cb s p ≠ 35 ∧ cb s p ≠ 58 ∧ bSimple (cb s p) = false) : oneF s p = .err 60 := by
  obtain ⟨h1, h2, h3, h4, h5, h6, h7⟩ := h
  unfold oneF; rw [if_neg h1, if_neg h2, if_neg h3, if_neg h4, if_pos ⟨h5, h6, h7⟩]
theorem dig_nl {c : Nat} (h : bDig c = true) : c ≠ 10 := by rw [bDig_iff] at h; omega
set_option maxHeartbeats 1000000 in
set_option maxRecDepth 100000 in
theorem nothing_any (g : Nat) (s : ByteArray) (p : Nat) (w : World) (h : RdA w g s p) (hL : LexW w) (hs : s.size ≤ 1048576) (hp : p < s.size) (h1 : oneF s p = .err 60) :
    Calls Tryd.prog 35 #[.pointer (some ⟨g, 0, none⟩)] w fun e w' => TokO w w' g s p e := by
  have HR := Lib.hid h
  have hg := h.lt
  have HB : Hid (Blk (w.alloc (Obj.cells #[.int .i64 0, .string ⟨#[]⟩, .bool false, .int .i64 0, .int .i64 0] 33)) w.heap.size) := Lib.hid (heap_alloc_new w (Obj.cells #[.int .i64 0, .string ⟨#[]⟩, .bool false, .int .i64 0, .int .i64 0] 33))
  have HL := Lib.hid (hL.below ((Below.refl _ _).alloc (Nat.le_refl _) (Obj.cells #[.int .i64 0, .string ⟨#[]⟩, .bool false, .int .i64 0, .int .i64 0] 33)))
  have HR1 := Lib.hid (h.alloc (Obj.cells #[.int .i64 0, .string ⟨#[]⟩, .bool false, .int .i64 0, .int .i64 0] 33))
  obtain ⟨c0, c1, c2, c3, f0, f1, f2, f3⟩ := h.cells
  obtain ⟨⟨b0, b1, b2, b3, b4⟩, b5, b6, b7, b8, b9⟩ := Blk.all HB.out
  have H1 := Lib.hid h1
  clear h hL h1
  go_enter Tryd.func35, Tryd.ntmps35
  go_wp2
  refine bodyPost_ret (results_tok rfl rfl rfl HB.out) rfl ?_
  exact .inr ⟨60, H1.out, by omega, rfl, grown_alloc (grown_refl _ _) _, _, _, _, HR1.out⟩
set_option maxHeartbeats 1000000 in
set_option maxRecDepth 100000 in
theorem parenthesis_any (g : Nat) (s : ByteArray) (p : Nat) (w : World) (h : RdA w g s p) (hL : LexW w) (hs : s.size ≤ 1048576) (hp : p < s.size) (h1 : cb s p = 40 ∨ cb s p = 41) :
    Calls Tryd.prog 36 #[.pointer (some ⟨g, 0, none⟩)] w fun e w' => TokO w w' g s p e := by
  have HR := Lib.hid h
  have hg := h.lt
  have HB : Hid (Blk (w.alloc (Obj.cells #[.int .i64 0, .string ⟨#[]⟩, .bool false, .int .i64 0, .int .i64 0] 33)) w.heap.size) := Lib.hid (heap_alloc_new w (Obj.cells #[.int .i64 0, .string ⟨#[]⟩, .bool false, .int .i64 0, .int .i64 0] 33))
  have HL := Lib.hid (hL.below ((Below.refl _ _).alloc (Nat.le_refl _) (Obj.cells #[.int .i64 0, .string ⟨#[]⟩, .bool false, .int .i64 0, .int .i64 0] 33)))
  have HR1 := Lib.hid (h.alloc (Obj.cells #[.int .i64 0, .string ⟨#[]⟩, .bool false, .int .i64 0, .int .i64 0] 33))
  obtain ⟨c0, c1, c2, c3, f0, f1, f2, f3⟩ := h.cells
  obtain ⟨⟨b0, b1, b2, b3, b4⟩, b5, b6, b7, b8, b9⟩ := Blk.all HB.out
  have H1 := Lib.hid h1
  clear h hL h1
  go_enter Tryd.func36, Tryd.ntmps36
  by_cases hc : cb s p = 40
  · have HC := Lib.hid hc
    have PY := Lib.hid (past_yes g s p _ _ 40 _ HR1.out hs hp hc)
    clear hc
    go_wp2_with fail
    refine PY.out.mono ?_
    rintro e w1 ⟨rfl, hadv⟩
    have HA := Lib.hid hadv
    have HBW : Hid (Blk w1 w.heap.size) := Lib.hid (Blk.grown HB.out hadv.1 (by omega))
    obtain ⟨⟨k0, k1, k2, k3, k4⟩, j0, j1, j2, j3, j4⟩ := Blk.all HBW.out
    clear hadv
    go_wp2
    refine bodyPost_ret (results_tok rfl rfl rfl (heap_set5 HBW.out)) rfl ?_
    exact tokO_yes (k := 1) hg (grown_from HA.out.1) (RdA.nl (p := p) (by omega) (fun i i1 i2 => by rw [show i = p by omega, HC.out]; decide) HA.out.2) (one_par HC.out) (by omega) (by omega)
  · have HC : Hid (cb s p = 41) := Lib.hid (by have := H1.out; omega)
    have PN := Lib.hid (past_not g s p _ _ 40 _ HR1.out hs hp hc)
    clear hc
    go_wp2_with fail
    refine PN.out.mono ?_
    rintro e w1 ⟨rfl, hadv⟩
    have HA := Lib.hid hadv
    have HBW : Hid (Blk w1 w.heap.size) := Lib.hid (Blk.grown HB.out hadv.1 (by omega))
    obtain ⟨⟨k0, k1, k2, k3, k4⟩, j0, j1, j2, j3, j4⟩ := Blk.all HBW.out
    obtain ⟨d0, d1, d2, d3, g0, g1, g2, g3⟩ := hadv.2.cells
    have HBS : Hid (Blk (w1.setCell ⟨g, 1, none⟩ (.int .i64 ((p + 1 : Nat) : Int))) w.heap.size) := Lib.hid ((Below.heap_setCell w1 ⟨g, 1, none⟩ _ w.heap.size (by show w.heap.size ≠ g; omega)).trans HBW.out)
    clear hadv
    go_wp2
    refine bodyPost_ret (results_tok rfl rfl rfl (heap_set5 HBS.out)) rfl ?_
    exact tokO_yes (k := 2) hg (grown_set (grown_from HA.out.1) _) (RdA.nl (p := p) (q := p + 1) (by omega) (fun i i1 i2 => by rw [show i = p by omega, HC.out]; decide) HA.out.2.setAt) (one_cls HC.out) (by omega) (by omega)
theorem blk_new1 (w : World) (g : Nat) (v : Value) : Blk ((w.setCell ⟨g, 1, none⟩ v).alloc (Obj.cells #[.int .i64 0, .string ⟨#[]⟩, .bool false, .int .i64 0, .int .i64 0] 33)) w.heap.size := by
  have h := heap_alloc_new (w.setCell ⟨g, 1, none⟩ v) (Obj.cells #[.int .i64 0, .string ⟨#[]⟩, .bool false, .int .i64 0, .int .i64 0] 33)
  have e : (w.setCell ⟨g, 1, none⟩ v).heap.size = w.heap.size := by simp [World.setCell]
  rw [e] at h; exact h
set_option maxHeartbeats 1000000 in
set_option maxRecDepth 100000 in
theorem keyword_any (g : Nat) (s : ByteArray) (p : Nat) (w : World) (h : RdA w g s p) (hL : LexW w) (hs : s.size ≤ 1048576) (hp : p < s.size) (h1 : cb s p = 58) :
    Calls Tryd.prog 41 #[.pointer (some ⟨g, 0, none⟩)] w fun e w' => TokO w w' g s p e := by
  have HR := Lib.hid h
  have hg := h.lt
  have HB : Hid (Blk (w.alloc (Obj.cells #[.int .i64 0, .string ⟨#[]⟩, .bool false, .int .i64 0, .int .i64 0] 33)) w.heap.size) := Lib.hid (heap_alloc_new w (Obj.cells #[.int .i64 0, .string ⟨#[]⟩, .bool false, .int .i64 0, .int .i64 0] 33))
  have HL := Lib.hid (hL.below ((Below.refl _ _).alloc (Nat.le_refl _) (Obj.cells #[.int .i64 0, .string ⟨#[]⟩, .bool false, .int .i64 0, .int .i64 0] 33)))
  have HR1 := Lib.hid (h.alloc (Obj.cells #[.int .i64 0, .string ⟨#[]⟩, .bool false, .int .i64 0, .int .i64 0] 33))
  obtain ⟨c0, c1, c2, c3, f0, f1, f2, f3⟩ := h.cells
  obtain ⟨⟨b0, b1, b2, b3, b4⟩, b5, b6, b7, b8, b9⟩ := Blk.all HB.out
  have HL0 := Lib.hid hL
  have H1 := Lib.hid h1
  clear h hL h1
  go_enter Tryd.func41, Tryd.ntmps41
  have ea : ((p + 1 : Nat) : Int) = (p : Int) + 1 := by omega
  have HRa : Hid (Rdr ((w.setCell ⟨g, 1, none⟩ (.int .i64 ((p : Int) + 1))).alloc (Obj.cells #[.int .i64 0, .string ⟨#[]⟩, .bool false, .int .i64 0, .int .i64 0] 33)) g s (p + 1) (lnAt s p) (fsAt s p)) := Lib.hid (by have h := (HR.out.setAt (a' := p + 1)).alloc (Obj.cells #[.int .i64 0, .string ⟨#[]⟩, .bool false, .int .i64 0, .int .i64 0] 33); rwa [ea] at h)
  have HLa : Hid (LexW ((w.setCell ⟨g, 1, none⟩ (.int .i64 ((p : Int) + 1))).alloc (Obj.cells #[.int .i64 0, .string ⟨#[]⟩, .bool false, .int .i64 0, .int .i64 0] 33))) := Lib.hid ((HL0.out.grown HR.out (grown_set (grown_refl _ _) _)).below ((Below.refl _ _).alloc (Nat.le_refl _) _))
  have HBa : Hid (Blk ((w.setCell ⟨g, 1, none⟩ (.int .i64 ((p : Int) + 1))).alloc (Obj.cells #[.int .i64 0, .string ⟨#[]⟩, .bool false, .int .i64 0, .int .i64 0] 33)) w.heap.size) := Lib.hid (blk_new1 w g _)
  have HGa : Hid (w.grownBy ((w.setCell ⟨g, 1, none⟩ (.int .i64 ((p : Int) + 1))).alloc (Obj.cells #[.int .i64 0, .string ⟨#[]⟩, .bool false, .int .i64 0, .int .i64 0] 33)) (some g)) := Lib.hid (grown_alloc (grown_set (grown_refl _ _) _) _)
  clear ea
  have OV := Lib.hid (over_any g s (p + 1) _ _ 8 _ HRa.out HLa.out hs (by omega))
  go_wp2_with fail
  refine OV.out.mono ?_
  rintro e w1 ⟨q, rfl, hrun, hadv⟩
  have HRd := Lib.hid hadv.2
  have HG : Hid (w.grownBy w1 (some g)) := Lib.hid (grown_tr HGa.out hadv.1)
  have HBW : Hid (Blk w1 w.heap.size) := Lib.hid (Blk.grown HBa.out hadv.1 (by omega))
  obtain ⟨⟨m0, m1, m2, m3, m4⟩, n0, n1, n2, n3, n4⟩ := Blk.all HBW.out
  obtain ⟨d0, d1, d2, d3, g0, g1, g2, g3⟩ := hadv.2.cells
  have hpq := hrun.1
  have hqs := hrun.2.1
  have HN : Hid (allP s bSimple (p + 1) q) := Lib.hid (fun i i1 i2 => by rw [← kin_simple]; exact hrun.2.2.1 i (by omega) i2)
  have HE : Hid (q = s.size ∨ bSimple (cb s q) = false) := Lib.hid (by rw [← kin_simple]; exact hrun.2.2.2)
  have HLT : Hid (p < q) := Lib.hid (by omega)
  have HNL : Hid (∀ i, p ≤ i → i < q → cb s i ≠ 10) := Lib.hid (fun i i1 i2 => by
    by_cases e : i = p
    · rw [e, H1.out]; decide
    · exact simple_nl (HN.out i (by omega) i2))
  clear hrun hadv OV c0 c1 c2 c3 f0 f1 f2 f3 b0 b1 b2 b3 b4 b5 b6 b7 b8 b9
  by_cases hq0 : q = p + 1
  · have HX := Lib.hid (key_err H1.out hp HN.out (by omega) (.inl ⟨hq0, HE.out⟩))
    have ez : (((q - (p + 1) : Nat) : Int) == 0) = true := by rw [beq_iff_eq]; omega
    clear hq0
    go_wp2
    refine bodyPost_ret (results_tok rfl rfl rfl (heap_set5 HBW.out)) rfl ?_
    exact tokO_no (E := 62) hg HG.out HRd.out HX.out (by omega)
  · have ez : (((q - (p + 1) : Nat) : Int) == 0) = false := ne_i (k := 0) (by omega)
    have EY : Hid (q = s.size ∨ bEnd (cb s q) = true → oneF s p = .tok 9 (s.extract (p + 1) q) false q) := Lib.hid (fun he => key_tok H1.out HN.out (by omega) hqs he)
    have EX : Hid (q < s.size → bEnd (cb s q) = false → oneF s p = .err 62) := Lib.hid (fun h3 h4 => key_err H1.out hp HN.out (by omega) (.inr ⟨h3, HE.out.resolve_left (by omega), h4⟩))
    clear hq0
    have BW : Hid (∀ w2, w1.drew.grownBy w2 (some g) → Blk w2 w.heap.size) := Lib.hid (fun w2 h => Blk.grown (w := w1.drew) HBW.out h (by omega))
    by_cases hend : q = s.size ∨ bEnd (cb s q) = true
    · have EN : Hid (∀ W, Rdr W g s q (lnAt s p) (fsAt s p) → Calls Tryd.prog 57 #[.pointer (some ⟨g, 0, none⟩), .int .i64 9, .string (s.extract (p + 1) q)] W fun e w' => e = .returned (.tuple #[.agg #[.int .i64 9, .string (s.extract (p + 1) q), .bool false, .int .i64 0, .int .i64 0], .int .i64 0]) ∧ Adv W w' g s q (lnAt s p) (fsAt s p)) :=
        Lib.hid (fun W hW => ended_yes hW hs hqs hend)
      have HO := Lib.hid (EY.out hend)
      clear hend
      go_wp2
      go_region_with (go_at_call 57; refine Calls.mono (EN.out _ ?_) ?_; (exact HRd.out); rintro e w2 ⟨rfl, hadv2⟩; have HA2 := Lib.hid hadv2; clear hadv2; obtain ⟨⟨k0, k1, k2, k3, k4⟩, j0, j1, j2, j3, j4⟩ := Blk.all (BW.out _ HA2.out.1))
      all_goals (
        go_wp2
        refine bodyPost_ret (results_tok rfl rfl rfl (heap_set5 (BW.out _ HA2.out.1))) rfl ?_
        exact tokO_yes (k := 9) hg (grown_tr HG.out (grown_tr (grown_drewN (grown_refl _ _) 1) HA2.out.1)) (RdA.nl (Nat.le_of_lt HLT.out) HNL.out HA2.out.2) HO.out HLT.out hqs)
    · have hlt2 : q < s.size := by omega
      have hb2 : bEnd (cb s q) = false := by rw [← Bool.not_eq_true]; exact fun h => hend (.inr h)
      have EN : Hid (∀ W, Rdr W g s q (lnAt s p) (fsAt s p) → Calls Tryd.prog 57 #[.pointer (some ⟨g, 0, none⟩), .int .i64 9, .string (s.extract (p + 1) q)] W fun e w' => e = .returned (.tuple #[.agg #[.int .i64 0, .string ⟨#[]⟩, .bool false, .int .i64 0, .int .i64 0], .int .i64 62]) ∧ Adv W w' g s q (lnAt s p) (fsAt s p)) :=
        Lib.hid (fun W hW => ended_no hW hs hlt2 hb2)
      have HX := Lib.hid (EX.out hlt2 hb2)
      clear hend hb2
      go_wp2
      go_region_with (go_at_call 57; refine Calls.mono (EN.out _ ?_) ?_; (exact HRd.out); rintro e w2 ⟨rfl, hadv2⟩; have HA2 := Lib.hid hadv2; clear hadv2; obtain ⟨⟨k0, k1, k2, k3, k4⟩, j0, j1, j2, j3, j4⟩ := Blk.all (BW.out _ HA2.out.1))
      all_goals (
        go_wp2
        refine bodyPost_ret (results_tok rfl rfl rfl (heap_set5 (BW.out _ HA2.out.1))) rfl ?_
        exact tokO_no (E := 62) hg (grown_tr HG.out (grown_tr (grown_drewN (grown_refl _ _) 1) HA2.out.1)) HA2.out.2 HX.out (by omega))
end Go.Proofs.YtlgcmpiobglbbaaDoor
