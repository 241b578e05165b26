/- LI LJ LK. -/
import Derived.Test.YtpkdiciinhjfjaaDoorLG2
import Derived.StillTailTactics
set_option linter.unusedVariables false
set_option linter.unusedSimpArgs false
/- lexis: what reads one token. -/
namespace Go.Proofs.YtpkdiciinhjfjaaDoor
open Go.RowKit Mth

def TokO (w w' : World) (g : Nat) (s : ByteArray) (p : Nat) (e : Ending) : Prop :=
  (∃ k t q n, oneF s p = .tok k t q n ∧ p < n ∧ n ≤ s.size ∧ e = .returned (.tuple #[tokV k t q 0 0, .int .i64 0]) ∧ AdA w w' g s n) ∨
  (∃ E : Nat, oneF s p = .err E ∧ E ≠ 0 ∧ e = .returned (.tuple #[noTok, .int .i64 (E : Int)]) ∧ w.grownBy w' (some g) ∧ ∃ a l f, Rdr w' g s a l f)
theorem simple_nl {c : Nat} (h : bSimple c = true) : c ≠ 10 := by rw [bSimple_iff, bMore_or] at h; omega
theorem run_at {s : ByteArray} {P : Nat → Bool} {a q : Nat} (h : RunTo s P a q) (hp : a < s.size) (h1 : P (cb s a) = true) : a < q := by
  obtain ⟨h2, h3, h4, h5⟩ := h
  rcases Nat.lt_or_ge a q with h6 | h6
  · exact h6
  · obtain rfl : a = q := by omega
    rcases h5 with h5 | h5
    · omega
    · rw [h5] at h1; cases h1

/-- the answer of a method that reads a token, laid bare -/
theorem ended_yes {g : Nat} {s : ByteArray} {a l f k : Nat} {t : ByteArray} {w : World} (h : Rdr w g s a l f) (hs : s.size ≤ 1048576) (ha : a ≤ s.size) (he : a = s.size ∨ bEnd (cb s a) = true) :
    Calls Tryd.prog 59 #[.pointer (some ⟨g, 0, none⟩), .int .i64 (k : Int), .string t] w fun e w' => e = .returned (.tuple #[.agg #[.int .i64 (k : Int), .string t, .bool false, .int .i64 0, .int .i64 0], .int .i64 0]) ∧ Adv w w' g s a l f :=
  (ended_any g s a l f k t w h hs ha).mono fun e w' ⟨h1, h2⟩ => by
    rcases h2 with ⟨h2, _⟩ | ⟨_, h3, h4⟩
    · exact ⟨h2, h1⟩
    · exfalso
      rcases he with he | he
      · omega
      · rw [h4] at he; cases he
theorem ended_no {g : Nat} {s : ByteArray} {a l f k : Nat} {t : ByteArray} {w : World} (h : Rdr w g s a l f) (hs : s.size ≤ 1048576) (ha : a < s.size) (he : bEnd (cb s a) = false) :
    Calls Tryd.prog 59 #[.pointer (some ⟨g, 0, none⟩), .int .i64 (k : Int), .string t] w fun e w' => e = .returned (.tuple #[.agg #[.int .i64 0, .string ⟨#[]⟩, .bool false, .int .i64 0, .int .i64 0], .int .i64 62]) ∧ Adv w w' g s a l f :=
  (ended_any g s a l f k t w h hs (Nat.le_of_lt ha)).mono fun e w' ⟨h1, h2⟩ => by
    rcases h2 with ⟨_, h3⟩ | ⟨h2, _, _⟩
    · exfalso
      rcases h3 with h3 | h3
      · omega
      · rw [he] at h3; cases h3
    · exact ⟨h2, h1⟩
/-- the block of the result: made at the start, it stays while the reader goes on -/
def Blk (w : World) (b : Nat) : Prop := w.heap[b]? = some (Obj.cells #[.int .i64 0, .string ⟨#[]⟩, .bool false, .int .i64 0, .int .i64 0] 34)
theorem Blk.grown {w w' : World} {b g : Nat} (h : Blk w b) (hg : w.grownBy w' (some g)) (hn : b ≠ g) : Blk w' b := (hg.block b (Array.getElem?_eq_some_iff.1 h).1 (fun e => hn (Option.some.inj e))).trans h
theorem Blk.all {w : World} {b : Nat} (h : Blk w b) : (w.cell? ⟨b, 0, none⟩ = some (.int .i64 0) ∧ w.cell? ⟨b, 1, none⟩ = some (.string ⟨#[]⟩) ∧ w.cell? ⟨b, 2, none⟩ = some (.bool false) ∧ w.cell? ⟨b, 3, none⟩ = some (.int .i64 0) ∧ w.cell? ⟨b, 4, none⟩ = some (.int .i64 0)) ∧
    (w.frozen? ⟨b, 0, none⟩ = false ∧ w.frozen? ⟨b, 1, none⟩ = false ∧ w.frozen? ⟨b, 2, none⟩ = false ∧ w.frozen? ⟨b, 3, none⟩ = false ∧ w.frozen? ⟨b, 4, none⟩ = false) := ⟨blk5 h, frz5 h⟩
def zeroTok : Obj := .cells #[.int .i64 0, .string ⟨#[]⟩, .bool false, .int .i64 0, .int .i64 0] 34
theorem grown_from {w w1 : World} {g : Nat} {o : Obj} (h : (w.alloc o).grownBy w1 (some g)) : w.grownBy w1 (some g) := grown_tr (grown_alloc (grown_refl w (some g)) o) h
theorem RdA.nl {s : ByteArray} {p q : Nat} (hpq : p ≤ q) (hn : ∀ i, p ≤ i → i < q → cb s i ≠ 10) {w : World} {g : Nat} (h : Rdr w g s q (lnAt s p) (fsAt s p)) : RdA w g s q := by
  obtain ⟨e1, e2⟩ := ln_run hpq hn
  unfold RdA; rw [e1, e2]; exact h

theorem tokO_yes {w w2 : World} {g : Nat} {s : ByteArray} {p q k : Nat} {t : ByteArray} {b : Bool} (hg : g < w.heap.size) (h : w.grownBy w2 (some g)) (hr : RdA w2 g s q) (ho : oneF s p = .tok k t b q) (hpq : p < q) (hq : q ≤ s.size) :
    TokO w (((((w2.setCell ⟨w.heap.size, 0, none⟩ (.int .i64 (k : Int))).setCell ⟨w.heap.size, 1, none⟩ (.string t)).setCell ⟨w.heap.size, 2, none⟩ (.bool b)).setCell ⟨w.heap.size, 3, none⟩ (.int .i64 0)).setCell ⟨w.heap.size, 4, none⟩ (.int .i64 0)) g s p (.returned (.tuple #[.agg #[.int .i64 (k : Int), .string t, .bool b, .int .i64 0, .int .i64 0], .int .i64 0])) :=
  .inl ⟨k, t, b, q, ho, hpq, hq, rfl, gset5 h (Nat.le_refl _), rset5 hr (by omega)⟩
theorem tokO_no {w w2 : World} {g : Nat} {s : ByteArray} {p E a l f : Nat} (hg : g < w.heap.size) (h : w.grownBy w2 (some g)) (hr : Rdr w2 g s a l f) (ho : oneF s p = .err E) (hE : E ≠ 0) :
    TokO w (((((w2.setCell ⟨w.heap.size, 0, none⟩ (.int .i64 0)).setCell ⟨w.heap.size, 1, none⟩ (.string ⟨#[]⟩)).setCell ⟨w.heap.size, 2, none⟩ (.bool false)).setCell ⟨w.heap.size, 3, none⟩ (.int .i64 0)).setCell ⟨w.heap.size, 4, none⟩ (.int .i64 0)) g s p (.returned (.tuple #[.agg #[.int .i64 0, .string ⟨#[]⟩, .bool false, .int .i64 0, .int .i64 0], .int .i64 (E : Int)])) :=
  .inr ⟨E, ho, hE, rfl, gset5 h (Nat.le_refl _), _, _, _, rset5 hr (by omega)⟩

set_option maxHeartbeats 1000000 in
set_option maxRecDepth 100000 in
theorem word_any (g : Nat) (s : ByteArray) (p : Nat) (w : World) (h : RdA w g s p) (hL : LexW w) (hs : s.size ≤ 1048576) (hp : p < s.size) (h1 : bSimple (cb s p) = true) (h2 : bDig (cb s p) = false) :
    Calls Tryd.prog 46 #[.pointer (some ⟨g, 0, none⟩)] w fun e w' => TokO w w' g s p e := by
  have HR := Lib.hid h
  have hg := h.lt
  have HB := Lib.hid (heap_alloc_new w (Obj.cells #[.int .i64 0, .string ⟨#[]⟩, .bool false, .int .i64 0, .int .i64 0] 34))
  have H1 := Lib.hid h1; have H2 := Lib.hid h2
  have HL := Lib.hid (hL.below ((Below.refl _ _).alloc (Nat.le_refl _) (Obj.cells #[.int .i64 0, .string ⟨#[]⟩, .bool false, .int .i64 0, .int .i64 0] 34)))
  have HR1 := Lib.hid (h.alloc (Obj.cells #[.int .i64 0, .string ⟨#[]⟩, .bool false, .int .i64 0, .int .i64 0] 34))
  have OV := Lib.hid (over_any g s p _ _ 8 _ HR1.out HL.out hs (by omega))
  obtain ⟨c0, c1, c2, c3, f0, f1, f2, f3⟩ := h.cells
  clear h h1 h2 hL
  go_enter Tryd.func46, Tryd.ntmps46
  go_wp2_with fail
  refine OV.out.mono ?_
  rintro e w1 ⟨q, rfl, hrun, hadv⟩
  have HRUN := Lib.hid hrun; have HA := Lib.hid hadv
  obtain ⟨d0, d1, d2, d3, g0, g1, g2, g3⟩ := hadv.2.cells
  have HBW : Hid (w1.heap[w.heap.size]? = some (Obj.cells #[.int .i64 0, .string ⟨#[]⟩, .bool false, .int .i64 0, .int .i64 0] 34)) := Lib.hid ((hadv.1.block _ (by simp) (fun e => by have := Option.some.inj e; omega)).trans HB.out)
  have hpq := hrun.1
  have hqs := hrun.2.1
  have HN : Hid (∀ i, p ≤ i → i < q → bSimple (cb s i) = true) := Lib.hid (fun i i1 i2 => by rw [← kin_simple]; exact hrun.2.2.1 i i1 i2)
  have HLT := Lib.hid (run_at (P := kin 8) hrun hp (by rw [kin_simple]; exact H1.out))
  by_cases hend : q = s.size ∨ bEnd (cb s q) = true
  · have EN : Hid (∀ W, Rdr W g s q (lnAt s p) (fsAt s p) → Calls Tryd.prog 59 #[.pointer (some ⟨g, 0, none⟩), .int .i64 8, .string (s.extract p q)] W fun e w' => e = .returned (.tuple #[.agg #[.int .i64 8, .string (s.extract p q), .bool false, .int .i64 0, .int .i64 0], .int .i64 0]) ∧ Adv W w' g s q (lnAt s p) (fsAt s p)) :=
      Lib.hid (fun W hW => ended_yes hW hs hqs hend)
    have HE := Lib.hid hend
    have BW : Hid (∀ w2, w1.drew.grownBy w2 (some g) → Blk w2 w.heap.size) := Lib.hid (fun w2 h => Blk.grown (w := w1.drew) HBW.out h (by omega))
    clear hrun hadv c0 c1 c2 c3 f0 f1 f2 f3 OV hend
    go_wp2
    go_region_with (go_at_call 59; refine Calls.mono (EN.out _ ?_) ?_; (exact HA.out.2); rintro e w2 ⟨rfl, hadv2⟩; have HA2 := Lib.hid hadv2; clear hadv2; obtain ⟨⟨k0, k1, k2, k3, k4⟩, j0, j1, j2, j3, j4⟩ := Blk.all (BW.out _ HA2.out.1))
    all_goals (
      go_wp2
      refine bodyPost_ret (results_tok rfl rfl rfl (heap_set5 (BW.out _ HA2.out.1))) rfl ?_
      exact tokO_yes (k := 8) hg (grown_tr (grown_from HA.out.1) (grown_tr (grown_drewN (grown_refl _ _) 1) HA2.out.1)) (RdA.nl HRUN.out.1 (fun i i1 i2 => simple_nl (HN.out i i1 i2)) HA2.out.2) (word_tok H2.out HN.out HLT.out hqs HE.out) HLT.out hqs)
  · have hlt2 : q < s.size := by omega
    have hb2 : bEnd (cb s q) = false := by rw [← Bool.not_eq_true]; exact fun h => hend (.inr h)
    have hs2 : bSimple (cb s q) = false := by
      rcases hrun.2.2.2 with h | h
      · omega
      · rw [← kin_simple]; exact h
    have EN : Hid (∀ W, Rdr W g s q (lnAt s p) (fsAt s p) → Calls Tryd.prog 59 #[.pointer (some ⟨g, 0, none⟩), .int .i64 8, .string (s.extract p q)] W fun e w' => e = .returned (.tuple #[.agg #[.int .i64 0, .string ⟨#[]⟩, .bool false, .int .i64 0, .int .i64 0], .int .i64 62]) ∧ Adv W w' g s q (lnAt s p) (fsAt s p)) :=
      Lib.hid (fun W hW => ended_no hW hs hlt2 hb2)
    have BW : Hid (∀ w2, w1.drew.grownBy w2 (some g) → Blk w2 w.heap.size) := Lib.hid (fun w2 h => Blk.grown (w := w1.drew) HBW.out h (by omega))
    have HX := Lib.hid (word_err H2.out HN.out HLT.out hlt2 hs2 hb2)
    clear hrun hadv c0 c1 c2 c3 f0 f1 f2 f3 OV hend hb2 hs2
    go_wp2
    go_region_with (go_at_call 59; refine Calls.mono (EN.out _ ?_) ?_; (exact HA.out.2); rintro e w2 ⟨rfl, hadv2⟩; have HA2 := Lib.hid hadv2; clear hadv2; obtain ⟨⟨k0, k1, k2, k3, k4⟩, j0, j1, j2, j3, j4⟩ := Blk.all (BW.out _ HA2.out.1))
    all_goals (
      go_wp2
      refine bodyPost_ret (results_tok rfl rfl rfl (heap_set5 (BW.out _ HA2.out.1))) rfl ?_
      exact tokO_no (E := 62) hg (grown_tr (grown_from HA.out.1) (grown_tr (grown_drewN (grown_refl _ _) 1) HA2.out.1)) HA2.out.2 HX.out (by omega))
end Go.Proofs.YtpkdiciinhjfjaaDoor

/- lexis: nothing, parenthesis, keyword, number (written by genlj.py). -/
namespace Go.Proofs.YtpkdiciinhjfjaaDoor
open Go.RowKit Mth

theorem one_par {s : ByteArray} {p : Nat} (h : cb s p = 40) : oneF s p = .tok 1 ⟨#[40]⟩ false (p + 1) := by unfold oneF; rw [if_pos h]
theorem one_cls {s : ByteArray} {p : Nat} (h : cb s p = 41) : oneF s p = .tok 2 ⟨#[41]⟩ false (p + 1) := by unfold oneF; rw [if_neg (by omega), if_pos h]
theorem one_nothing {s : ByteArray} {p : Nat} (h : cb s p ≠ 40 ∧ cb s p ≠ 41 ∧ cb s p ≠ 34 ∧ cb s p ≠ 124 ∧ cb s p ≠ 35 ∧ cb s p ≠ 58 ∧ bSimple (cb s p) = false) : oneF s p = .err 60 := by
  obtain ⟨h1, h2, h3, h4, h5, h6, h7⟩ := h
  unfold oneF; rw [if_neg h1, if_neg h2, if_neg h3, if_neg h4, if_pos ⟨h5, h6, h7⟩]
theorem dig_nl {c : Nat} (h : bDig c = true) : c ≠ 10 := by rw [bDig_iff] at h; omega
set_option maxHeartbeats 1000000 in
set_option maxRecDepth 100000 in
theorem nothing_any (g : Nat) (s : ByteArray) (p : Nat) (w : World) (h : RdA w g s p) (hL : LexW w) (hs : s.size ≤ 1048576) (hp : p < s.size) (h1 : oneF s p = .err 60) :
    Calls Tryd.prog 39 #[.pointer (some ⟨g, 0, none⟩)] w fun e w' => TokO w w' g s p e := by
  have HR := Lib.hid h
  have hg := h.lt
  have HB : Hid (Blk (w.alloc (Obj.cells #[.int .i64 0, .string ⟨#[]⟩, .bool false, .int .i64 0, .int .i64 0] 34)) w.heap.size) := Lib.hid (heap_alloc_new w (Obj.cells #[.int .i64 0, .string ⟨#[]⟩, .bool false, .int .i64 0, .int .i64 0] 34))
  have HL := Lib.hid (hL.below ((Below.refl _ _).alloc (Nat.le_refl _) (Obj.cells #[.int .i64 0, .string ⟨#[]⟩, .bool false, .int .i64 0, .int .i64 0] 34)))
  have HR1 := Lib.hid (h.alloc (Obj.cells #[.int .i64 0, .string ⟨#[]⟩, .bool false, .int .i64 0, .int .i64 0] 34))
  obtain ⟨c0, c1, c2, c3, f0, f1, f2, f3⟩ := h.cells
  obtain ⟨⟨b0, b1, b2, b3, b4⟩, b5, b6, b7, b8, b9⟩ := Blk.all HB.out
  have H1 := Lib.hid h1
  clear h hL h1
  go_enter Tryd.func39, Tryd.ntmps39
  go_wp2
  refine bodyPost_ret (results_tok rfl rfl rfl HB.out) rfl ?_
  exact .inr ⟨60, H1.out, by omega, rfl, grown_alloc (grown_refl _ _) _, _, _, _, HR1.out⟩
set_option maxHeartbeats 1000000 in
set_option maxRecDepth 100000 in
theorem parenthesis_any (g : Nat) (s : ByteArray) (p : Nat) (w : World) (h : RdA w g s p) (hL : LexW w) (hs : s.size ≤ 1048576) (hp : p < s.size) (h1 : cb s p = 40 ∨ cb s p = 41) :
    Calls Tryd.prog 40 #[.pointer (some ⟨g, 0, none⟩)] w fun e w' => TokO w w' g s p e := by
  have HR := Lib.hid h
  have hg := h.lt
  have HB : Hid (Blk (w.alloc (Obj.cells #[.int .i64 0, .string ⟨#[]⟩, .bool false, .int .i64 0, .int .i64 0] 34)) w.heap.size) := Lib.hid (heap_alloc_new w (Obj.cells #[.int .i64 0, .string ⟨#[]⟩, .bool false, .int .i64 0, .int .i64 0] 34))
  have HL := Lib.hid (hL.below ((Below.refl _ _).alloc (Nat.le_refl _) (Obj.cells #[.int .i64 0, .string ⟨#[]⟩, .bool false, .int .i64 0, .int .i64 0] 34)))
  have HR1 := Lib.hid (h.alloc (Obj.cells #[.int .i64 0, .string ⟨#[]⟩, .bool false, .int .i64 0, .int .i64 0] 34))
  obtain ⟨c0, c1, c2, c3, f0, f1, f2, f3⟩ := h.cells
  obtain ⟨⟨b0, b1, b2, b3, b4⟩, b5, b6, b7, b8, b9⟩ := Blk.all HB.out
  have H1 := Lib.hid h1
  clear h hL h1
  go_enter Tryd.func40, Tryd.ntmps40
  by_cases hc : cb s p = 40
  · have HC := Lib.hid hc
    have PY := Lib.hid (past_yes g s p _ _ 40 _ HR1.out hs hp hc)
    clear hc
    go_wp2_with fail
    refine PY.out.mono ?_
    rintro e w1 ⟨rfl, hadv⟩
    have HA := Lib.hid hadv
    have HBW : Hid (Blk w1 w.heap.size) := Lib.hid (Blk.grown HB.out hadv.1 (by omega))
    obtain ⟨⟨k0, k1, k2, k3, k4⟩, j0, j1, j2, j3, j4⟩ := Blk.all HBW.out
    clear hadv
    go_wp2
    refine bodyPost_ret (results_tok rfl rfl rfl (heap_set5 HBW.out)) rfl ?_
    exact tokO_yes (k := 1) hg (grown_from HA.out.1) (RdA.nl (p := p) (by omega) (fun i i1 i2 => by rw [show i = p by omega, HC.out]; decide) HA.out.2) (one_par HC.out) (by omega) (by omega)
  · have HC : Hid (cb s p = 41) := Lib.hid (by have := H1.out; omega)
    have PN := Lib.hid (past_not g s p _ _ 40 _ HR1.out hs hp hc)
    clear hc
    go_wp2_with fail
    refine PN.out.mono ?_
    rintro e w1 ⟨rfl, hadv⟩
    have HA := Lib.hid hadv
    have HBW : Hid (Blk w1 w.heap.size) := Lib.hid (Blk.grown HB.out hadv.1 (by omega))
    obtain ⟨⟨k0, k1, k2, k3, k4⟩, j0, j1, j2, j3, j4⟩ := Blk.all HBW.out
    obtain ⟨d0, d1, d2, d3, g0, g1, g2, g3⟩ := hadv.2.cells
    have HBS : Hid (Blk (w1.setCell ⟨g, 1, none⟩ (.int .i64 ((p + 1 : Nat) : Int))) w.heap.size) := Lib.hid ((Below.heap_setCell w1 ⟨g, 1, none⟩ _ w.heap.size (by show w.heap.size ≠ g; omega)).trans HBW.out)
    clear hadv
    go_wp2
    refine bodyPost_ret (results_tok rfl rfl rfl (heap_set5 HBS.out)) rfl ?_
    exact tokO_yes (k := 2) hg (grown_set (grown_from HA.out.1) _) (RdA.nl (p := p) (q := p + 1) (by omega) (fun i i1 i2 => by rw [show i = p by omega, HC.out]; decide) HA.out.2.setAt) (one_cls HC.out) (by omega) (by omega)
theorem blk_new1 (w : World) (g : Nat) (v : Value) : Blk ((w.setCell ⟨g, 1, none⟩ v).alloc (Obj.cells #[.int .i64 0, .string ⟨#[]⟩, .bool false, .int .i64 0, .int .i64 0] 34)) w.heap.size := by
  have h := heap_alloc_new (w.setCell ⟨g, 1, none⟩ v) (Obj.cells #[.int .i64 0, .string ⟨#[]⟩, .bool false, .int .i64 0, .int .i64 0] 34)
  have e : (w.setCell ⟨g, 1, none⟩ v).heap.size = w.heap.size := by simp [World.setCell]
  rw [e] at h; exact h
set_option maxHeartbeats 1000000 in
set_option maxRecDepth 100000 in
theorem keyword_any (g : Nat) (s : ByteArray) (p : Nat) (w : World) (h : RdA w g s p) (hL : LexW w) (hs : s.size ≤ 1048576) (hp : p < s.size) (h1 : cb s p = 58) :
    Calls Tryd.prog 45 #[.pointer (some ⟨g, 0, none⟩)] w fun e w' => TokO w w' g s p e := by
  have HR := Lib.hid h
  have hg := h.lt
  have HB : Hid (Blk (w.alloc (Obj.cells #[.int .i64 0, .string ⟨#[]⟩, .bool false, .int .i64 0, .int .i64 0] 34)) w.heap.size) := Lib.hid (heap_alloc_new w (Obj.cells #[.int .i64 0, .string ⟨#[]⟩, .bool false, .int .i64 0, .int .i64 0] 34))
  have HL := Lib.hid (hL.below ((Below.refl _ _).alloc (Nat.le_refl _) (Obj.cells #[.int .i64 0, .string ⟨#[]⟩, .bool false, .int .i64 0, .int .i64 0] 34)))
  have HR1 := Lib.hid (h.alloc (Obj.cells #[.int .i64 0, .string ⟨#[]⟩, .bool false, .int .i64 0, .int .i64 0] 34))
  obtain ⟨c0, c1, c2, c3, f0, f1, f2, f3⟩ := h.cells
  obtain ⟨⟨b0, b1, b2, b3, b4⟩, b5, b6, b7, b8, b9⟩ := Blk.all HB.out
  have HL0 := Lib.hid hL
  have H1 := Lib.hid h1
  clear h hL h1
  go_enter Tryd.func45, Tryd.ntmps45
  have ea : ((p + 1 : Nat) : Int) = (p : Int) + 1 := by omega
  have HRa : Hid (Rdr ((w.setCell ⟨g, 1, none⟩ (.int .i64 ((p : Int) + 1))).alloc (Obj.cells #[.int .i64 0, .string ⟨#[]⟩, .bool false, .int .i64 0, .int .i64 0] 34)) g s (p + 1) (lnAt s p) (fsAt s p)) := Lib.hid (by have h := (HR.out.setAt (a' := p + 1)).alloc (Obj.cells #[.int .i64 0, .string ⟨#[]⟩, .bool false, .int .i64 0, .int .i64 0] 34); rwa [ea] at h)
  have HLa : Hid (LexW ((w.setCell ⟨g, 1, none⟩ (.int .i64 ((p : Int) + 1))).alloc (Obj.cells #[.int .i64 0, .string ⟨#[]⟩, .bool false, .int .i64 0, .int .i64 0] 34))) := Lib.hid ((HL0.out.grown HR.out (grown_set (grown_refl _ _) _)).below ((Below.refl _ _).alloc (Nat.le_refl _) _))
  have HBa : Hid (Blk ((w.setCell ⟨g, 1, none⟩ (.int .i64 ((p : Int) + 1))).alloc (Obj.cells #[.int .i64 0, .string ⟨#[]⟩, .bool false, .int .i64 0, .int .i64 0] 34)) w.heap.size) := Lib.hid (blk_new1 w g _)
  have HGa : Hid (w.grownBy ((w.setCell ⟨g, 1, none⟩ (.int .i64 ((p : Int) + 1))).alloc (Obj.cells #[.int .i64 0, .string ⟨#[]⟩, .bool false, .int .i64 0, .int .i64 0] 34)) (some g)) := Lib.hid (grown_alloc (grown_set (grown_refl _ _) _) _)
  clear ea
  have OV := Lib.hid (over_any g s (p + 1) _ _ 8 _ HRa.out HLa.out hs (by omega))
  go_wp2_with fail
  refine OV.out.mono ?_
  rintro e w1 ⟨q, rfl, hrun, hadv⟩
  have HRd := Lib.hid hadv.2
  have HG : Hid (w.grownBy w1 (some g)) := Lib.hid (grown_tr HGa.out hadv.1)
  have HBW : Hid (Blk w1 w.heap.size) := Lib.hid (Blk.grown HBa.out hadv.1 (by omega))
  obtain ⟨⟨m0, m1, m2, m3, m4⟩, n0, n1, n2, n3, n4⟩ := Blk.all HBW.out
  obtain ⟨d0, d1, d2, d3, g0, g1, g2, g3⟩ := hadv.2.cells
  have hpq := hrun.1
  have hqs := hrun.2.1
  have HN : Hid (allP s bSimple (p + 1) q) := Lib.hid (fun i i1 i2 => by rw [← kin_simple]; exact hrun.2.2.1 i (by omega) i2)
  have HE : Hid (q = s.size ∨ bSimple (cb s q) = false) := Lib.hid (by rw [← kin_simple]; exact hrun.2.2.2)
  have HLT : Hid (p < q) := Lib.hid (by omega)
  have HNL : Hid (∀ i, p ≤ i → i < q → cb s i ≠ 10) := Lib.hid (fun i i1 i2 => by
    by_cases e : i = p
    · rw [e, H1.out]; decide
    · exact simple_nl (HN.out i (by omega) i2))
  clear hrun hadv OV c0 c1 c2 c3 f0 f1 f2 f3 b0 b1 b2 b3 b4 b5 b6 b7 b8 b9
  by_cases hq0 : q = p + 1
  · have HX := Lib.hid (key_err H1.out hp HN.out (by omega) (.inl ⟨hq0, HE.out⟩))
    have ez : (((q - (p + 1) : Nat) : Int) == 0) = true := by rw [beq_iff_eq]; omega
    clear hq0
    go_wp2
    refine bodyPost_ret (results_tok rfl rfl rfl (heap_set5 HBW.out)) rfl ?_
    exact tokO_no (E := 62) hg HG.out HRd.out HX.out (by omega)
  · have ez : (((q - (p + 1) : Nat) : Int) == 0) = false := ne_i (k := 0) (by omega)
    have EY : Hid (q = s.size ∨ bEnd (cb s q) = true → oneF s p = .tok 9 (s.extract (p + 1) q) false q) := Lib.hid (fun he => key_tok H1.out HN.out (by omega) hqs he)
    have EX : Hid (q < s.size → bEnd (cb s q) = false → oneF s p = .err 62) := Lib.hid (fun h3 h4 => key_err H1.out hp HN.out (by omega) (.inr ⟨h3, HE.out.resolve_left (by omega), h4⟩))
    clear hq0
    have BW : Hid (∀ w2, w1.drew.grownBy w2 (some g) → Blk w2 w.heap.size) := Lib.hid (fun w2 h => Blk.grown (w := w1.drew) HBW.out h (by omega))
    by_cases hend : q = s.size ∨ bEnd (cb s q) = true
    · have EN : Hid (∀ W, Rdr W g s q (lnAt s p) (fsAt s p) → Calls Tryd.prog 59 #[.pointer (some ⟨g, 0, none⟩), .int .i64 9, .string (s.extract (p + 1) q)] W fun e w' => e = .returned (.tuple #[.agg #[.int .i64 9, .string (s.extract (p + 1) q), .bool false, .int .i64 0, .int .i64 0], .int .i64 0]) ∧ Adv W w' g s q (lnAt s p) (fsAt s p)) :=
        Lib.hid (fun W hW => ended_yes hW hs hqs hend)
      have HO := Lib.hid (EY.out hend)
      clear hend
      go_wp2
      go_region_with (go_at_call 59; refine Calls.mono (EN.out _ ?_) ?_; (exact HRd.out); rintro e w2 ⟨rfl, hadv2⟩; have HA2 := Lib.hid hadv2; clear hadv2; obtain ⟨⟨k0, k1, k2, k3, k4⟩, j0, j1, j2, j3, j4⟩ := Blk.all (BW.out _ HA2.out.1))
      all_goals (
        go_wp2
        refine bodyPost_ret (results_tok rfl rfl rfl (heap_set5 (BW.out _ HA2.out.1))) rfl ?_
        exact tokO_yes (k := 9) hg (grown_tr HG.out (grown_tr (grown_drewN (grown_refl _ _) 1) HA2.out.1)) (RdA.nl (Nat.le_of_lt HLT.out) HNL.out HA2.out.2) HO.out HLT.out hqs)
    · have hlt2 : q < s.size := by omega
      have hb2 : bEnd (cb s q) = false := by rw [← Bool.not_eq_true]; exact fun h => hend (.inr h)
      have EN : Hid (∀ W, Rdr W g s q (lnAt s p) (fsAt s p) → Calls Tryd.prog 59 #[.pointer (some ⟨g, 0, none⟩), .int .i64 9, .string (s.extract (p + 1) q)] W fun e w' => e = .returned (.tuple #[.agg #[.int .i64 0, .string ⟨#[]⟩, .bool false, .int .i64 0, .int .i64 0], .int .i64 62]) ∧ Adv W w' g s q (lnAt s p) (fsAt s p)) :=
        Lib.hid (fun W hW => ended_no hW hs hlt2 hb2)
      have HX := Lib.hid (EX.out hlt2 hb2)
      clear hend hb2
      go_wp2
      go_region_with (go_at_call 59; refine Calls.mono (EN.out _ ?_) ?_; (exact HRd.out); rintro e w2 ⟨rfl, hadv2⟩; have HA2 := Lib.hid hadv2; clear hadv2; obtain ⟨⟨k0, k1, k2, k3, k4⟩, j0, j1, j2, j3, j4⟩ := Blk.all (BW.out _ HA2.out.1))
      all_goals (
        go_wp2
        refine bodyPost_ret (results_tok rfl rfl rfl (heap_set5 (BW.out _ HA2.out.1))) rfl ?_
        exact tokO_no (E := 62) hg (grown_tr HG.out (grown_tr (grown_drewN (grown_refl _ _) 1) HA2.out.1)) HA2.out.2 HX.out (by omega))
end Go.Proofs.YtpkdiciinhjfjaaDoor

/- lexis: number (written by genlk.py). -/
namespace Go.Proofs.YtpkdiciinhjfjaaDoor
open Go.RowKit Mth

set_option maxHeartbeats 4000000 in
set_option maxRecDepth 100000 in
theorem number_any (g : Nat) (s : ByteArray) (p : Nat) (w : World) (h : RdA w g s p) (hL : LexW w) (hs : s.size ≤ 1048576) (hp : p < s.size) (h1 : bDig (cb s p) = true) :
    Calls Tryd.prog 41 #[.pointer (some ⟨g, 0, none⟩)] w fun e w' => TokO w w' g s p e := by
  have HR := Lib.hid h
  have hg := h.lt
  have HB : Hid (Blk (w.alloc (Obj.cells #[.int .i64 0, .string ⟨#[]⟩, .bool false, .int .i64 0, .int .i64 0] 34)) w.heap.size) := Lib.hid (heap_alloc_new w (Obj.cells #[.int .i64 0, .string ⟨#[]⟩, .bool false, .int .i64 0, .int .i64 0] 34))
  have HL := Lib.hid (hL.below ((Below.refl _ _).alloc (Nat.le_refl _) (Obj.cells #[.int .i64 0, .string ⟨#[]⟩, .bool false, .int .i64 0, .int .i64 0] 34)))
  have HR1 := Lib.hid (h.alloc (Obj.cells #[.int .i64 0, .string ⟨#[]⟩, .bool false, .int .i64 0, .int .i64 0] 34))
  obtain ⟨c0, c1, c2, c3, f0, f1, f2, f3⟩ := h.cells
  obtain ⟨⟨b0, b1, b2, b3, b4⟩, b5, b6, b7, b8, b9⟩ := Blk.all HB.out
  have H1 := Lib.hid h1
  clear h hL h1
  go_enter Tryd.func41, Tryd.ntmps41
  by_cases hc : cb s p = 48
  · have HC := Lib.hid hc
    obtain ⟨q1, hq1e⟩ : ∃ a, a = p + 1 := ⟨_, rfl⟩
    have PY : Hid (Calls Tryd.prog 57 #[.pointer (some ⟨g, 0, none⟩), .int .u8 (48 : Int)] (w.alloc (Obj.cells #[.int .i64 0, .string ⟨#[]⟩, .bool false, .int .i64 0, .int .i64 0] 34)) fun e w' => e = .returned (.bool true) ∧ Adv (w.alloc (Obj.cells #[.int .i64 0, .string ⟨#[]⟩, .bool false, .int .i64 0, .int .i64 0] 34)) w' g s q1 (lnAt s p) (fsAt s p)) := Lib.hid (by rw [hq1e]; exact past_yes g s p _ _ 48 _ HR1.out hs hp hc)
    clear hc
    go_wp2_with fail
    refine PY.out.mono ?_
    rintro e u1 ⟨rfl, hadv⟩
    have HRdu1 := Lib.hid hadv.2
    have HGu1 : Hid (w.grownBy u1 (some g)) := Lib.hid (grown_tr (grown_alloc (grown_refl w (some g)) _) hadv.1)
    have HBu1 : Hid (Blk u1 w.heap.size) := Lib.hid (Blk.grown HB.out hadv.1 (by omega))
    obtain ⟨⟨m0u1, m1u1, m2u1, m3u1, m4u1⟩, n0u1, n1u1, n2u1, n3u1, n4u1⟩ := Blk.all HBu1.out
    obtain ⟨d0u1, d1u1, d2u1, d3u1, g0u1, g1u1, g2u1, g3u1⟩ := hadv.2.cells
    have HLu1 := Lib.hid (HL.out.grown HR1.out hadv.1)
    clear hadv c0 c1 c2 c3 f0 f1 f2 f3 b0 b1 b2 b3 b4 b5 b6 b7 b8 b9
    have hq1 : q1 ≤ s.size := by omega
    have HNUM : Hid (isNum s p q1) := Lib.hid ⟨by omega, fun i i1 i2 => by rw [show i = p by omega]; exact H1.out, .inr hq1e⟩
    have HX0 : Hid (q1 < s.size → (cb s p = 48 ∧ q1 = p + 1) ∨ (cb s p ≠ 48 ∧ bDig (cb s q1) = false)) := Lib.hid (fun _ => .inl ⟨HC.out, hq1e⟩)
    clear hq1e
    by_cases hd : q1 < s.size ∧ cb s q1 = 46
    · have HD := Lib.hid hd
      have hq1s := hd.1
      obtain ⟨a1, ha1⟩ : ∃ a, a = q1 + 1 := ⟨_, rfl⟩
      have PY : Hid (Calls Tryd.prog 57 #[.pointer (some ⟨g, 0, none⟩), .int .u8 (46 : Int)] u1 fun e w' => e = .returned (.bool true) ∧ Adv u1 w' g s a1 (lnAt s p) (fsAt s p)) := Lib.hid (by rw [ha1]; exact past_yes g s q1 _ _ 46 _ HRdu1.out hs hd.1 hd.2)
      clear hd
      go_wp2_with fail
      refine PY.out.mono ?_
      rintro e u2 ⟨rfl, hadv2⟩
      have HRdu2 := Lib.hid hadv2.2
      have HGu2 : Hid (w.grownBy u2 (some g)) := Lib.hid (grown_tr HGu1.out hadv2.1)
      have HBu2 : Hid (Blk u2 w.heap.size) := Lib.hid (Blk.grown HBu1.out hadv2.1 (by omega))
      obtain ⟨⟨m0u2, m1u2, m2u2, m3u2, m4u2⟩, n0u2, n1u2, n2u2, n3u2, n4u2⟩ := Blk.all HBu2.out
      obtain ⟨d0u2, d1u2, d2u2, d3u2, g0u2, g1u2, g2u2, g3u2⟩ := hadv2.2.cells
      have HLu2 := Lib.hid (HLu1.out.grown HRdu1.out hadv2.1)
      clear hadv2
      clear m0u1 m1u1 m2u1 m3u1 m4u1 n0u1 n1u1 n2u1 n3u1 n4u1 d0u1 d1u1 d2u1 d3u1 g0u1 g1u1 g2u1 g3u1
      have OV := Lib.hid (over_any g s a1 _ _ 2 _ HRdu2.out HLu2.out hs (by omega))
      go_wp2_with fail
      refine OV.out.mono ?_
      rintro e w1 ⟨q, rfl, hrun, hadv3⟩
      have HRdw1 := Lib.hid hadv3.2
      have HGw1 : Hid (w.grownBy w1 (some g)) := Lib.hid (grown_tr HGu2.out hadv3.1)
      have HBw1 : Hid (Blk w1 w.heap.size) := Lib.hid (Blk.grown HBu2.out hadv3.1 (by omega))
      obtain ⟨⟨m0w1, m1w1, m2w1, m3w1, m4w1⟩, n0w1, n1w1, n2w1, n3w1, n4w1⟩ := Blk.all HBw1.out
      obtain ⟨d0w1, d1w1, d2w1, d3w1, g0w1, g1w1, g2w1, g3w1⟩ := hadv3.2.cells
      clear hadv3
      clear m0u2 m1u2 m2u2 m3u2 m4u2 n0u2 n1u2 n2u2 n3u2 n4u2 d0u2 d1u2 d2u2 d3u2 g0u2 g1u2 g2u2 g3u2
      have hpq := hrun.1
      have hqs := hrun.2.1
      have HN2 : Hid (allP s bDig (q1 + 1) q) := Lib.hid (fun i i1 i2 => by rw [← kin_dig]; exact hrun.2.2.1 i (by omega) i2)
      have HE : Hid (q = s.size ∨ bDig (cb s q) = false) := Lib.hid (by rw [← kin_dig]; exact hrun.2.2.2)
      have hp1 := HNUM.out.1
      have HLT : Hid (p < q) := Lib.hid (by omega)
      have HNL : Hid (∀ i, p ≤ i → i < q → cb s i ≠ 10) := Lib.hid (fun i i1 i2 => by
        rcases (show i < q1 ∨ i = q1 ∨ q1 + 1 ≤ i by omega) with h9 | h9 | h9
        · exact dig_nl (HNUM.out.2.1 i i1 h9)
        · rw [h9, HD.out.2]; decide
        · exact dig_nl (HN2.out i h9 i2))
      clear hrun
      by_cases hq0 : q = a1
      · have HX := Lib.hid (dec_err HNUM.out HD.out.2 hq1s HN2.out (by omega) (.inl ⟨by omega, HE.out⟩))
        have ez : (((q - a1 : Nat) : Int) == 0) = true := by rw [beq_iff_eq]; omega
        clear hq0
        go_wp2
        refine bodyPost_ret (results_tok rfl rfl rfl (heap_set5 HBw1.out)) rfl ?_
        exact tokO_no (E := 62) hg HGw1.out HRdw1.out HX.out (by omega)
      · have ez : (((q - a1 : Nat) : Int) == 0) = false := ne_i (k := 0) (by omega)
        have EY : Hid (q = s.size ∨ bEnd (cb s q) = true → oneF s p = .tok 4 (s.extract p q) false q) := Lib.hid (fun he => dec_tok HNUM.out HD.out.2 HN2.out (by omega) hqs he)
        have EX : Hid (q < s.size → bEnd (cb s q) = false → oneF s p = .err 62) := Lib.hid (fun h3 h4 => dec_err HNUM.out HD.out.2 hq1s HN2.out (by omega) (.inr ⟨h3, HE.out.resolve_left (by omega), h4⟩))
        clear hq0
        have BW : Hid (∀ w2, w1.drew.grownBy w2 (some g) → Blk w2 w.heap.size) := Lib.hid (fun w2 h => Blk.grown (w := w1.drew) HBw1.out h (by omega))
        by_cases hend : q = s.size ∨ bEnd (cb s q) = true
        · have EN : Hid (∀ W, Rdr W g s q (lnAt s p) (fsAt s p) → Calls Tryd.prog 59 #[.pointer (some ⟨g, 0, none⟩), .int .i64 4, .string (s.extract p q)] W fun e w' => e = .returned (.tuple #[.agg #[.int .i64 4, .string (s.extract p q), .bool false, .int .i64 0, .int .i64 0], .int .i64 0]) ∧ Adv W w' g s q (lnAt s p) (fsAt s p)) :=
            Lib.hid (fun W hW => ended_yes hW hs hqs hend)
          have HO := Lib.hid (EY.out hend)
          clear hend
          go_wp2
          go_region_with (go_at_call 59; refine Calls.mono (EN.out _ ?_) ?_; (exact HRdw1.out); rintro e w2 ⟨rfl, hadv2⟩; have HA2 := Lib.hid hadv2; clear hadv2; obtain ⟨⟨k0, k1, k2, k3, k4⟩, j0, j1, j2, j3, j4⟩ := Blk.all (BW.out _ HA2.out.1))
          all_goals (
            go_wp2
            refine bodyPost_ret (results_tok rfl rfl rfl (heap_set5 (BW.out _ HA2.out.1))) rfl ?_
            exact tokO_yes (k := 4) hg (grown_tr HGw1.out (grown_tr (grown_drewN (grown_refl _ _) 1) HA2.out.1)) (RdA.nl (Nat.le_of_lt HLT.out) HNL.out HA2.out.2) HO.out HLT.out hqs)
        · have hlt2 : q < s.size := by omega
          have hb2 : bEnd (cb s q) = false := by rw [← Bool.not_eq_true]; exact fun h => hend (.inr h)
          have EN : Hid (∀ W, Rdr W g s q (lnAt s p) (fsAt s p) → Calls Tryd.prog 59 #[.pointer (some ⟨g, 0, none⟩), .int .i64 4, .string (s.extract p q)] W fun e w' => e = .returned (.tuple #[.agg #[.int .i64 0, .string ⟨#[]⟩, .bool false, .int .i64 0, .int .i64 0], .int .i64 62]) ∧ Adv W w' g s q (lnAt s p) (fsAt s p)) :=
            Lib.hid (fun W hW => ended_no hW hs hlt2 hb2)
          have HX := Lib.hid (EX.out hlt2 hb2)
          clear hend hb2
          go_wp2
          go_region_with (go_at_call 59; refine Calls.mono (EN.out _ ?_) ?_; (exact HRdw1.out); rintro e w2 ⟨rfl, hadv2⟩; have HA2 := Lib.hid hadv2; clear hadv2; obtain ⟨⟨k0, k1, k2, k3, k4⟩, j0, j1, j2, j3, j4⟩ := Blk.all (BW.out _ HA2.out.1))
          all_goals (
            go_wp2
            refine bodyPost_ret (results_tok rfl rfl rfl (heap_set5 (BW.out _ HA2.out.1))) rfl ?_
            exact tokO_no (E := 62) hg (grown_tr HGw1.out (grown_tr (grown_drewN (grown_refl _ _) 1) HA2.out.1)) HA2.out.2 HX.out (by omega))

    · have HD := Lib.hid hd
      have PN : Hid (Calls Tryd.prog 57 #[.pointer (some ⟨g, 0, none⟩), .int .u8 (46 : Int)] u1 fun e w' => e = .returned (.bool false) ∧ Adv u1 w' g s q1 (lnAt s p) (fsAt s p)) := Lib.hid (by
        by_cases h1 : q1 < s.size
        · exact past_not g s q1 _ _ 46 _ HRdu1.out hs h1 (fun e => HD.out ⟨h1, e⟩)
        · obtain rfl : q1 = s.size := by omega
          exact past_end g s _ _ 46 _ HRdu1.out hs)
      clear hd
      go_wp2_with fail
      refine PN.out.mono ?_
      rintro e w1 ⟨rfl, hadv2⟩
      have HRdw1 := Lib.hid hadv2.2
      have HGw1 : Hid (w.grownBy w1 (some g)) := Lib.hid (grown_tr HGu1.out hadv2.1)
      have HBw1 : Hid (Blk w1 w.heap.size) := Lib.hid (Blk.grown HBu1.out hadv2.1 (by omega))
      obtain ⟨⟨m0w1, m1w1, m2w1, m3w1, m4w1⟩, n0w1, n1w1, n2w1, n3w1, n4w1⟩ := Blk.all HBw1.out
      obtain ⟨d0w1, d1w1, d2w1, d3w1, g0w1, g1w1, g2w1, g3w1⟩ := hadv2.2.cells
      clear hadv2
      clear m0u1 m1u1 m2u1 m3u1 m4u1 n0u1 n1u1 n2u1 n3u1 n4u1 d0u1 d1u1 d2u1 d3u1 g0u1 g1u1 g2u1 g3u1
      obtain ⟨q, hqq⟩ : ∃ q, q = q1 := ⟨_, rfl⟩
      subst hqq
      have hqs := hq1
      have HLT : Hid (p < q) := Lib.hid HNUM.out.1
      have hpq : p ≤ q := Nat.le_of_lt HLT.out
      have HNL : Hid (∀ i, p ≤ i → i < q → cb s i ≠ 10) := Lib.hid (fun i i1 i2 => dig_nl (HNUM.out.2.1 i i1 i2))
      have EY : Hid (q = s.size ∨ bEnd (cb s q) = true → oneF s p = .tok 3 (s.extract p q) false q) := Lib.hid (fun he => num_tok HNUM.out hqs he)
      have EX : Hid (q < s.size → bEnd (cb s q) = false → oneF s p = .err 62) := Lib.hid (fun h3 h4 => num_err HNUM.out h3 h4 (fun e => HD.out ⟨h3, e⟩) (HX0.out h3))
      have BW : Hid (∀ w2, w1.drew.grownBy w2 (some g) → Blk w2 w.heap.size) := Lib.hid (fun w2 h => Blk.grown (w := w1.drew) HBw1.out h (by omega))
      by_cases hend : q = s.size ∨ bEnd (cb s q) = true
      · have EN : Hid (∀ W, Rdr W g s q (lnAt s p) (fsAt s p) → Calls Tryd.prog 59 #[.pointer (some ⟨g, 0, none⟩), .int .i64 3, .string (s.extract p q)] W fun e w' => e = .returned (.tuple #[.agg #[.int .i64 3, .string (s.extract p q), .bool false, .int .i64 0, .int .i64 0], .int .i64 0]) ∧ Adv W w' g s q (lnAt s p) (fsAt s p)) :=
          Lib.hid (fun W hW => ended_yes hW hs hqs hend)
        have HO := Lib.hid (EY.out hend)
        clear hend
        go_wp2
        go_region_with (go_at_call 59; refine Calls.mono (EN.out _ ?_) ?_; (exact HRdw1.out); rintro e w2 ⟨rfl, hadv2⟩; have HA2 := Lib.hid hadv2; clear hadv2; obtain ⟨⟨k0, k1, k2, k3, k4⟩, j0, j1, j2, j3, j4⟩ := Blk.all (BW.out _ HA2.out.1))
        all_goals (
          go_wp2
          refine bodyPost_ret (results_tok rfl rfl rfl (heap_set5 (BW.out _ HA2.out.1))) rfl ?_
          exact tokO_yes (k := 3) hg (grown_tr HGw1.out (grown_tr (grown_drewN (grown_refl _ _) 1) HA2.out.1)) (RdA.nl (Nat.le_of_lt HLT.out) HNL.out HA2.out.2) HO.out HLT.out hqs)
      · have hlt2 : q < s.size := by omega
        have hb2 : bEnd (cb s q) = false := by rw [← Bool.not_eq_true]; exact fun h => hend (.inr h)
        have EN : Hid (∀ W, Rdr W g s q (lnAt s p) (fsAt s p) → Calls Tryd.prog 59 #[.pointer (some ⟨g, 0, none⟩), .int .i64 3, .string (s.extract p q)] W fun e w' => e = .returned (.tuple #[.agg #[.int .i64 0, .string ⟨#[]⟩, .bool false, .int .i64 0, .int .i64 0], .int .i64 62]) ∧ Adv W w' g s q (lnAt s p) (fsAt s p)) :=
          Lib.hid (fun W hW => ended_no hW hs hlt2 hb2)
        have HX := Lib.hid (EX.out hlt2 hb2)
        clear hend hb2
        go_wp2
        go_region_with (go_at_call 59; refine Calls.mono (EN.out _ ?_) ?_; (exact HRdw1.out); rintro e w2 ⟨rfl, hadv2⟩; have HA2 := Lib.hid hadv2; clear hadv2; obtain ⟨⟨k0, k1, k2, k3, k4⟩, j0, j1, j2, j3, j4⟩ := Blk.all (BW.out _ HA2.out.1))
        all_goals (
          go_wp2
          refine bodyPost_ret (results_tok rfl rfl rfl (heap_set5 (BW.out _ HA2.out.1))) rfl ?_
          exact tokO_no (E := 62) hg (grown_tr HGw1.out (grown_tr (grown_drewN (grown_refl _ _) 1) HA2.out.1)) HA2.out.2 HX.out (by omega))
  · have HC := Lib.hid hc
    have PN := Lib.hid (past_not g s p _ _ 48 _ HR1.out hs hp hc)
    clear hc
    go_wp2_with fail
    refine PN.out.mono ?_
    rintro e u0 ⟨rfl, hadv⟩
    have HRdu0 := Lib.hid hadv.2
    have HGu0 : Hid (w.grownBy u0 (some g)) := Lib.hid (grown_tr (grown_alloc (grown_refl w (some g)) _) hadv.1)
    have HBu0 : Hid (Blk u0 w.heap.size) := Lib.hid (Blk.grown HB.out hadv.1 (by omega))
    obtain ⟨⟨m0u0, m1u0, m2u0, m3u0, m4u0⟩, n0u0, n1u0, n2u0, n3u0, n4u0⟩ := Blk.all HBu0.out
    obtain ⟨d0u0, d1u0, d2u0, d3u0, g0u0, g1u0, g2u0, g3u0⟩ := hadv.2.cells
    have HLu0 := Lib.hid (HL.out.grown HR1.out hadv.1)
    clear hadv c0 c1 c2 c3 f0 f1 f2 f3 b0 b1 b2 b3 b4 b5 b6 b7 b8 b9
    have OV := Lib.hid (over_any g s p _ _ 2 _ HRdu0.out HLu0.out hs (by omega))
    go_wp2_with fail
    refine OV.out.mono ?_
    rintro e u1 ⟨q1, rfl, hrun, hadv⟩
    have HRdu1 := Lib.hid hadv.2
    have HGu1 : Hid (w.grownBy u1 (some g)) := Lib.hid (grown_tr HGu0.out hadv.1)
    have HBu1 : Hid (Blk u1 w.heap.size) := Lib.hid (Blk.grown HBu0.out hadv.1 (by omega))
    obtain ⟨⟨m0u1, m1u1, m2u1, m3u1, m4u1⟩, n0u1, n1u1, n2u1, n3u1, n4u1⟩ := Blk.all HBu1.out
    obtain ⟨d0u1, d1u1, d2u1, d3u1, g0u1, g1u1, g2u1, g3u1⟩ := hadv.2.cells
    have HLu1 := Lib.hid (HLu0.out.grown HRdu0.out hadv.1)
    clear hadv
    clear m0u0 m1u0 m2u0 m3u0 m4u0 n0u0 n1u0 n2u0 n3u0 n4u0 d0u0 d1u0 d2u0 d3u0 g0u0 g1u0 g2u0 g3u0
    have hq1 := hrun.2.1
    have HNUM : Hid (isNum s p q1) := Lib.hid ⟨run_at (P := kin 2) hrun hp (by rw [kin_dig]; exact H1.out), fun i i1 i2 => by rw [← kin_dig]; exact hrun.2.2.1 i i1 i2, .inl HC.out⟩
    have HX0 : Hid (q1 < s.size → (cb s p = 48 ∧ q1 = p + 1) ∨ (cb s p ≠ 48 ∧ bDig (cb s q1) = false)) := Lib.hid (fun h3 => .inr ⟨HC.out, by
      rcases hrun.2.2.2 with h | h
      · omega
      · rw [← kin_dig]; exact h⟩)
    clear hrun
    by_cases hd : q1 < s.size ∧ cb s q1 = 46
    · have HD := Lib.hid hd
      have hq1s := hd.1
      obtain ⟨a1, ha1⟩ : ∃ a, a = q1 + 1 := ⟨_, rfl⟩
      have PY : Hid (Calls Tryd.prog 57 #[.pointer (some ⟨g, 0, none⟩), .int .u8 (46 : Int)] u1 fun e w' => e = .returned (.bool true) ∧ Adv u1 w' g s a1 (lnAt s p) (fsAt s p)) := Lib.hid (by rw [ha1]; exact past_yes g s q1 _ _ 46 _ HRdu1.out hs hd.1 hd.2)
      clear hd
      go_wp2_with fail
      refine PY.out.mono ?_
      rintro e u2 ⟨rfl, hadv2⟩
      have HRdu2 := Lib.hid hadv2.2
      have HGu2 : Hid (w.grownBy u2 (some g)) := Lib.hid (grown_tr HGu1.out hadv2.1)
      have HBu2 : Hid (Blk u2 w.heap.size) := Lib.hid (Blk.grown HBu1.out hadv2.1 (by omega))
      obtain ⟨⟨m0u2, m1u2, m2u2, m3u2, m4u2⟩, n0u2, n1u2, n2u2, n3u2, n4u2⟩ := Blk.all HBu2.out
      obtain ⟨d0u2, d1u2, d2u2, d3u2, g0u2, g1u2, g2u2, g3u2⟩ := hadv2.2.cells
      have HLu2 := Lib.hid (HLu1.out.grown HRdu1.out hadv2.1)
      clear hadv2
      clear m0u1 m1u1 m2u1 m3u1 m4u1 n0u1 n1u1 n2u1 n3u1 n4u1 d0u1 d1u1 d2u1 d3u1 g0u1 g1u1 g2u1 g3u1
      have OV := Lib.hid (over_any g s a1 _ _ 2 _ HRdu2.out HLu2.out hs (by omega))
      go_wp2_with fail
      refine OV.out.mono ?_
      rintro e w1 ⟨q, rfl, hrun, hadv3⟩
      have HRdw1 := Lib.hid hadv3.2
      have HGw1 : Hid (w.grownBy w1 (some g)) := Lib.hid (grown_tr HGu2.out hadv3.1)
      have HBw1 : Hid (Blk w1 w.heap.size) := Lib.hid (Blk.grown HBu2.out hadv3.1 (by omega))
      obtain ⟨⟨m0w1, m1w1, m2w1, m3w1, m4w1⟩, n0w1, n1w1, n2w1, n3w1, n4w1⟩ := Blk.all HBw1.out
      obtain ⟨d0w1, d1w1, d2w1, d3w1, g0w1, g1w1, g2w1, g3w1⟩ := hadv3.2.cells
      clear hadv3
      clear m0u2 m1u2 m2u2 m3u2 m4u2 n0u2 n1u2 n2u2 n3u2 n4u2 d0u2 d1u2 d2u2 d3u2 g0u2 g1u2 g2u2 g3u2
      have hpq := hrun.1
      have hqs := hrun.2.1
      have HN2 : Hid (allP s bDig (q1 + 1) q) := Lib.hid (fun i i1 i2 => by rw [← kin_dig]; exact hrun.2.2.1 i (by omega) i2)
      have HE : Hid (q = s.size ∨ bDig (cb s q) = false) := Lib.hid (by rw [← kin_dig]; exact hrun.2.2.2)
      have hp1 := HNUM.out.1
      have HLT : Hid (p < q) := Lib.hid (by omega)
      have HNL : Hid (∀ i, p ≤ i → i < q → cb s i ≠ 10) := Lib.hid (fun i i1 i2 => by
        rcases (show i < q1 ∨ i = q1 ∨ q1 + 1 ≤ i by omega) with h9 | h9 | h9
        · exact dig_nl (HNUM.out.2.1 i i1 h9)
        · rw [h9, HD.out.2]; decide
        · exact dig_nl (HN2.out i h9 i2))
      clear hrun
      by_cases hq0 : q = a1
      · have HX := Lib.hid (dec_err HNUM.out HD.out.2 hq1s HN2.out (by omega) (.inl ⟨by omega, HE.out⟩))
        have ez : (((q - a1 : Nat) : Int) == 0) = true := by rw [beq_iff_eq]; omega
        clear hq0
        go_wp2
        refine bodyPost_ret (results_tok rfl rfl rfl (heap_set5 HBw1.out)) rfl ?_
        exact tokO_no (E := 62) hg HGw1.out HRdw1.out HX.out (by omega)
      · have ez : (((q - a1 : Nat) : Int) == 0) = false := ne_i (k := 0) (by omega)
        have EY : Hid (q = s.size ∨ bEnd (cb s q) = true → oneF s p = .tok 4 (s.extract p q) false q) := Lib.hid (fun he => dec_tok HNUM.out HD.out.2 HN2.out (by omega) hqs he)
        have EX : Hid (q < s.size → bEnd (cb s q) = false → oneF s p = .err 62) := Lib.hid (fun h3 h4 => dec_err HNUM.out HD.out.2 hq1s HN2.out (by omega) (.inr ⟨h3, HE.out.resolve_left (by omega), h4⟩))
        clear hq0
        have BW : Hid (∀ w2, w1.drew.grownBy w2 (some g) → Blk w2 w.heap.size) := Lib.hid (fun w2 h => Blk.grown (w := w1.drew) HBw1.out h (by omega))
        by_cases hend : q = s.size ∨ bEnd (cb s q) = true
        · have EN : Hid (∀ W, Rdr W g s q (lnAt s p) (fsAt s p) → Calls Tryd.prog 59 #[.pointer (some ⟨g, 0, none⟩), .int .i64 4, .string (s.extract p q)] W fun e w' => e = .returned (.tuple #[.agg #[.int .i64 4, .string (s.extract p q), .bool false, .int .i64 0, .int .i64 0], .int .i64 0]) ∧ Adv W w' g s q (lnAt s p) (fsAt s p)) :=
            Lib.hid (fun W hW => ended_yes hW hs hqs hend)
          have HO := Lib.hid (EY.out hend)
          clear hend
          go_wp2
          go_region_with (go_at_call 59; refine Calls.mono (EN.out _ ?_) ?_; (exact HRdw1.out); rintro e w2 ⟨rfl, hadv2⟩; have HA2 := Lib.hid hadv2; clear hadv2; obtain ⟨⟨k0, k1, k2, k3, k4⟩, j0, j1, j2, j3, j4⟩ := Blk.all (BW.out _ HA2.out.1))
          all_goals (
            go_wp2
            refine bodyPost_ret (results_tok rfl rfl rfl (heap_set5 (BW.out _ HA2.out.1))) rfl ?_
            exact tokO_yes (k := 4) hg (grown_tr HGw1.out (grown_tr (grown_drewN (grown_refl _ _) 1) HA2.out.1)) (RdA.nl (Nat.le_of_lt HLT.out) HNL.out HA2.out.2) HO.out HLT.out hqs)
        · have hlt2 : q < s.size := by omega
          have hb2 : bEnd (cb s q) = false := by rw [← Bool.not_eq_true]; exact fun h => hend (.inr h)
          have EN : Hid (∀ W, Rdr W g s q (lnAt s p) (fsAt s p) → Calls Tryd.prog 59 #[.pointer (some ⟨g, 0, none⟩), .int .i64 4, .string (s.extract p q)] W fun e w' => e = .returned (.tuple #[.agg #[.int .i64 0, .string ⟨#[]⟩, .bool false, .int .i64 0, .int .i64 0], .int .i64 62]) ∧ Adv W w' g s q (lnAt s p) (fsAt s p)) :=
            Lib.hid (fun W hW => ended_no hW hs hlt2 hb2)
          have HX := Lib.hid (EX.out hlt2 hb2)
          clear hend hb2
          go_wp2
          go_region_with (go_at_call 59; refine Calls.mono (EN.out _ ?_) ?_; (exact HRdw1.out); rintro e w2 ⟨rfl, hadv2⟩; have HA2 := Lib.hid hadv2; clear hadv2; obtain ⟨⟨k0, k1, k2, k3, k4⟩, j0, j1, j2, j3, j4⟩ := Blk.all (BW.out _ HA2.out.1))
          all_goals (
            go_wp2
            refine bodyPost_ret (results_tok rfl rfl rfl (heap_set5 (BW.out _ HA2.out.1))) rfl ?_
            exact tokO_no (E := 62) hg (grown_tr HGw1.out (grown_tr (grown_drewN (grown_refl _ _) 1) HA2.out.1)) HA2.out.2 HX.out (by omega))

    · have HD := Lib.hid hd
      have PN : Hid (Calls Tryd.prog 57 #[.pointer (some ⟨g, 0, none⟩), .int .u8 (46 : Int)] u1 fun e w' => e = .returned (.bool false) ∧ Adv u1 w' g s q1 (lnAt s p) (fsAt s p)) := Lib.hid (by
        by_cases h1 : q1 < s.size
        · exact past_not g s q1 _ _ 46 _ HRdu1.out hs h1 (fun e => HD.out ⟨h1, e⟩)
        · obtain rfl : q1 = s.size := by omega
          exact past_end g s _ _ 46 _ HRdu1.out hs)
      clear hd
      go_wp2_with fail
      refine PN.out.mono ?_
      rintro e w1 ⟨rfl, hadv2⟩
      have HRdw1 := Lib.hid hadv2.2
      have HGw1 : Hid (w.grownBy w1 (some g)) := Lib.hid (grown_tr HGu1.out hadv2.1)
      have HBw1 : Hid (Blk w1 w.heap.size) := Lib.hid (Blk.grown HBu1.out hadv2.1 (by omega))
      obtain ⟨⟨m0w1, m1w1, m2w1, m3w1, m4w1⟩, n0w1, n1w1, n2w1, n3w1, n4w1⟩ := Blk.all HBw1.out
      obtain ⟨d0w1, d1w1, d2w1, d3w1, g0w1, g1w1, g2w1, g3w1⟩ := hadv2.2.cells
      clear hadv2
      clear m0u1 m1u1 m2u1 m3u1 m4u1 n0u1 n1u1 n2u1 n3u1 n4u1 d0u1 d1u1 d2u1 d3u1 g0u1 g1u1 g2u1 g3u1
      obtain ⟨q, hqq⟩ : ∃ q, q = q1 := ⟨_, rfl⟩
      subst hqq
      have hqs := hq1
      have HLT : Hid (p < q) := Lib.hid HNUM.out.1
      have hpq : p ≤ q := Nat.le_of_lt HLT.out
      have HNL : Hid (∀ i, p ≤ i → i < q → cb s i ≠ 10) := Lib.hid (fun i i1 i2 => dig_nl (HNUM.out.2.1 i i1 i2))
      have EY : Hid (q = s.size ∨ bEnd (cb s q) = true → oneF s p = .tok 3 (s.extract p q) false q) := Lib.hid (fun he => num_tok HNUM.out hqs he)
      have EX : Hid (q < s.size → bEnd (cb s q) = false → oneF s p = .err 62) := Lib.hid (fun h3 h4 => num_err HNUM.out h3 h4 (fun e => HD.out ⟨h3, e⟩) (HX0.out h3))
      have BW : Hid (∀ w2, w1.drew.grownBy w2 (some g) → Blk w2 w.heap.size) := Lib.hid (fun w2 h => Blk.grown (w := w1.drew) HBw1.out h (by omega))
      by_cases hend : q = s.size ∨ bEnd (cb s q) = true
      · have EN : Hid (∀ W, Rdr W g s q (lnAt s p) (fsAt s p) → Calls Tryd.prog 59 #[.pointer (some ⟨g, 0, none⟩), .int .i64 3, .string (s.extract p q)] W fun e w' => e = .returned (.tuple #[.agg #[.int .i64 3, .string (s.extract p q), .bool false, .int .i64 0, .int .i64 0], .int .i64 0]) ∧ Adv W w' g s q (lnAt s p) (fsAt s p)) :=
          Lib.hid (fun W hW => ended_yes hW hs hqs hend)
        have HO := Lib.hid (EY.out hend)
        clear hend
        go_wp2
        go_region_with (go_at_call 59; refine Calls.mono (EN.out _ ?_) ?_; (exact HRdw1.out); rintro e w2 ⟨rfl, hadv2⟩; have HA2 := Lib.hid hadv2; clear hadv2; obtain ⟨⟨k0, k1, k2, k3, k4⟩, j0, j1, j2, j3, j4⟩ := Blk.all (BW.out _ HA2.out.1))
        all_goals (
          go_wp2
          refine bodyPost_ret (results_tok rfl rfl rfl (heap_set5 (BW.out _ HA2.out.1))) rfl ?_
          exact tokO_yes (k := 3) hg (grown_tr HGw1.out (grown_tr (grown_drewN (grown_refl _ _) 1) HA2.out.1)) (RdA.nl (Nat.le_of_lt HLT.out) HNL.out HA2.out.2) HO.out HLT.out hqs)
      · have hlt2 : q < s.size := by omega
        have hb2 : bEnd (cb s q) = false := by rw [← Bool.not_eq_true]; exact fun h => hend (.inr h)
        have EN : Hid (∀ W, Rdr W g s q (lnAt s p) (fsAt s p) → Calls Tryd.prog 59 #[.pointer (some ⟨g, 0, none⟩), .int .i64 3, .string (s.extract p q)] W fun e w' => e = .returned (.tuple #[.agg #[.int .i64 0, .string ⟨#[]⟩, .bool false, .int .i64 0, .int .i64 0], .int .i64 62]) ∧ Adv W w' g s q (lnAt s p) (fsAt s p)) :=
          Lib.hid (fun W hW => ended_no hW hs hlt2 hb2)
        have HX := Lib.hid (EX.out hlt2 hb2)
        clear hend hb2
        go_wp2
        go_region_with (go_at_call 59; refine Calls.mono (EN.out _ ?_) ?_; (exact HRdw1.out); rintro e w2 ⟨rfl, hadv2⟩; have HA2 := Lib.hid hadv2; clear hadv2; obtain ⟨⟨k0, k1, k2, k3, k4⟩, j0, j1, j2, j3, j4⟩ := Blk.all (BW.out _ HA2.out.1))
        all_goals (
          go_wp2
          refine bodyPost_ret (results_tok rfl rfl rfl (heap_set5 (BW.out _ HA2.out.1))) rfl ?_
          exact tokO_no (E := 62) hg (grown_tr HGw1.out (grown_tr (grown_drewN (grown_refl _ _) 1) HA2.out.1)) HA2.out.2 HX.out (by omega))
end Go.Proofs.YtpkdiciinhjfjaaDoor
