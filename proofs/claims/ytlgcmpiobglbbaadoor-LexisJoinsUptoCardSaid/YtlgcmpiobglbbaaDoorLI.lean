/- lexis: what reads one token. -/
import Derived.Test.YtlgcmpiobglbbaaDoorLH
import Derived.StillTailTactics
set_option linter.unusedVariables false
set_option linter.unusedSimpArgs false
namespace Go.Proofs.YtlgcmpiobglbbaaDoor
open Go.RowKit Mth

def TokO (w w' : World) (g : Nat) (s : ByteArray) (p : Nat) (e : Ending) : Prop :=
  (∃ k t q n, oneF s p = .tok k t q n ∧ p < n ∧ n ≤ s.size ∧ e = .returned (.tuple #[tokV k t q 0 0, .int .i64 0]) ∧ AdA w w' g s n) ∨
  (∃ E : Nat, oneF s p = .err E ∧ E ≠ 0 ∧ e = .returned (.tuple #[noTok, .int .i64 (E : Int)]) ∧ w.grownBy w' (some g) ∧ ∃ a l f, Rdr w' g s a l f)
theorem simple_nl {c : Nat} (h : bSimple c = true) : c ≠ 10 := by rw [bSimple_iff, bMore_or] at h; omega
theorem run_at {s : ByteArray} {P : Nat → Bool} {a q : Nat} (h : RunTo s P a q) (hp : a < s.size) (h1 : P (cb s a) = true) : a < q := by
  obtain ⟨h2, h3, h4, h5⟩ := h
  rcases Nat.lt_or_ge a q with h6 | h6
  · exact h6
  · obtain rfl : a = q := by omega
    rcases h5 with h5 | h5
    · omega
    · rw [h5] at h1; cases h1

/-- the answer of a method that reads a token, laid bare -/
theorem ended_yes {g : Nat} {s : ByteArray} {a l f k : Nat} {t : ByteArray} {w : World} (h : Rdr w g s a l f) (hs : s.size ≤ 1048576) (ha : a ≤ s.size) (he : a = s.size ∨ bEnd (cb s a) = true) :
    Calls Tryd.prog 57 #[.pointer (some ⟨g, 0, none⟩), .int .i64 (k : Int), .string t] w fun e w' => e = .returned (.tuple #[.agg #[.int .i64 (k : Int), .string t, .bool false, .int .i64 0, .int .i64 0], .int .i64 0]) ∧ Adv w w' g s a l f :=
  (ended_any g s a l f k t w h hs ha).mono fun e w' ⟨h1, h2⟩ => by
    rcases h2 with ⟨h2, _⟩ | ⟨_, h3, h4⟩
    · exact ⟨h2, h1⟩
    · exfalso
      rcases he with he | he
      · omega
      · rw [h4] at he; cases he
theorem ended_no {g : Nat} {s : ByteArray} {a l f k : Nat} {t : ByteArray} {w : World} (h : Rdr w g s a l f) (hs : s.size ≤ 1048576) (ha : a < s.size) (he : bEnd (cb s a) = false) :
    Calls Tryd.prog 57 #[.pointer (some ⟨g, 0, none⟩), .int .i64 (k : Int), .string t] w fun e w' => e = .returned (.tuple #[.agg #[.int .i64 0, .string ⟨#[]⟩, .bool false, .int .i64 0, .int .i64 0], .int .i64 62]) ∧ Adv w w' g s a l f :=
  (ended_any g s a l f k t w h hs (Nat.le_of_lt ha)).mono fun e w' ⟨h1, h2⟩ => by
    rcases h2 with ⟨_, h3⟩ | ⟨h2, _, _⟩
    · exfalso
      rcases h3 with h3 | h3
      · omega
      · rw [he] at h3; cases h3
    · exact ⟨h2, h1⟩
/-- the block of the result: made at the start, it stays while the reader goes on -/
def Blk (w : World) (b : Nat) : Prop := w.heap[b]? = some (Obj.cells #[.int .i64 0, .string ⟨#[]⟩, .bool false, .int .i64 0, .int .i64 0] 33)
theorem Blk.grown {w w' : World} {b g : Nat} (h : Blk w b) (hg : w.grownBy w' (some g)) (hn : b ≠ g) : Blk w' b := (hg.block b (Array.getElem?_eq_some_iff.1 h).1 (fun e => hn (Option.some.inj e))).trans h
theorem Blk.all {w : World} {b : Nat} (h : Blk w b) : (w.cell? ⟨b, 0, none⟩ = some (.int .i64 0) ∧ w.cell? ⟨b, 1, none⟩ = some (.string ⟨#[]⟩) ∧ w.cell? ⟨b, 2, none⟩ = some (.bool false) ∧ w.cell? ⟨b, 3, none⟩ = some (.int .i64 0) ∧ w.cell? ⟨b, 4, none⟩ = some (.int .i64 0)) ∧
    (w.frozen? ⟨b, 0, none⟩ = false ∧ w.frozen? ⟨b, 1, none⟩ = false ∧ w.frozen? ⟨b, 2, none⟩ = false ∧ w.frozen? ⟨b, 3, none⟩ = false ∧ w.frozen? ⟨b, 4, none⟩ = false) := ⟨blk5 h, frz5 h⟩
def zeroTok : Obj := .cells #[.int .i64 0, .string ⟨#[]⟩, .bool false, .int .i64 0, .int .i64 0] 33
theorem grown_from {w w1 : World} {g : Nat} {o : Obj} (h : (w.alloc o).grownBy w1 (some g)) : w.grownBy w1 (some g) := grown_tr (grown_alloc (grown_refl w (some g)) o) h
theorem RdA.nl {s : ByteArray} {p q : Nat} (hpq : p ≤ q) (hn : ∀ i, p ≤ i → i < q → cb s i ≠ 10) {w : World} {g : Nat} (h : Rdr w g s q (lnAt s p) (fsAt s p)) : RdA w g s q := by
  obtain ⟨e1, e2⟩ := ln_run hpq hn
  unfold RdA; rw [e1, e2]; exact h

theorem tokO_yes {w w2 : World} {g : Nat} {s : ByteArray} {p q k : Nat} {t : ByteArray} {b : Bool} (hg : g < w.heap.size) (h : w.grownBy w2 (some g)) (hr : RdA w2 g s q) (ho : oneF s p = .tok k t b q) (hpq : p < q) (hq : q ≤ s.size) :
    TokO w (((((w2.setCell ⟨w.heap.size, 0, none⟩ (.int .i64 (k : Int))).setCell ⟨w.heap.size, 1, none⟩ (.string t)).setCell ⟨w.heap.size, 2, none⟩ (.bool b)).setCell ⟨w.heap.size, 3, none⟩ (.int .i64 0)).setCell ⟨w.heap.size, 4, none⟩ (.int .i64 0)) g s p (.returned (.tuple #[.agg #[.int .i64 (k : Int), .string t, .bool b, .int .i64 0, .int .i64 0], .int .i64 0])) :=
  .inl ⟨k, t, b, q, ho, hpq, hq, rfl, gset5 h (Nat.le_refl _), rset5 hr (by omega)⟩
theorem tokO_no {w w2 : World} {g : Nat} {s : ByteArray} {p E a l f : Nat} (hg : g < w.heap.size) (h : w.grownBy w2 (some g)) (hr : Rdr w2 g s a l f) (ho : oneF s p = .err E) (hE : E ≠ 0) :
    TokO w (((((w2.setCell ⟨w.heap.size, 0, none⟩ (.int .i64 0)).setCell ⟨w.heap.size, 1, none⟩ (.string ⟨#[]⟩)).setCell ⟨w.heap.size, 2, none⟩ (.bool false)).setCell ⟨w.heap.size, 3, none⟩ (.int .i64 0)).setCell ⟨w.heap.size, 4, none⟩ (.int .i64 0)) g s p (.returned (.tuple #[.agg #[.int .i64 0, .string ⟨#[]⟩, .bool false, .int .i64 0, .int .i64 0], .int .i64 (E : Int)])) :=
  .inr ⟨E, ho, hE, rfl, gset5 h (Nat.le_refl _), _, _, _, rset5 hr (by omega)⟩

set_option maxHeartbeats 1000000 in
set_option maxRecDepth 100000 in
theorem word_any (g : Nat) (s : ByteArray) (p : Nat) (w : World) (h : RdA w g s p) (hL : LexW w) (hs : s.size ≤ 1048576) (hp : p < s.size) (h1 : bSimple (cb s p) = true) (h2 : bDig (cb s p) = false) :
    Calls Tryd.prog 42 #[.pointer (some ⟨g, 0, none⟩)] w fun e w' => TokO w w' g s p e := by
  have HR := Lib.hid h
  have hg := h.lt
  have HB := Lib.hid (heap_alloc_new w (Obj.cells #[.int .i64 0, .string ⟨#[]⟩, .bool false, .int .i64 0, .int .i64 0] 33))
  have H1 := Lib.hid h1; have H2 := Lib.hid h2
  have HL := Lib.hid (hL.below ((Below.refl _ _).alloc (Nat.le_refl _) (Obj.cells #[.int .i64 0, .string ⟨#[]⟩, .bool false, .int .i64 0, .int .i64 0] 33)))
  have HR1 := Lib.hid (h.alloc (Obj.cells #[.int .i64 0, .string ⟨#[]⟩, .bool false, .int .i64 0, .int .i64 0] 33))
  have OV := Lib.hid (over_any g s p _ _ 8 _ HR1.out HL.out hs (by omega))
  obtain ⟨c0, c1, c2, c3, f0, f1, f2, f3⟩ := h.cells
  clear h h1 h2 hL
  go_enter Tryd.func42, Tryd.ntmps42
  go_wp2_with fail
  refine OV.out.mono ?_
  rintro e w1 ⟨q, rfl, hrun, hadv⟩
  have HRUN := Lib.hid hrun; have HA := Lib.hid hadv
  obtain ⟨d0, d1, d2, d3, g0, g1, g2, g3⟩ := hadv.2.cells
  have HBW : Hid (w1.heap[w.heap.size]? = some (Obj.cells #[.int .i64 0, .string ⟨#[]⟩, .bool false, .int .i64 0, .int .i64 0] 33)) := Lib.hid ((hadv.1.block _ (by simp) (fun e => by have := Option.some.inj e; omega)).trans HB.out)
  have hpq := hrun.1
  have hqs := hrun.2.1
  have HN : Hid (∀ i, p ≤ i → i < q → bSimple (cb s i) = true) := Lib.hid (fun i i1 i2 => by rw [← kin_simple]; exact hrun.2.2.1 i i1 i2)
  have HLT := Lib.hid (run_at (P := kin 8) hrun hp (by rw [kin_simple]; exact H1.out))
  by_cases hend : q = s.size ∨ bEnd (cb s q) = true
  · have EN : Hid (∀ W, Rdr W g s q (lnAt s p) (fsAt s p) → Calls Tryd.prog 57 #[.pointer (some ⟨g, 0, none⟩), .int .i64 8, .string (s.extract p q)] W fun e w' => e = .returned (.tuple #[.agg #[.int .i64 8, .string (s.extract p q), .bool false, .int .i64 0, .int .i64 0], .int .i64 0]) ∧ Adv W w' g s q (lnAt s p) (fsAt s p)) :=
      Lib.hid (fun W hW => ended_yes hW hs hqs hend)
    have HE := Lib.hid hend
    have BW : Hid (∀ w2, w1.drew.grownBy w2 (some g) → Blk w2 w.heap.size) := Lib.hid (fun w2 h => Blk.grown (w := w1.drew) HBW.out h (by omega))
    clear hrun hadv c0 c1 c2 c3 f0 f1 f2 f3 OV hend
    go_wp2
    go_region_with (go_at_call 57; refine Calls.mono (EN.out _ ?_) ?_; (exact HA.out.2); rintro e w2 ⟨rfl, hadv2⟩; have HA2 := Lib.hid hadv2; clear hadv2; obtain ⟨⟨k0, k1, k2, k3, k4⟩, j0, j1, j2, j3, j4⟩ := Blk.all (BW.out _ HA2.out.1))
    all_goals (
      go_wp2
      refine bodyPost_ret (results_tok rfl rfl rfl (heap_set5 (BW.out _ HA2.out.1))) rfl ?_
      exact tokO_yes (k := 8) hg (grown_tr (grown_from HA.out.1) (grown_tr (grown_drewN (grown_refl _ _) 1) HA2.out.1)) (RdA.nl HRUN.out.1 (fun i i1 i2 => simple_nl (HN.out i i1 i2)) HA2.out.2) (word_tok H2.out HN.out HLT.out hqs HE.out) HLT.out hqs)
  · have hlt2 : q < s.size := by omega
    have hb2 : bEnd (cb s q) = false := by rw [← Bool.not_eq_true]; exact fun h => hend (.inr h)
    have hs2 : bSimple (cb s q) = false := by
      rcases hrun.2.2.2 with h | h
      · omega
      · rw [← kin_simple]; exact h
    have EN : Hid (∀ W, Rdr W g s q (lnAt s p) (fsAt s p) → Calls Tryd.prog 57 #[.pointer (some ⟨g, 0, none⟩), .int .i64 8, .string (s.extract p q)] W fun e w' => e = .returned (.tuple #[.agg #[.int .i64 0, .string ⟨#[]⟩, .bool false, .int .i64 0, .int .i64 0], .int .i64 62]) ∧ Adv W w' g s q (lnAt s p) (fsAt s p)) :=
      Lib.hid (fun W hW => ended_no hW hs hlt2 hb2)
    have BW : Hid (∀ w2, w1.drew.grownBy w2 (some g) → Blk w2 w.heap.size) := Lib.hid (fun w2 h => Blk.grown (w := w1.drew) HBW.out h (by omega))
    have HX := Lib.hid (word_err H2.out HN.out HLT.out hlt2 hs2 hb2)
    clear hrun hadv c0 c1 c2 c3 f0 f1 f2 f3 OV hend hb2 hs2
    go_wp2
    go_region_with (go_at_call 57; refine Calls.mono (EN.out _ ?_) ?_; (exact HA.out.2); rintro e w2 ⟨rfl, hadv2⟩; have HA2 := Lib.hid hadv2; clear hadv2; obtain ⟨⟨k0, k1, k2, k3, k4⟩, j0, j1, j2, j3, j4⟩ := Blk.all (BW.out _ HA2.out.1))
    all_goals (
      go_wp2
      refine bodyPost_ret (results_tok rfl rfl rfl (heap_set5 (BW.out _ HA2.out.1))) rfl ?_
      exact tokO_no (E := 62) hg (grown_tr (grown_from HA.out.1) (grown_tr (grown_drewN (grown_refl _ _) 1) HA2.out.1)) HA2.out.2 HX.out (by omega))
end Go.Proofs.YtlgcmpiobglbbaaDoor
