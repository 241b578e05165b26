/- lexis: ended; what a token is, in plain mathematics. -/
import Derived.Test.YtlgcmpiobglbbaaDoorLF
set_option linter.unusedVariables false
set_option linter.unusedSimpArgs false
namespace Go.Proofs.YtlgcmpiobglbbaaDoor
open Go.RowKit Mth

/-- a token, as a value -/
def tokV (k : Nat) (t : ByteArray) (q : Bool) (l c : Nat) : Value := .agg #[.int .i64 (k : Int), .string t, .bool q, .int .i64 (l : Int), .int .i64 (c : Int)]
def noTok : Value := tokV 0 ⟨#[]⟩ false 0 0
theorem ret_tok {k : Nat} {t : ByteArray} {q : Bool} {l c : Nat} : tokV k t q l c = .agg #[.int .i64 (k : Int), .string t, .bool q, .int .i64 (l : Int), .int .i64 (c : Int)] := rfl
theorem Rdr.alloc {w : World} {g : Nat} {s : ByteArray} {a l f : Nat} (h : Rdr w g s a l f) (o : Obj) : Rdr (w.alloc o) g s a l f := (Below.heap_alloc w o g h.lt).trans h
theorem Rdr.setOther {w : World} {g b i : Nat} {s : ByteArray} {a l f : Nat} {v : Value} (h : Rdr w g s a l f) (hn : g ≠ b) : Rdr (w.setCell ⟨b, i, none⟩ v) g s a l f := (Below.heap_setCell w ⟨b, i, none⟩ v g hn).trans h

theorem heap_set5 {w : World} {b : Nat} {x0 x1 x2 x3 x4 v0 v1 v2 v3 v4 : Value} {T : TypeId} (h : w.heap[b]? = some (.cells #[x0, x1, x2, x3, x4] T (0, 0))) :
    (((((w.setCell ⟨b, 0, none⟩ v0).setCell ⟨b, 1, none⟩ v1).setCell ⟨b, 2, none⟩ v2).setCell ⟨b, 3, none⟩ v3).setCell ⟨b, 4, none⟩ v4).heap[b]? = some (.cells #[v0, v1, v2, v3, v4] T (0, 0)) :=
  heap_setCell_row (heap_setCell_row (heap_setCell_row (heap_setCell_row (heap_setCell_row h rfl) rfl) rfl) rfl) rfl
theorem blk5 {w : World} {b : Nat} {v0 v1 v2 v3 v4 : Value} {T : TypeId} (h : w.heap[b]? = some (.cells #[v0, v1, v2, v3, v4] T (0, 0))) :
    w.cell? ⟨b, 0, none⟩ = some v0 ∧ w.cell? ⟨b, 1, none⟩ = some v1 ∧ w.cell? ⟨b, 2, none⟩ = some v2 ∧ w.cell? ⟨b, 3, none⟩ = some v3 ∧ w.cell? ⟨b, 4, none⟩ = some v4 := by
  refine ⟨?_, ?_, ?_, ?_, ?_⟩ <;> (rw [cell_of_row w b _ _ _ (0, 0) h]; rfl)
theorem frz5 {w : World} {b : Nat} {v0 v1 v2 v3 v4 : Value} {T : TypeId} (h : w.heap[b]? = some (.cells #[v0, v1, v2, v3, v4] T (0, 0))) :
    w.frozen? ⟨b, 0, none⟩ = false ∧ w.frozen? ⟨b, 1, none⟩ = false ∧ w.frozen? ⟨b, 2, none⟩ = false ∧ w.frozen? ⟨b, 3, none⟩ = false ∧ w.frozen? ⟨b, 4, none⟩ = false :=
  ⟨frozen_of_row w b 0 _ _ h, frozen_of_row w b 1 _ _ h, frozen_of_row w b 2 _ _ h, frozen_of_row w b 3 _ _ h, frozen_of_row w b 4 _ _ h⟩
set_option maxRecDepth 100000 in
/-- a token and an error come back: the token out of a block -/
theorem results_tok {fn : Func} {t u : Tmp} {tmps : Array Value} {b : Nat} {v0 v1 v2 v3 v4 v5 : Value} {T : TypeId} {W : World} (h : fn.results = #[.cell t 33, .tmp u])
    (h1 : tmps.getD t undef = .pointer (some ⟨b, 0, none⟩)) (h2 : tmps.getD u undef = v5) (h3 : W.heap[b]? = some (.cells #[v0, v1, v2, v3, v4] T (0, 0))) :
    (results fn tmps).run Tryd.prog W = .ok (.tuple #[.agg #[v0, v1, v2, v3, v4], v5]) W := by
  obtain ⟨c0, c1, c2, c3, c4⟩ := blk5 h3
  rw [Array.getD_eq_getD_getElem?] at h1 h2
  simp [results, h, h1, h2, go_sem, c0, c1, c2, c3, c4]

theorem gsetN {a w : World} {g b i : Nat} (h : a.grownBy w (some g)) (hb : a.heap.size ≤ b) (v : Value) : a.grownBy (w.setCell ⟨b, i, none⟩ v) (some g) :=
  ⟨h.os, h.tape, h.output, by simp [World.setCell]; exact h.size, fun k hk hn => (Below.heap_setCell _ _ _ _ (by show k ≠ b; omega)).trans (h.block k hk hn)⟩
theorem gset5 {a w : World} {g b : Nat} {v0 v1 v2 v3 v4 : Value} (h : a.grownBy w (some g)) (hb : a.heap.size ≤ b) :
    a.grownBy (((((w.setCell ⟨b, 0, none⟩ v0).setCell ⟨b, 1, none⟩ v1).setCell ⟨b, 2, none⟩ v2).setCell ⟨b, 3, none⟩ v3).setCell ⟨b, 4, none⟩ v4) (some g) :=
  gsetN (gsetN (gsetN (gsetN (gsetN h hb _) hb _) hb _) hb _) hb _
theorem rset5 {w : World} {g b : Nat} {s : ByteArray} {a l f : Nat} {v0 v1 v2 v3 v4 : Value} (h : Rdr w g s a l f) (hn : g ≠ b) :
    Rdr (((((w.setCell ⟨b, 0, none⟩ v0).setCell ⟨b, 1, none⟩ v1).setCell ⟨b, 2, none⟩ v2).setCell ⟨b, 3, none⟩ v3).setCell ⟨b, 4, none⟩ v4) g s a l f :=
  ((((h.setOther hn).setOther hn).setOther hn).setOther hn).setOther hn
/-- a result and whether it is right -/
def EndO (w w' : World) (g : Nat) (s : ByteArray) (a l f k : Nat) (t : ByteArray) (e : Ending) : Prop :=
  Adv w w' g s a l f ∧ ((e = .returned (.tuple #[tokV k t false 0 0, .int .i64 0]) ∧ (a = s.size ∨ bEnd (cb s a) = true)) ∨ (e = .returned (.tuple #[noTok, .int .i64 62]) ∧ a < s.size ∧ bEnd (cb s a) = false))
set_option maxHeartbeats 1000000 in
set_option maxRecDepth 100000 in
theorem ended_any (g : Nat) (s : ByteArray) (a l f k : Nat) (t : ByteArray) (w : World) (h : Rdr w g s a l f) (hs : s.size ≤ 1048576) (ha : a ≤ s.size) :
    Calls Tryd.prog 57 #[.pointer (some ⟨g, 0, none⟩), .int .i64 (k : Int), .string t] w fun e w' => EndO w w' g s a l f k t e := by
  have HR := Lib.hid h
  have hg := h.lt
  obtain ⟨c0, c1, c2, c3, f0, f1, f2, f3⟩ := h.cells
  have HB := Lib.hid (heap_alloc_new w (Obj.cells #[.int .i64 0, .string ⟨#[]⟩, .bool false, .int .i64 0, .int .i64 0] 33))
  clear h
  go_enter Tryd.func57, Tryd.ntmps57
  by_cases hlt : a < s.size
  · have hbk := cb_at hlt
    have PA : Hid (∀ W, Calls Tryd.prog 74 #[.int .u8 ((cb s a : Nat) : Int)] W fun e w' => e = .returned (.bool (bEnd (cb s a))) ∧ w' = W) := Lib.hid (fun W => (parts_any _ (cb_lt s a) W).mono fun _ _ ⟨x, y⟩ => ⟨x, y.symm⟩)
    rcases Bool.eq_false_or_eq_true (bEnd (cb s a)) with hb | hb
    · have HE := Lib.hid hb
      rw [hb] at PA
      clear hb
      go_wp2
      go_quiet ((go_at_call 74; exact Calls.quiet_of_same (PA.out _)))
      go_wp2
      refine bodyPost_ret (results_tok rfl rfl rfl (heap_set5 (w := World.drewN _ _) HB.out)) rfl ?_
      exact ⟨⟨gset5 (grown_drewN (grown_alloc (grown_refl _ _) _) _) (Nat.le_refl _), rset5 ((HR.out.alloc _).drewN _) (by omega)⟩, .inl ⟨rfl, .inr HE.out⟩⟩
    · have HE := Lib.hid hb
      rw [hb] at PA
      clear hb
      go_wp2
      go_quiet ((go_at_call 74; exact Calls.quiet_of_same (PA.out _)))
      go_wp2
      refine bodyPost_ret (results_tok rfl rfl rfl (heap_set5 (w := World.drewN _ _) HB.out)) rfl ?_
      exact ⟨⟨gset5 (grown_drewN (grown_alloc (grown_refl _ _) _) _) (Nat.le_refl _), rset5 ((HR.out.alloc _).drewN _) (by omega)⟩, .inr ⟨rfl, hlt, HE.out⟩⟩
  · obtain rfl : a = s.size := by omega
    go_wp2
    go_quiet (fail)
    go_wp2
    refine bodyPost_ret (results_tok rfl rfl rfl (heap_set5 (w := World.drewN _ _) HB.out)) rfl ?_
    exact ⟨⟨gset5 (grown_drewN (grown_alloc (grown_refl _ _) _) _) (Nat.le_refl _), rset5 ((HR.out.alloc _).drewN _) (by omega)⟩, .inl ⟨rfl, .inl rfl⟩⟩
end Go.Proofs.YtlgcmpiobglbbaaDoor
