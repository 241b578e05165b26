/- lexis: readers; which method reads what begins with a byte. -/
import Derived.Test.YtlgcmpiobglbbaaDoorLX
import Derived.Test.YtlgcmpiobglbbaaDoorLW
import Derived.Test.YtlgcmpiobglbbaaDoorLK
import Derived.Laws.EntriesVeiled
set_option linter.unusedVariables false
set_option linter.unusedSimpArgs false
namespace Go.Proofs.YtlgcmpiobglbbaaDoor
open Go.RowKit Mth

def methN (k : Nat) : Nat := ([35, 36, 37, 38, 39, 40, 41, 42] : List Nat).getD k 0
def fnV (m : Nat) : Value := .func (.func m) #[] #[]
def methC : Array Value := #[fnV (methN 0), fnV (methN 1), fnV (methN 2), fnV (methN 3), fnV (methN 4), fnV (methN 5), fnV (methN 6), fnV (methN 7)]
theorem blk8 {w : World} {b : Nat} {v0 v1 v2 v3 v4 v5 v6 v7 : Value} {T : TypeId} (h : w.heap[b]? = some (.cells #[v0, v1, v2, v3, v4, v5, v6, v7] T (0, 0))) :
    w.cell? ⟨b, 0, none⟩ = some v0 ∧ w.cell? ⟨b, 1, none⟩ = some v1 ∧ w.cell? ⟨b, 2, none⟩ = some v2 ∧ w.cell? ⟨b, 3, none⟩ = some v3 ∧ w.cell? ⟨b, 4, none⟩ = some v4 ∧ w.cell? ⟨b, 5, none⟩ = some v5 ∧ w.cell? ⟨b, 6, none⟩ = some v6 ∧ w.cell? ⟨b, 7, none⟩ = some v7 := by
  refine ⟨?_, ?_, ?_, ?_, ?_, ?_, ?_, ?_⟩ <;> (rw [cell_of_row w b _ _ _ (0, 0) h]; rfl)
set_option maxRecDepth 100000 in
theorem results_meth {fn : Func} {t : Tmp} {tmps : Array Value} {b : Nat} {v0 v1 v2 v3 v4 v5 v6 v7 : Value} {T : TypeId} {W : World} (h : fn.results = #[.cell t 50])
    (h1 : tmps.getD t undef = .pointer (some ⟨b, 0, none⟩)) (h3 : W.heap[b]? = some (.cells #[v0, v1, v2, v3, v4, v5, v6, v7] T (0, 0))) :
    (results fn tmps).run Tryd.prog W = .ok (.agg #[v0, v1, v2, v3, v4, v5, v6, v7]) W := by
  obtain ⟨c0, c1, c2, c3, c4, c5, c6, c7⟩ := blk8 h3
  rw [Array.getD_eq_getD_getElem?] at h1
  simp [results, h, h1, go_sem, c0, c1, c2, c3, c4, c5, c6, c7]
set_option maxRecDepth 100000 in
theorem readers_any (w : World) : Calls Tryd.prog 24 #[] w fun e w' => e = .returned (.agg #[.func (.func 35) #[] #[], .func (.func 36) #[] #[], .func (.func 37) #[] #[], .func (.func 38) #[] #[], .func (.func 39) #[] #[], .func (.func 40) #[] #[], .func (.func 41) #[] #[], .func (.func 42) #[] #[]]) ∧ Below w.heap.size w w' := by
  have BE := Lib.hid (Below.refl w.heap.size w)
  go_enter Tryd.func24, Tryd.ntmps24
  go_wp2
  refine bodyPost_ret (results_meth rfl rfl (heap_alloc_new _ _)) rfl ?_
  exact ⟨rfl, BE.out.alloc (Nat.le_refl _) _⟩
/-- the table of methods in memory -/
def FnB (w : World) (b : Nat) : Prop := w.heap[b]? = some (.cells methC 50 (0, 0))
theorem FnB.at {w : World} {b : Nat} (h : FnB w b) {k : Nat} (hk : k < 8) : w.cell? ⟨b, k, none⟩ = some (fnV (methN k)) := by
  rw [cell_of_row w b k _ _ (0, 0) h]
  match k, hk with
  | 0, _ => rfl
  | 1, _ => rfl
  | 2, _ => rfl
  | 3, _ => rfl
  | 4, _ => rfl
  | 5, _ => rfl
  | 6, _ => rfl
  | 7, _ => rfl
  | k + 8, hk => omega
theorem stF_lt (c : Nat) : stF c < 8 := by unfold stF; (repeat' split) <;> omega
theorem meth_of {s : ByteArray} {q : Nat} (hs : s.size ≤ 1048576) (hq : q < s.size) (g : Nat) :
    (∀ args w, (callFunc (methN (stF (cb s q))) args).run Tryd.prog w = .ok (.enter (methN (stF (cb s q))) args) w) ∧
    (∀ W, RdA W g s q → LexW W → Calls Tryd.prog (methN (stF (cb s q))) #[.pointer (some ⟨g, 0, none⟩)] W fun e w' => TokO W w' g s q e) := by
  have E : ∀ k, k < 8 → ∀ args w, (callFunc (methN k) args).run Tryd.prog w = .ok (.enter (methN k) args) w := fun k hk => by
    match k, hk with
    | 0, _ => exact enters_of Tryd.func35 (by kernel_rfl) rfl
    | 1, _ => exact enters_of Tryd.func36 (by kernel_rfl) rfl
    | 2, _ => exact enters_of Tryd.func37 (by kernel_rfl) rfl
    | 3, _ => exact enters_of Tryd.func38 (by kernel_rfl) rfl
    | 4, _ => exact enters_of Tryd.func39 (by kernel_rfl) rfl
    | 5, _ => exact enters_of Tryd.func40 (by kernel_rfl) rfl
    | 6, _ => exact enters_of Tryd.func41 (by kernel_rfl) rfl
    | 7, _ => exact enters_of Tryd.func42 (by kernel_rfl) rfl
    | k + 8, hk => omega
  refine ⟨E _ (stF_lt _), fun W hr hL => ?_⟩
  by_cases h1 : cb s q = 40 ∨ cb s q = 41
  · have e : stF (cb s q) = 1 := by unfold stF; rw [if_pos h1]
    rw [e]; exact parenthesis_any g s q W hr hL hs hq h1
  by_cases h2 : cb s q = 35
  · have e : stF (cb s q) = 3 := by unfold stF; rw [if_neg h1, if_pos h2]
    rw [e]; exact prefixed_any g s q W hr hL hs hq h2
  by_cases h3 : cb s q = 34
  · have e : stF (cb s q) = 4 := by unfold stF; rw [if_neg h1, if_neg h2, if_pos h3]
    rw [e]; exact quoted_any g s q W hr hL hs hq h3
  by_cases h4 : cb s q = 124
  · have e : stF (cb s q) = 5 := by unfold stF; rw [if_neg h1, if_neg h2, if_neg h3, if_pos h4]
    rw [e]; exact barred_any g s q W hr hL hs hq h4
  by_cases h5 : cb s q = 58
  · have e : stF (cb s q) = 6 := by unfold stF; rw [if_neg h1, if_neg h2, if_neg h3, if_neg h4, if_pos h5]
    rw [e]; exact keyword_any g s q W hr hL hs hq h5
  have e0 : stF (cb s q) = if bDig (cb s q) then 2 else if bSimple (cb s q) then 7 else 0 := by
    unfold stF; rw [if_neg h1, if_neg h2, if_neg h3, if_neg h4, if_neg h5]
  rcases Bool.eq_false_or_eq_true (bDig (cb s q)) with h6 | h6
  · have e : stF (cb s q) = 2 := by rw [e0, h6]; rfl
    rw [e]; exact number_any g s q W hr hL hs hq h6
  rcases Bool.eq_false_or_eq_true (bSimple (cb s q)) with h7 | h7
  · have e : stF (cb s q) = 7 := by rw [e0, h6, h7]; rfl
    rw [e]; exact word_any g s q W hr hL hs hq h7 h6
  · have e : stF (cb s q) = 0 := by rw [e0, h6, h7]; rfl
    rw [e]; exact nothing_any g s q W hr hL hs hq (one_nothing ⟨fun e => h1 (.inl e), fun e => h1 (.inr e), h3, h4, h2, h5, h7⟩)
end Go.Proofs.YtlgcmpiobglbbaaDoor
