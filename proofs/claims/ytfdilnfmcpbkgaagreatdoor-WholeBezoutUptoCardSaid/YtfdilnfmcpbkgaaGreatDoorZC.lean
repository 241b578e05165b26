/- Package whole: Cmp. -/
import Derived.Test.YtfdilnfmcpbkgaaGreatDoorZ3
set_option linter.unusedVariables false
set_option linter.unusedSimpArgs false
namespace Go.Proofs.YtfdilnfmcpbkgaaGreatDoor
open Go.RowKit Mth

/-- a cell, step by step back through what was done -/
theorem ch_new {w : World} {cs : Array Value} {T : TypeId} {g j : Nat} {v : Value} (hg : g = w.heap.size) (hv : cs[j]? = some v) : (w.alloc (.cells cs T)).cell? ⟨g, j, none⟩ = some v := by
  subst hg
  have h := heap_alloc_new w (Obj.cells cs T)
  rw [cell_of_row _ _ _ _ _ (0, 0) h]; exact hv
theorem ch_lt {w : World} {o : Obj} {g j : Nat} {v : Value} (hg : g < w.heap.size) (h : w.cell? ⟨g, j, none⟩ = some v) : (w.alloc o).cell? ⟨g, j, none⟩ = some v := cell_new h hg
theorem ch_set {w : World} {g g' i j : Nat} {v x : Value} (hne : g ≠ g' ∨ i ≠ j) (h : w.cell? ⟨g, j, none⟩ = some v) : (w.setCell ⟨g', i, none⟩ x).cell? ⟨g, j, none⟩ = some v :=
  (World.cell?_setCell_other (w := w) (a := ⟨g', i, none⟩) (b := ⟨g, j, none⟩) (v := x) (fun e => by
    simp only [Addr.mk.injEq] at e
    rcases hne with h | h
    · exact h e.1.symm
    · exact h e.2.1)).trans h
theorem ch_same {w : World} {g j : Nat} {v : Value} (h : (w.cell? ⟨g, j, none⟩).isSome = true) : (w.setCell ⟨g, j, none⟩ v).cell? ⟨g, j, none⟩ = some v := World.cell?_setCell_same' _ _ _ h
theorem ch_below {w w' : World} {B g j : Nat} {v : Value} (hb : Below B w w') (hg : g < B) (h : w.cell? ⟨g, j, none⟩ = some v) : w'.cell? ⟨g, j, none⟩ = some v := (hb.cell (p := ⟨g, j, none⟩) hg).trans h
theorem ch_drew {w : World} {g j : Nat} {v : Value} (h : w.cell? ⟨g, j, none⟩ = some v) : w.drew.cell? ⟨g, j, none⟩ = some v := h
theorem is_of {w : World} {g j : Nat} (h : (w.cell? ⟨g, j, none⟩).isSome = true) : ∃ v, w.cell? ⟨g, j, none⟩ = some v := Option.isSome_iff_exists.1 h
theorem is_to {w : World} {g j : Nat} {v : Value} (h : w.cell? ⟨g, j, none⟩ = some v) : (w.cell? ⟨g, j, none⟩).isSome = true := by rw [h]; rfl
theorem is_new {w : World} {cs : Array Value} {T : TypeId} {g j : Nat} (hg : g = w.heap.size) (hv : j < cs.size) : ((w.alloc (.cells cs T)).cell? ⟨g, j, none⟩).isSome = true := is_to (ch_new hg (Array.getElem?_eq_getElem hv))
theorem is_lt {w : World} {o : Obj} {g j : Nat} (hg : g < w.heap.size) (h : (w.cell? ⟨g, j, none⟩).isSome = true) : ((w.alloc o).cell? ⟨g, j, none⟩).isSome = true := by
  obtain ⟨v, h⟩ := is_of h; exact is_to (ch_lt hg h)
theorem is_set {w : World} {g g' i j : Nat} {x : Value} (h : (w.cell? ⟨g, j, none⟩).isSome = true) : ((w.setCell ⟨g', i, none⟩ x).cell? ⟨g, j, none⟩).isSome = true := by
  obtain ⟨v, h⟩ := is_of h
  by_cases hne : g ≠ g' ∨ i ≠ j
  · exact is_to (ch_set hne h)
  · obtain ⟨rfl, rfl⟩ : g = g' ∧ i = j := by omega
    exact is_to (ch_same (is_to h))
theorem is_below {w w' : World} {B g j : Nat} (hb : Below B w w') (hg : g < B) (h : (w.cell? ⟨g, j, none⟩).isSome = true) : (w'.cell? ⟨g, j, none⟩).isSome = true := by
  obtain ⟨v, h⟩ := is_of h; exact is_to (ch_below hb hg h)
theorem is_drew {w : World} {g j : Nat} (h : (w.cell? ⟨g, j, none⟩).isSome = true) : (w.drew.cell? ⟨g, j, none⟩).isSome = true := h
theorem sz_alloc (w : World) (o : Obj) : (w.alloc o).heap.size = w.heap.size + 1 := by simp
theorem sz_set (w : World) (p : Addr) (v : Value) : (w.setCell p v).heap.size = w.heap.size := by simp
theorem sz_drew (w : World) : w.drew.heap.size = w.heap.size := rfl

/-- two numbers that have been read, in two new variables -/
def Rd2 (w wx : World) (s1 s2 v1 v2 : Value) : Prop := ∃ g1 g2 x1 y1 x2 y2, s1 = .pointer (some ⟨g1, 0, none⟩) ∧ s2 = .pointer (some ⟨g2, 0, none⟩) ∧ v1 = .agg #[x1, y1] ∧ v2 = .agg #[x2, y2] ∧
  wx.cell? ⟨g1, 0, none⟩ = some x1 ∧ wx.cell? ⟨g1, 1, none⟩ = some y1 ∧ wx.cell? ⟨g2, 0, none⟩ = some x2 ∧ wx.cell? ⟨g2, 1, none⟩ = some y2 ∧ Below w.heap.size w wx
end Go.Proofs.YtfdilnfmcpbkgaaGreatDoor
