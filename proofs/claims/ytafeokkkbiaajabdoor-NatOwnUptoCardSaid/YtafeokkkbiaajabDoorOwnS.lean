/- slices that may be written; what else stays. -/
import Derived.Test.YtafeokkkbiaajabDoorOwnB
import Derived.Test.YtafeokkkbiaajabDoorOwnR
namespace Go.Proofs.YtafeokkkbiaajabDoor
open Go.RowKit Mth

/-- a slice that may be written: nothing, or the front of a block -/
def Pen (w : World) (v : Value) : Prop := v = .slice none 0 0 ∨ ∃ (g n cap : Nat) (cur : Array Value) (e : Nat), v = .slice (some ⟨g, 0, none⟩) n cap ∧ n ≤ cap ∧ cap ≤ maxLen ∧ n ≤ 16777216 ∧ w.heap[g]? = some (.cells cur e (0, 0)) ∧ n ≤ cur.size
theorem pen_own {w : World} {base n : Nat} {v : Value} (h : Own w base v n) : Pen w v := by
  rcases h with ⟨rfl, _⟩ | ⟨g, len, cap, R, rfl, h1, h2, h3, h4, h5, h6, h7, h8, h9, _⟩
  · exact .inl rfl
  · exact .inr ⟨g, len, cap, _, _, rfl, h4, h5, h9, h1, by simp [cellsOf]; omega⟩
theorem pen_row {w : World} {base e n : Nat} {v : Value} {xs : List Value} (h : w.ownsRow base e 1 v n xs) (hn : n ≤ 16777216) : Pen w v := by
  rcases h.2 with ⟨rfl, _⟩ | ⟨g, cap, cur, rfl, hb, hg, hnc, hcm, hcs, htake⟩
  · exact .inl rfl
  · exact .inr ⟨g, n, cap, cur, _, rfl, hnc, hcm, hn, hg, by omega⟩
theorem Pen.shape {w : World} {v : Value} (h : Pen w v) : ∃ ao n cap, v = .slice ao n cap ∧ n ≤ 16777216 ∧ cap ≤ maxLen ∧ n ≤ cap := by
  rcases h with rfl | ⟨g, n, cap, cur, e, rfl, h1, h2, h3, _⟩
  · exact ⟨_, _, _, rfl, by omega, by omega, by omega⟩
  · exact ⟨_, _, _, rfl, h3, h2, h1⟩
theorem Pen.lt {w : World} {v : Value} (h : Pen w v) (b : Nat) (hb : inBlock v = some b) : b < w.heap.size := by
  rcases h with rfl | ⟨g, n, cap, cur, e, rfl, h1, h2, h3, h4, _⟩
  · simp [inBlock] at hb
  · simp [inBlock] at hb
    subst hb
    exact (Array.getElem?_eq_some_iff.1 h4).1
theorem Pen.below {w w' : World} {v : Value} (h : Pen w v) (hb : Below w.heap.size w w') : Pen w' v := by
  rcases h with rfl | ⟨g, n, cap, cur, e, rfl, h1, h2, h3, h4, h5⟩
  · exact .inl rfl
  · exact .inr ⟨g, n, cap, cur, e, rfl, h1, h2, h3, (hb.block g (Array.getElem?_eq_some_iff.1 h4).1).trans h4, h5⟩
theorem Pen.apart {w w' : World} {u v : Value} (h : Pen w v) (hg : w.grownBy w' (inBlock u)) (hne : ∀ b, inBlock v = some b → inBlock u ≠ some b) : Pen w' v := by
  rcases h with rfl | ⟨g, n, cap, cur, e, rfl, h1, h2, h3, h4, h5⟩
  · exact .inl rfl
  · exact .inr ⟨g, n, cap, cur, e, rfl, h1, h2, h3, (hg.block g (Array.getElem?_eq_some_iff.1 h4).1 (fun e => hne g rfl e.symm)).trans h4, h5⟩
theorem Num.apart {w w' : World} {u v : Value} {n : Nat} (h : Num w v n) (hg : w.grownBy w' (inBlock u)) (hne : ∀ b, inBlock v = some b → inBlock u ≠ some b) : Num w' v n := by
  obtain ⟨xs, h1, h2⟩ := h
  refine ⟨xs, h1.grown hg ?_, h2⟩
  by_cases hx : xs = []
  · exact .inr hx
  · left
    obtain ⟨b, off, cap, e, _⟩ := h1.pos (List.length_pos_iff.2 hx)
    intro e2
    have : inBlock v = some b := by rw [e]; rfl
    exact hne b this (by rw [← e2, this])
/-- one cell is written -/
theorem Pen.at {w : World} {ao : Option Addr} {n cap k : Nat} (h : Pen w (.slice ao n cap)) (hk : k < n) :
    ∃ g, ao = some ⟨g, 0, none⟩ ∧ (∃ u, w.cell? ⟨g, k, none⟩ = some u) ∧ w.frozen? ⟨g, k, none⟩ = false ∧ ∀ x, Pen (w.setCell ⟨g, k, none⟩ x) (.slice ao n cap) ∧ w.grownBy (w.setCell ⟨g, k, none⟩ x) (some g) := by
  rcases h with h | ⟨g, n', cap', cur, e, h, h1, h2, h3, h4, h5⟩
  · simp only [Value.slice.injEq] at h; omega
  · simp only [Value.slice.injEq] at h
    obtain ⟨rfl, rfl, rfl⟩ := h
    refine ⟨g, rfl, ?_, frozen_of_row w g k _ _ h4, fun x => ⟨.inr ⟨g, n, cap, _, e, rfl, h1, h2, h3, heap_setCell_same w g k _ _ x h4, by simp; exact h5⟩, ⟨rfl, rfl, rfl, by simp, fun i _ hk => heap_setCell_other w ⟨g, k, none⟩ i _ (fun e => hk (by simp [e]))⟩⟩⟩
    rw [cell_of_row w g k _ _ (0, 0) h4]
    exact ⟨cur[k]'(by omega), by simp [show k < cur.size by omega]⟩
/-- what a loop that writes a slice holds -/
def PenO (w wr : World) (v : Value) (n : Nat) (i : Value) : Prop := ∃ k : Nat, k ≤ n ∧ i = .int .i64 (k : Int) ∧ Pen wr v ∧ w.grownBy wr (inBlock v)
end Go.Proofs.YtafeokkkbiaajabDoor
