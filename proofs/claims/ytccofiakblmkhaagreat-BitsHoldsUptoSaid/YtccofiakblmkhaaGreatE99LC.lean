/- BitsOrders: its cases (gen9p.py). -/
import Derived.Test.YtccofiakblmkhaaGreatE9N7
import Derived.Test.YtccofiakblmkhaaGreatE9N5
set_option linter.unusedVariables false
set_option linter.unusedSimpArgs false
namespace Go.Proofs.YtccofiakblmkhaaGreat
open Go.RowKit Mth

theorem bvlx_two {W : World} {g : Nat} {x y : Int} {xs ys : List Nat} {a0 a1 : Option Addr} {k0 c0 k1 c1 : Nat}
    (hg : W.heap[g]? = some (.cells #[.int .i64 x, .slice a0 k0 c0, .int .i64 y, .slice a1 k1 c1] 28 (0, 0)))
    (h0 : BvA W (.agg #[.int .i64 x, .slice a0 k0 c0]) x xs) (h1 : BvA W (.agg #[.int .i64 y, .slice a1 k1 c1]) y ys) : BvLX W (.slice (some ⟨g, 0, none⟩) 2 2) [(x, xs), (y, ys)] := by
  refine ⟨_, 2, rfl, fun _ => ⟨g, 0, rfl, (Array.getElem?_eq_some_iff.1 hg).1, fun i p hp => ?_⟩⟩
  match i, hp with
  | 0, hp =>
    cases hp
    obtain ⟨u, e, s, l, f⟩ := h0
    simp only [Value.agg.injEq, Array.mk.injEq, List.cons.injEq, and_true, true_and] at e
    subst e
    exact ⟨_, by rw [cell_of_row _ _ _ _ _ (0, 0) hg]; rfl, by rw [cell_of_row _ _ _ _ _ (0, 0) hg]; rfl, s, l, f⟩
  | 1, hp =>
    cases hp
    obtain ⟨u, e, s, l, f⟩ := h1
    simp only [Value.agg.injEq, Array.mk.injEq, List.cons.injEq, and_true, true_and] at e
    subst e
    exact ⟨_, by rw [cell_of_row _ _ _ _ _ (0, 0) hg]; rfl, by rw [cell_of_row _ _ _ _ _ (0, 0) hg]; rfl, s, l, f⟩
end Go.Proofs.YtccofiakblmkhaaGreat
