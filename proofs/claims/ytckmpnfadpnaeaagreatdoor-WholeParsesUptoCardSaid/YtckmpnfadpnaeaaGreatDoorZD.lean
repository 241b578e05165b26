/- Package whole: Mul. -/
import Derived.Test.YtckmpnfadpnaeaaGreatDoorZC
import Derived.Test.YtckmpnfadpnaeaaGreatDoorY1
set_option linter.unusedVariables false
set_option linter.unusedSimpArgs false
namespace Go.Proofs.YtckmpnfadpnaeaaGreatDoor
open Go.RowKit Mth

theorem mul_zE {x y : Int} (hx : x ≠ 0) (hy : y ≠ 0) : mE x.natAbs y.natAbs = zE (x * y) ∧ mN x.natAbs y.natAbs = (zN (x * y)).natAbs ∧ (!(sgn x == sgn y)) = sgn (x * y) := by
  have e : (x * y).natAbs = x.natAbs * y.natAbs := Int.natAbs_mul x y
  have hx1 : 1 ≤ x.natAbs := by omega
  have hy1 : 1 ≤ y.natAbs := by omega
  refine ⟨?_, ?_, ?_⟩
  · unfold mE zE cutE
    rw [e]
    by_cases h : Big ≤ x.natAbs ∨ Big ≤ y.natAbs
    · rw [if_pos h, if_pos]
      rcases h with h | h
      · exact Nat.le_trans h (Nat.le_mul_of_pos_right _ hy1)
      · exact Nat.le_trans h (Nat.le_mul_of_pos_left _ hx1)
    · rw [if_neg h]
  · rw [← cutN_zN, e]
    unfold mN cutN
    by_cases h : Big ≤ x.natAbs ∨ Big ≤ y.natAbs
    · rw [if_pos h, if_pos]
      rcases h with h | h
      · exact Nat.le_trans h (Nat.le_mul_of_pos_right _ hy1)
      · exact Nat.le_trans h (Nat.le_mul_of_pos_left _ hx1)
    · rw [if_neg h]
  · rw [mul_sg x y, sgn_sg (Nat.mul_pos hx1 hy1)]; cases sgn x <;> cases sgn y <;> rfl
theorem z_zero : zE 0 = 0 ∧ zN 0 = 0 := by
  have h := z_fine (z := 0) (by have := pow_pos' maxL; show 0 < Big; exact this)
  exact ⟨h.2, h.1⟩
theorem zE_or (z : Int) : zE z = 5 ∧ zN z = 0 ∨ zE z = 0 ∧ zN z = z := by
  by_cases h : Big ≤ z.natAbs
  · exact .inl ⟨(z_big h).2, (z_big h).1⟩
  · exact .inr ⟨(z_fine (by omega)).2, (z_fine (by omega)).1⟩

theorem natList_at {W : World} {g : Nat} {v1 v2 : Value} {xs ys : List Nat} (hg : W.heap[g]? = some (.cells #[v1, v2] 23 (0, 0))) (h1 : Sl W .u64 v1 xs) (h2 : Sl W .u64 v2 ys) : NatList W (.slice (some ⟨g, 0, none⟩) 2 2) [xs, ys] := by
  have hlt := (Array.getElem?_eq_some_iff.1 hg).1
  obtain ⟨a1, c1, rfl⟩ := h1.shape
  obtain ⟨a2, c2, rfl⟩ := h2.shape
  refine ⟨_, _, rfl, by simp, by unfold maxLen; omega, by simp, fun e => by simp at e, fun _ => ⟨_, _, rfl, hlt, fun j hj => ?_⟩⟩
  match j, hj with
  | 0, _ => exact ⟨_, by rw [Nat.zero_add, cell_of_row _ _ _ _ _ (0, 0) hg]; rfl, h1⟩
  | 1, _ => exact ⟨_, by rw [cell_of_row _ _ _ _ _ (0, 0) hg]; rfl, h2⟩
end Go.Proofs.YtckmpnfadpnaeaaGreatDoor
