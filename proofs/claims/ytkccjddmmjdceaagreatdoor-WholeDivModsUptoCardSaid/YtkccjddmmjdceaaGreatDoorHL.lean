/- Package whole: a quotient that is too long at once. -/
import Derived.Test.YtkccjddmmjdceaaGreatDoorHF
set_option linter.unusedVariables false
set_option linter.unusedSimpArgs false
namespace Go.Proofs.YtkccjddmmjdceaaGreatDoor
open Go.RowKit Mth

theorem far_big {w : World} {a1 a2 : Option Addr} {t1 c1 t2 c2 : Nat} {x y : Int} (N1 : NuV w (.agg #[.slice a1 t1 c1, .bool (sgn x)]) x) (N2 : NuV w (.agg #[.slice a2 t2 c2, .bool (sgn y)]) y) (h0 : y ≠ 0) (hl : 4096 + t2 < t1) : zE (qC x y) = 5 := by
  obtain ⟨_, _, xs, s1, l1, tt1, e1⟩ := N1.parts
  obtain ⟨_, _, ys, s2, l2, tt2, e2⟩ := N2.parts
  have k1 : xs.length = t1 := by obtain ⟨_, _, e, _⟩ := s1; simp only [Value.slice.injEq] at e; omega
  have k2 : ys.length = t2 := by obtain ⟨_, _, e, _⟩ := s2; simp only [Value.slice.injEq] at e; omega
  have g1 := val_ge_top (B := B64) tt1 (by omega)
  have g2 := val_lt l2
  have g3 : B64 ^ (maxL + ys.length) ≤ B64 ^ (xs.length - 1) := pow_mono' (by unfold maxL; omega)
  have g4 : B64 ^ (maxL + ys.length) = Big * B64 ^ ys.length := by rw [Nat.pow_add]; rfl
  have g5 : Big * val B64 ys ≤ Big * B64 ^ ys.length := Nat.mul_le_mul_left _ (by omega)
  refine (z_big ?_).2
  rw [amt_qC, ← e1, ← e2]
  exact (Nat.le_div_iff_mul_le (by omega)).2 (by omega)
theorem qC_side (x y : Int) : (sgn x = sgn y → 0 ≤ qC x y) ∧ (sgn x ≠ sgn y → qC x y ≤ 0) := by
  constructor
  · intro h
    unfold qC
    rw [show (sgn x != sgn y) = false by rw [h]; simp, sg_false]
    exact Int.natCast_nonneg _
  · intro h
    unfold qC
    rw [show (sgn x != sgn y) = true by simpa using h, sg_true]
    have := Int.natCast_nonneg (x.natAbs / y.natAbs)
    omega
theorem e_big {x y : Int} (h : zE (qC x y) = 5) : zE (qE x y) = 5 := by
  have hb : Big ≤ (qC x y).natAbs := by
    rcases Nat.lt_or_ge (qC x y).natAbs Big with h1 | h1
    · have := (z_fine h1).2; omega
    · exact h1
  refine (z_big (Nat.le_trans hb ?_)).2
  unfold qE
  by_cases hr : rC x y < 0
  · have hx : sgn x = true := sgn_neg (rC_neg hr)
    have S := qC_side x y
    rw [if_pos hr]
    by_cases hy : y < 0
    · have := S.1 (by rw [hx, sgn_neg hy]); rw [if_pos hy]; omega
    · have := S.2 (by rw [hx, sgn_pos (by omega)]; simp); rw [if_neg hy]; omega
  · rw [if_neg hr]; exact Nat.le_refl _
theorem fu_big {x y : Int} (h : zE (qC x y) = 5) : zE (qF x y) = 5 ∧ zE (qU x y) = 5 := by
  have hb : Big ≤ (qC x y).natAbs := by
    rcases Nat.lt_or_ge (qC x y).natAbs Big with h1 | h1
    · have := (z_fine h1).2; omega
    · exact h1
  have S := qC_side x y
  constructor
  · refine (z_big (Nat.le_trans hb ?_)).2
    unfold qF
    split
    · rename_i h; have := S.2 h.2; omega
    · exact Nat.le_refl _
  · refine (z_big (Nat.le_trans hb ?_)).2
    unfold qU
    split
    · rename_i h; have := S.1 h.2; omega
    · exact Nat.le_refl _
end Go.Proofs.YtkccjddmmjdceaaGreatDoor
