/- RatioBetween: between floor and ceiling, in plain mathematics. -/
import Derived.Test.YthgmebnihpjnoaaGreatDoorRLW
set_option linter.unusedVariables false
set_option linter.unusedSimpArgs false
namespace Go.Proofs.YthgmebnihpjnoaaGreatDoor
open Go.RowKit Mth

theorem half_le {m d : Nat} (hm : 0 < m) (hd : 2 ≤ d) : m / d + 1 ≤ m := by
  have h1 : m / d ≤ m / 2 := Nat.div_le_div_left hd (by omega)
  have h2 : m / 2 < m := Nat.div_lt_self hm (by omega)
  omega
/-- floor and ceiling are no longer than what they are of -/
theorem round_le {x : Int} {d : Nat} (h : 0 < d) : (qF x d).natAbs ≤ x.natAbs ∧ (qU x d).natAbs ≤ x.natAbs := by
  have ha := amt_qC x (d : Int)
  rw [Int.natAbs_natCast] at ha
  have hle : x.natAbs / d ≤ x.natAbs := Nat.div_le_self _ _
  have hb := rC_bounds (a := x) (dz h)
  rw [Int.natAbs_natCast] at hb
  have hc := cut_again x (d : Int)
  have key : rC x (d : Int) ≠ 0 → x.natAbs / d + 1 ≤ x.natAbs := fun hr => by
    have hx : 0 < x.natAbs := by
      rcases Nat.eq_zero_or_pos x.natAbs with h0 | h0
      · exfalso
        rw [h0, Nat.zero_div] at ha
        have hq : qC x (d : Int) = 0 := by omega
        rw [hq, Int.zero_mul] at hc
        omega
      · exact h0
    exact half_le hx (by omega)
  rcases f_cases x (d : Int) with ⟨_, h1, h2⟩ | ⟨hr, _, h1, h2⟩ | ⟨hr, _, h1, h2⟩
  · rw [h1, h2]; omega
  · have := key hr
    rw [h1, h2]; omega
  · have := key hr
    rw [h1, h2]; omega
end Go.Proofs.YthgmebnihpjnoaaGreatDoor
