/- RatioBetween: between floor and ceiling, in plain mathematics. -/
import Derived.Test.YtkbfgbkhhfligaaGreatDoorRLW
set_option linter.unusedVariables false
set_option linter.unusedSimpArgs false
namespace Go.Proofs.YtkbfgbkhhfligaaGreatDoor
open Go.RowKit Mth

theorem low1 (F : Int) : lowN F 1 = F ∧ lowD F 1 = 1 := low_one (Nat.gcd_one_right _)
/-- whole just where the rest is nought -/
theorem whole_iff {x : Int} {d : Nat} (h : 0 < d) : lowD x d = 1 ↔ rC x (d : Int) = 0 := by
  have hb := rC_bounds (a := x) (dz h)
  have hc := cut_again x (d : Int)
  constructor
  · intro e
    have hl := low_eq x h
    rw [e, show ((1 : Nat) : Int) = 1 from rfl, Int.mul_one] at hl
    have hk : (lowN x d - qC x d) * d = rC x d := by rw [Int.sub_mul, ← hl]; omega
    rcases Int.lt_trichotomy (lowN x d - qC x d) 0 with h1 | h1 | h1
    · exfalso
      have : (lowN x d - qC x d) * d ≤ (-1) * d := Int.mul_le_mul_of_nonneg_right (by omega) (Int.natCast_nonneg d)
      omega
    · rw [h1, Int.zero_mul] at hk; exact hk.symm
    · exfalso
      have : 1 * (d : Int) ≤ (lowN x d - qC x d) * d := Int.mul_le_mul_of_nonneg_right (by omega) (Int.natCast_nonneg d)
      omega
  · intro e
    have hx : x = qC x d * d := by omega
    have hu := (low_uniq (n := x) (m := qC x d) (d := d) (e := 1) h Nat.one_pos (by rw [show ((1 : Nat) : Int) = 1 from rfl, Int.mul_one]; exact hx)).2
    rw [hu, (low1 _).2]
theorem between_le {x : Int} {d : Nat} (h : 0 < d) : zcmp (qF x d * d) x ≤ 0 ∧ zcmp x (qU x d * d) ≤ 0 := by
  have hr := near_rest (a := x) (dz h)
  have hd := near_diff x (d : Int)
  have hp := posI h
  have h1 : qF x d * d ≤ x := by omega
  have h2 : x ≤ qU x d * d := by
    by_cases e : rC x (d : Int) = 0
    · rw [if_pos e] at hd
      have hU : qU x d = qF x d := by omega
      have hF : qF x d = qC x d := by
        rcases f_cases x (d : Int) with ⟨_, h, _⟩ | ⟨h, _⟩ | ⟨h, _⟩
        · exact h
        · exact absurd e h
        · exact absurd e h
      have hc := cut_again x (d : Int)
      rw [hU, hF]; omega
    · rw [if_neg e] at hd
      have hU : qU x d = qF x d + 1 := by omega
      rw [hU, Int.add_mul, Int.one_mul]
      have := hr.1
      rw [Int.natAbs_natCast] at this
      omega
  constructor
  · rcases zcmp3 (qF x d * d) x with ⟨a, _⟩ | ⟨a, _⟩ | ⟨a, b⟩ <;> omega
  · rcases zcmp3 x (qU x d * d) with ⟨a, _⟩ | ⟨a, _⟩ | ⟨a, b⟩ <;> omega
theorem whole_num {x : Int} {d : Nat} (h : 0 < d) (e : lowD x d = 1) : lowN x d = qF x d ∧ qU x d - qF x d = 0 := by
  have hr := (whole_iff h).1 e
  have hd := near_diff x (d : Int)
  rw [if_pos hr] at hd
  refine ⟨?_, hd⟩
  have hl := low_eq x h
  rw [e, show ((1 : Nat) : Int) = 1 from rfl, Int.mul_one] at hl
  rcases f_cases x (d : Int) with ⟨_, h1, _⟩ | ⟨h1, _⟩ | ⟨h1, _⟩
  · have hc := cut_again x (d : Int)
    rw [hr] at hc
    have : lowN x d * d = qC x d * d := by omega
    rw [h1]
    exact Int.eq_of_mul_eq_mul_right (dz h) this
  · exact absurd hr h1
  · exact absurd hr h1
theorem parted_num {x : Int} {d : Nat} (h : 0 < d) (e : lowD x d ≠ 1) : qU x d - qF x d = 1 := by
  have hr : rC x (d : Int) ≠ 0 := fun k => e ((whole_iff h).2 k)
  have hd := near_diff x (d : Int)
  rwa [if_neg hr] at hd
theorem half_le {m d : Nat} (hm : 0 < m) (hd : 2 ≤ d) : m / d + 1 ≤ m := by
  have h1 : m / d ≤ m / 2 := Nat.div_le_div_left hd (by omega)
  have h2 : m / 2 < m := Nat.div_lt_self hm (by omega)
  omega
/-- floor and ceiling are no longer than what they are of -/
theorem round_le {x : Int} {d : Nat} (h : 0 < d) : (qF x d).natAbs ≤ x.natAbs ∧ (qU x d).natAbs ≤ x.natAbs := by
  have ha := amt_qC x (d : Int)
  rw [Int.natAbs_natCast] at ha
  have hle : x.natAbs / d ≤ x.natAbs := Nat.div_le_self _ _
  have hb := rC_bounds (a := x) (dz h)
  rw [Int.natAbs_natCast] at hb
  have hc := cut_again x (d : Int)
  have key : rC x (d : Int) ≠ 0 → x.natAbs / d + 1 ≤ x.natAbs := fun hr => by
    have hx : 0 < x.natAbs := by
      rcases Nat.eq_zero_or_pos x.natAbs with h0 | h0
      · exfalso
        rw [h0, Nat.zero_div] at ha
        have hq : qC x (d : Int) = 0 := by omega
        rw [hq, Int.zero_mul] at hc
        omega
      · exact h0
    exact half_le hx (by omega)
  rcases f_cases x (d : Int) with ⟨_, h1, h2⟩ | ⟨hr, _, h1, h2⟩ | ⟨hr, _, h1, h2⟩
  · rw [h1, h2]; omega
  · have := key hr
    rw [h1, h2]; omega
  · have := key hr
    rw [h1, h2]; omega
end Go.Proofs.YtkbfgbkhhfligaaGreatDoor
