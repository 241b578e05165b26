/- Decimal digits, four at a time, in plain mathematics. -/
import Derived.Test.YthgmebnihpjnoaaGreatDoorMA
import Derived.Test.YthgmebnihpjnoaaGreatDoorY3
set_option linter.unusedVariables false
set_option linter.unusedSimpArgs false
namespace Go.Proofs.YthgmebnihpjnoaaGreatDoor.Mth

theorem digs_add (b u c : Nat) : ∀ w, digs b (u + w) c = digs b u (c / b ^ w) ++ digs b w c
  | 0 => by simp [digs]
  | w + 1 => by
    have ih := digs_add b u (c / b) w
    rw [← Nat.add_assoc]
    simp only [digs]
    rw [ih, List.append_assoc, Nat.div_div_eq_div_mul, ← Nat.pow_succ']
theorem length_digs (b : Nat) : ∀ w c, (digs b w c).length = w
  | 0, _ => rfl
  | w + 1, c => by simp [digs, length_digs b w]
/-- four digits of a number -/
def q4 (m : Nat) : List Nat := [48 + m / 1000, 48 + m / 100 % 10, 48 + m / 10 % 10, 48 + m % 10]
theorem dch_low {d : Nat} (h : d < 10) : dch d = 48 + d := if_pos h
theorem digs_four (n : Nat) : digs 10 4 n = q4 (n % 10000) := by
  simp only [digs, List.nil_append, List.cons_append, q4]
  rw [dch_low (by omega), dch_low (by omega), dch_low (by omega), dch_low (by omega)]
  have e1 : n / 10 / 10 / 10 % 10 = n % 10000 / 1000 := by omega
  have e2 : n / 10 / 10 % 10 = n % 10000 / 100 % 10 := by omega
  have e3 : n / 10 % 10 = n % 10000 / 10 % 10 := by omega
  have e4 : n % 10 = n % 10000 % 10 := by omega
  rw [e1, e2, e3, e4]
/-- what Text's first loop holds: n is still to be written, S has been -/
def TzI (N n : Nat) (S : List Nat) : Prop := ∃ j, S = digs 10 (4 * j) N ∧ n = N / 10000 ^ j ∧ (0 < j → 10000 ^ (j - 1) ≤ N)
theorem tzI_start (N : Nat) : TzI N N [] := ⟨0, rfl, by simp, fun h => by omega⟩
theorem p10 (j : Nat) : (10000 : Nat) ^ j = 10 ^ (4 * j) := by rw [Nat.pow_mul]
theorem tzI_step {N n : Nat} {S : List Nat} (h : TzI N n S) (hn : n ≠ 0) : TzI N (n / 10000) (q4 (n % 10000) ++ S) := by
  obtain ⟨j, rfl, rfl, _⟩ := h
  refine ⟨j + 1, ?_, ?_, fun _ => ?_⟩
  · rw [show 4 * (j + 1) = 4 + 4 * j by omega, digs_add, ← p10, digs_four]
  · rw [Nat.div_div_eq_div_mul, ← Nat.pow_succ]
  · rw [Nat.add_sub_cancel]
    rcases Nat.lt_or_ge N (10000 ^ j) with h | h
    · exact absurd (Nat.div_eq_of_lt h) hn
    · exact h
theorem tz_gen {j N m : Nat} (h : 10000 ^ j ≤ N) (hN : N < B64 ^ m) : 13 * j < 64 * m := by
  have h1 : (2 : Nat) ^ (13 * j) ≤ 10000 ^ j := by
    rw [Nat.pow_mul]
    exact Nat.pow_le_pow_left (by omega) _
  have h2 : B64 ^ m = 2 ^ (64 * m) := by rw [Nat.pow_mul]; rfl
  rw [h2] at hN
  exact (Nat.pow_lt_pow_iff_right (by omega)).1 (Nat.lt_of_le_of_lt h1 (Nat.lt_of_le_of_lt h hN))
theorem tz_len {N n : Nat} {S : List Nat} (h : TzI N n S) (hN : N < Big) : S.length ≤ 100000 := by
  obtain ⟨j, rfl, _, h3⟩ := h
  rw [length_digs]
  rcases Nat.eq_zero_or_pos j with h0 | h0
  · omega
  · have := tz_gen (m := maxL) (h3 h0) hN
    unfold maxL at this
    omega
theorem dgs_head : ∀ (f n : Nat), n ≠ 0 → n < 10 ^ f → ∃ d r, dgs 10 f n = d :: r ∧ d ≠ 48 ∧ d < 256
  | 0, n, h, h2 => by simp at h2; omega
  | f + 1, n, h, h2 => by
    by_cases hl : n < 10
    · exact ⟨dch n, [], dgs_low hl, by rw [dch_low hl]; omega, by rw [dch_low hl]; omega⟩
    · rw [dgs_step hl]
      have e1 : dv n 10 < 10 ^ f := by
        unfold dv
        rw [Nat.div_lt_iff_lt_mul (by omega), ← Nat.pow_succ]; exact h2
      obtain ⟨d, r, e, h3, h4⟩ := dgs_head f (dv n 10) (by unfold dv; omega) e1
      exact ⟨d, r ++ [dch (md n 10)], by rw [e]; rfl, h3, h4⟩
theorem numeral_head {n : Nat} (h : n ≠ 0) : ∃ d r, numeral 10 n = d :: r ∧ d ≠ 48 ∧ d < 256 := dgs_head _ _ h (lt_pow_self (by omega))
/-- what Text's second loop holds: noughts ahead -/
def TzJ (N : Nat) (S : List Nat) : Prop := (N = 0 ∧ S = []) ∨ (N ≠ 0 ∧ ∃ m, S = List.replicate m 48 ++ numeral 10 N)
theorem tzJ_start {N : Nat} {S : List Nat} (h : TzI N 0 S) : TzJ N S := by
  obtain ⟨j, rfl, h2, h3⟩ := h
  rcases Nat.eq_zero_or_pos j with h0 | h0
  · subst h0
    simp at h2
    exact .inl ⟨h2.symm, rfl⟩
  · have hN : N ≠ 0 := by
      have := h3 h0
      have : 0 < 10000 ^ (j - 1) := Nat.pow_pos (by omega)
      omega
    have hlt : N < 10 ^ (4 * j) := by
      rw [← p10]
      rcases Nat.lt_or_ge N (10000 ^ j) with h | h
      · exact h
      · have : 0 < N / 10000 ^ j := Nat.div_pos h (Nat.pow_pos (by omega))
        omega
    refine .inr ⟨hN, 4 * j - (numeral 10 N).length, ?_⟩
    exact (pad_numeral (by omega) _ _ (by omega) hlt).symm
/-- one nought goes, or all is as it should be -/
theorem tzJ_cases {N : Nat} {S : List Nat} (h : TzJ N S) : (∃ T, S = 48 :: T ∧ 0 < T.length ∧ TzJ N T) ∨ (N = 0 ∧ S = []) ∨ (N ≠ 0 ∧ S = numeral 10 N ∧ ∃ d r, S = d :: r ∧ d ≠ 48 ∧ d < 256) := by
  rcases h with h | ⟨hN, m, rfl⟩
  · exact .inr (.inl h)
  · obtain ⟨d, r, e, h1, h2⟩ := numeral_head hN
    cases m with
    | zero => exact .inr (.inr ⟨hN, by simp, d, r, by simpa using e, h1, h2⟩)
    | succ m => exact .inl ⟨List.replicate m 48 ++ numeral 10 N, by simp [List.replicate_succ], by rw [e]; simp; omega, .inr ⟨hN, m, rfl⟩⟩
end Go.Proofs.YthgmebnihpjnoaaGreatDoor.Mth
