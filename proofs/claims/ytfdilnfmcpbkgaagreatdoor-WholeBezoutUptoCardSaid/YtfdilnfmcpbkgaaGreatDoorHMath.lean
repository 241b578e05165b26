/- Division by hand of long numbers, in plain mathematics: carry and borrow apart; a guess by the two highest limbs. -/
import Derived.Test.YtfdilnfmcpbkgaaGreatDoorMA
set_option linter.unusedVariables false
set_option linter.unusedSimpArgs false
namespace Go.Proofs.YtfdilnfmcpbkgaaGreatDoor.Mth

theorem tkT_gen {R R' : List Nat} {off : Nat} {b : List Nat} {x k c s' c' : Nat} (h : TkT R R' off b x k c) (hx : x < B64) (hb : Lim B64 b) (hk : k < b.length) (hoff : off + b.length ≤ R.length) (hs : s' < B64)
    (e1 : s' + x * b.getD k 0 + c = R'.getD (off + k) 0 + B64 * c') : TkT R (R'.set (off + k) s') off b x (k + 1) c' := by
  have hl := h.len
  have hc' : c' < B64 := by
    have h1 := hb k
    have h2 : x * b.getD k 0 ≤ (B64 - 1) * (B64 - 1) := Nat.mul_le_mul (by omega) (by omega)
    have h3 : (B64 - 1) * (B64 - 1) + 2 * (B64 - 1) < B64 * B64 := by unfold B64; omega
    have := h.clt
    have h4 : B64 * c' < B64 * B64 := by omega
    exact Nat.lt_of_mul_lt_mul_left h4
  refine ⟨by rw [List.length_set, hl], ?_, lim_set h.lim hs _, hc', ?_⟩
  · intro j hj
    rw [getD_set' _ _ _ _ (by omega), if_neg (by omega)]
    exact h.rest j (by omega)
  · rw [seg_succ _ _ _ (by rw [List.length_set]; omega), getD_set' _ _ _ _ (by omega), if_pos rfl, seg_succ R off k (by omega), val_take_succ B64 b k hk]
    have e0 : seg (R'.set (off + k) s') off k = seg R' off k :=
      seg_congr (by rw [List.length_set]) (fun j h1 h2 => by rw [getD_set' _ _ _ _ (by omega), if_neg (by omega)]) (by rw [List.length_set]; omega)
    rw [e0]
    have e3 := h.eq
    have e4 := h.rest (off + k) (by omega)
    rw [e4] at e1
    generalize b.getD k 0 = y at *
    generalize R.getD (off + k) 0 = s at *
    generalize seg R' off k = s1 at *
    generalize seg R off k = s2 at *
    generalize val B64 (b.take k) = vb at *
    have e7 : B64 ^ k * s' + B64 ^ k * (x * y) + B64 ^ k * c = B64 ^ k * s + B64 ^ k * (B64 * c') := by rw [← Nat.mul_add, ← Nat.mul_add, e1, Nat.mul_add]
    have e8 : x * (B64 ^ k * y) = B64 ^ k * (x * y) := Nat.mul_left_comm _ _ _
    rw [Nat.pow_succ, Nat.mul_assoc, Nat.mul_add x vb, e8]
    omega
/-- one round with carry and borrow apart -/
theorem two_eq {x y c d s : Nat} (hs : s < B64) (hd : d ≤ 1) :
    sLo s (aLo (mLo x y) c 0) d + x * y + (c + d) = s + B64 * (mHi x y + aHi (mLo x y) c 0 + sHi s (aLo (mLo x y) c 0) d) := by
  have e1 := m_eq x y
  have e2 := a_eq (mLo x y) c 0
  have e3 := s_eq (x := s) (y := aLo (mLo x y) c 0) (b := d) hs (aLo_lt _ _ _) hd
  rw [Nat.mul_add, Nat.mul_add]
  omega
theorem two_carry {x y c : Nat} (hx : x < B64) (hy : y < B64) (hc : c < B64) : mHi x y + aHi (mLo x y) c 0 < B64 := by
  have e1 := m_eq x y
  have e2 := a_eq (mLo x y) c 0
  have h2 : x * y ≤ (B64 - 1) * (B64 - 1) := Nat.mul_le_mul (by omega) (by omega)
  have h3 : (B64 - 1) * (B64 - 1) + 2 * (B64 - 1) < B64 * B64 := by unfold B64; omega
  have h4 : B64 * (mHi x y + aHi (mLo x y) c 0) < B64 * B64 := by rw [Nat.mul_add]; omega
  exact Nat.lt_of_mul_lt_mul_left h4
theorem sLo_two {s c d : Nat} (hs : s < B64) (hc : c + d < B64) : sLo s c d = if c + d ≤ s then s - (c + d) else s + B64 - (c + d) := by
  unfold sLo
  unfold B64 at *
  split <;> omega
theorem sHi_two {s c d : Nat} : ((((sHi s c d : Nat) : Int) != 0) : Bool) = decide (s < c + d) := by
  unfold sHi
  by_cases h : s < c + d
  · rw [if_pos h, decide_eq_true h]; rfl
  · rw [if_neg h, decide_eq_false h]; rfl

/-- the guess that whole makes: the highest limbs, b's two, divided; all ones, if that is no limb -/
def gsq (T E : Nat) : Nat := if T / E < B64 then T / E else B64 - 1
theorem gsq_lt (T E : Nat) : gsq T E < B64 := by unfold gsq; have := B64_pos; split <;> omega
theorem gsq_ok {M P D T E Pl Dl : Nat} (hP : P = T * M + Pl) (hPl : Pl < M) (hD : D = E * M + Dl) (hDl : Dl < M) (hE : B64 ≤ E ∨ M = 1) (hE0 : 0 < E) (hlt : P < B64 * D) :
    P / D ≤ gsq T E ∧ gsq T E ≤ P / D + 1 := by
  rcases hE with hE | rfl
  · by_cases h : T / E < B64
    · have := guess_ok hP hPl hD hDl hE rfl h
      rw [gsq, if_pos h]; exact this
    · rw [gsq, if_neg h]
      have hM : 0 < M := by omega
      have hD0 : 0 < D := by have := Nat.mul_pos hE0 hM; omega
      constructor
      · have := (Nat.div_lt_iff_lt_mul hD0).2 hlt
        omega
      · have h1 : B64 * E ≤ T := (Nat.le_div_iff_mul_le hE0).1 (by omega)
        have h2 : B64 * E * M ≤ T * M := Nat.mul_le_mul_right _ h1
        have h3 : (B64 - 2) * D ≤ P := by
          have h4 : (B64 - 2) * D ≤ (B64 - 2) * ((E + 1) * M) := Nat.mul_le_mul_left _ (by rw [hD, Nat.add_mul, Nat.one_mul]; omega)
          have h5 : (B64 - 2) * (E + 1) ≤ B64 * E := by
            unfold B64 at *
            omega
          have h6 : (B64 - 2) * (E + 1) * M ≤ B64 * E * M := Nat.mul_le_mul_right _ h5
          rw [Nat.mul_assoc] at h6
          omega
        have := (Nat.le_div_iff_mul_le hD0).2 h3
        unfold B64 at *
        omega
  · have e1 : P = T := by omega
    have e2 : D = E := by omega
    subst e1 e2
    have h : P / D < B64 := (Nat.div_lt_iff_lt_mul hE0).2 hlt
    rw [gsq, if_pos h]
    exact ⟨Nat.le_refl _, Nat.le_succ _⟩
end Go.Proofs.YtfdilnfmcpbkgaaGreatDoor.Mth
