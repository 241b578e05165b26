/- Numerals are read as the numbers that they are. -/
import Derived.Test.YtkbfgbkhhfligaaGreatDoorPA
import Derived.Test.YtkbfgbkhhfligaaGreatDoorTT
import Derived.Test.YtkbfgbkhhfligaaGreatDoorMB
set_option linter.unusedVariables false
set_option linter.unusedSimpArgs false
namespace Go.Proofs.YtkbfgbkhhfligaaGreatDoor
open Go.RowKit Mth

/-- the value of a list of digits -/
def plv (b : Nat) (l : List Nat) : Nat := l.foldl (fun a c => a * b + dgv c) 0
theorem plv_snoc (b : Nat) (l : List Nat) (c : Nat) : plv b (l ++ [c]) = plv b l * b + dgv c := by simp [plv, List.foldl_append]
theorem bt_bytes {l : List Nat} (h : ∀ x ∈ l, x < 256) (j : Nat) : bt ⟨(toBytes l).toArray⟩ j = l.getD j 0 := by
  unfold bt
  by_cases hj : j < l.length
  · have hs : j < (⟨(toBytes l).toArray⟩ : ByteArray).size := by rw [str_len]; exact hj
    rw [dif_pos hs]
    have h1 := bytes_list h j (by rw [length_toBytes]; exact hj)
    have h2 : ((⟨(toBytes l).toArray⟩ : ByteArray)[j]'hs) = (toBytes l)[j]'(by rw [length_toBytes]; exact hj) := rfl
    rw [h2]
    exact_mod_cast h1
  · have hs : ¬ j < (⟨(toBytes l).toArray⟩ : ByteArray).size := by rw [str_len]; exact hj
    rw [dif_neg hs, getD_ge l j (by omega)]
theorem pv_list {b : Nat} {l : List Nat} (h : ∀ x ∈ l, x < 256) : ∀ k, k ≤ l.length → pv ⟨(toBytes l).toArray⟩ b k = plv b (l.take k)
  | 0, _ => by simp [pv, plv]
  | k + 1, hk => by
    rw [take_snoc (by omega), plv_snoc, ← pv_list h k (by omega)]
    show pv _ b k * b + dgv (bt _ k) = _
    rw [bt_bytes h]
theorem pv_all {b : Nat} {l : List Nat} (h : ∀ x ∈ l, x < 256) : pv ⟨(toBytes l).toArray⟩ b (⟨(toBytes l).toArray⟩ : ByteArray).size = plv b l := by
  rw [str_len, pv_list h _ (Nat.le_refl _), List.take_length]
theorem dgv_dch {d : Nat} (h : d < 16) : dgv (dch d) = d := by
  unfold dgv dch
  by_cases h1 : d < 10
  · rw [if_pos h1, if_pos (by omega)]; omega
  · rw [if_neg h1, if_neg (by omega), if_pos (by omega)]; omega
theorem plv_numeral {b : Nat} (hb : 2 ≤ b) (hb2 : b ≤ 16) (n : Nat) : plv b (numeral b n) = n := by
  induction n using Nat.strongRecOn with
  | _ n ih =>
    by_cases h : n < b
    · rw [numeral_low h]
      simp [plv, dgv_dch (show n < 16 by omega)]
    · rw [numeral_step hb h, plv_snoc, ih (n / b) (Nat.div_lt_self (by omega) hb), dgv_dch (Nat.lt_of_lt_of_le (Nat.mod_lt _ (by omega)) hb2), Nat.mul_comm]
      exact Nat.div_add_mod _ _
theorem plv_nought (b : Nat) (l : List Nat) : plv b (48 :: l) = plv b l := by
  have : dgv 48 = 0 := rfl
  simp [plv, this]
theorem numeral_digits {b : Nat} (hb : 2 ≤ b) (hb2 : b ≤ 16) (n : Nat) : ∀ x ∈ numeral b n, dgv x < b := by
  induction n using Nat.strongRecOn with
  | _ n ih =>
    by_cases h : n < b
    · rw [numeral_low h]
      intro x hx
      simp at hx
      subst hx
      rw [dgv_dch (by omega)]; exact h
    · rw [numeral_step hb h]
      intro x hx
      rcases List.mem_append.1 hx with h1 | h1
      · exact ih _ (Nat.div_lt_self (by omega) hb) x h1
      · simp at h1
        subst h1
        have := Nat.mod_lt n (show 0 < b by omega)
        rw [dgv_dch (by omega)]; exact this
theorem numeral_ne {b : Nat} (hb : 2 ≤ b) (n : Nat) : numeral b n ≠ [] := by
  by_cases h : n < b
  · rw [numeral_low h]; simp
  · rw [numeral_step hb h]; simp
theorem okD_list {b : Nat} {l : List Nat} (h : ∀ x ∈ l, x < 256) (hd : ∀ x ∈ l, dgv x < b) (hne : l ≠ []) : okD ⟨(toBytes l).toArray⟩ b := by
  refine ⟨?_, fun i hi => ?_⟩
  · rw [str_len]
    have := List.length_pos_iff.2 hne
    omega
  · rw [str_len] at hi
    rw [bt_bytes h]
    refine hd _ ?_
    rw [List.getD_eq_getElem?_getD, List.getElem?_eq_getElem hi]
    exact List.getElem_mem hi
/-- a list of digits is read as its value -/
theorem par_list {b N : Nat} {l : List Nat} (hb : (b : Int) = 2 ∨ (b : Int) = 10 ∨ (b : Int) = 16) (h : ∀ x ∈ l, x < 256) (hd : ∀ x ∈ l, dgv x < b) (hne : l ≠ []) (hv : plv b l = N) (hN : N < Big) : ParIs ⟨(toBytes l).toArray⟩ (b : Int) N 0 := by
  have hok := okD_list h hd hne
  have hc := cut_small hN
  refine ⟨fun h1 => absurd hb h1, fun n e _ h1 => ?_, fun n e _ _ => ?_⟩
  · obtain rfl : b = n := by omega
    exact absurd hok h1
  · obtain rfl : b = n := by omega
    rw [pv_all h, hv, hc.1, hc.2]; exact ⟨rfl, rfl⟩
theorem par_numeral {b N : Nat} (hb : (b : Int) = 2 ∨ (b : Int) = 10 ∨ (b : Int) = 16) (hN : N < Big) : ParIs ⟨(toBytes (numeral b N)).toArray⟩ (b : Int) N 0 :=
  par_list hb (numeral_lt (by omega) (by omega) N) (numeral_digits (by omega) (by omega) N) (numeral_ne (by omega) N) (plv_numeral (by omega) (by omega) N) hN
theorem par_nought {b N : Nat} (hb : (b : Int) = 2 ∨ (b : Int) = 10 ∨ (b : Int) = 16) (hN : N < Big) : ParIs ⟨(toBytes (48 :: numeral b N)).toArray⟩ (b : Int) N 0 :=
  par_list hb (fun x hx => by
      rcases List.mem_cons.1 hx with e | e
      · subst e; omega
      · exact numeral_lt (by omega) (by omega) N x e) (fun x hx => by
      rcases List.mem_cons.1 hx with e | e
      · subst e
        have : dgv 48 = 0 := rfl
        omega
      · exact numeral_digits (by omega) (by omega) N x e) (by simp) (by rw [plv_nought]; exact plv_numeral (by omega) (by omega) N) hN
theorem numeral_size {b N : Nat} (hb : 2 ≤ b) (hN : N < Big) : (numeral b N).length ≤ 262144 := by
  have h : N < b ^ (64 * maxL) := by
    rw [big_pow] at hN
    exact Nat.lt_of_lt_of_le hN (Nat.pow_le_pow_left hb _)
  have := numeral_len hb h (by unfold maxL; omega)
  unfold maxL at this
  exact this
end Go.Proofs.YtkbfgbkhhfligaaGreatDoor
