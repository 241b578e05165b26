/- Numerals are read as the numbers that they are. -/
import Derived.Test.YtehdfkafdpfdnaaGreatDoorUPA
import Derived.Test.YtehdfkafdpfdnaaGreatDoorUTT
import Derived.Test.YtehdfkafdpfdnaaGreatDoorUMB
set_option linter.unusedVariables false
set_option linter.unusedSimpArgs false
namespace Go.Proofs.YtehdfkafdpfdnaaGreatDoor
open Go.RowKit Mth

/-- the value of a list of digits -/
def plv (b : Nat) (l : List Nat) : Nat := l.foldl (fun a c => a * b + dgv c) 0
theorem plv_snoc (b : Nat) (l : List Nat) (c : Nat) : plv b (l ++ [c]) = plv b l * b + dgv c := by simp [plv, List.foldl_append]
theorem bt_bytes {l : List Nat} (h : ∀ x ∈ l, x < 256) (j : Nat) : bt ⟨(toBytes l).toArray⟩ j = l.getD j 0 := by
  unfold bt
  by_cases hj : j < l.length
  · have hs : j < (⟨(toBytes l).toArray⟩ : ByteArray).size := by rw [str_len]; exact hj
    rw [dif_pos hs]
    have h1 := bytes_list h j (by rw [length_toBytes]; exact hj)
    have h2 : ((⟨(toBytes l).toArray⟩ : ByteArray)[j]'hs) = (toBytes l)[j]'(by rw [length_toBytes]; exact hj) := rfl
    rw [h2]
    exact_mod_cast h1
  · have hs : ¬ j < (⟨(toBytes l).toArray⟩ : ByteArray).size := by rw [str_len]; exact hj
    rw [dif_neg hs, getD_ge l j (by omega)]
theorem pv_list {b : Nat} {l : List Nat} (h : ∀ x ∈ l, x < 256) : ∀ k, k ≤ l.length → pv ⟨(toBytes l).toArray⟩ b k = plv b (l.take k)
  | 0, _ => by simp [pv, plv]
  | k + 1, hk => by
    rw [take_snoc (by omega), plv_snoc, ← pv_list h k (by omega)]
    show pv _ b k * b + dgv (bt _ k) = _
    rw [bt_bytes h]
theorem pv_all {b : Nat} {l : List Nat} (h : ∀ x ∈ l, x < 256) : pv ⟨(toBytes l).toArray⟩ b (⟨(toBytes l).toArray⟩ : ByteArray).size = plv b l := by
  rw [str_len, pv_list h _ (Nat.le_refl _), List.take_length]
theorem dgv_dch {d : Nat} (h : d < 16) : dgv (dch d) = d := by
  unfold dgv dch
  by_cases h1 : d < 10
  · rw [if_pos h1, if_pos (by omega)]; omega
  · rw [if_neg h1, if_neg (by omega), if_pos (by omega)]; omega
theorem okD_list {b : Nat} {l : List Nat} (h : ∀ x ∈ l, x < 256) (hd : ∀ x ∈ l, dgv x < b) (hne : l ≠ []) : okD ⟨(toBytes l).toArray⟩ b := by
  refine ⟨?_, fun i hi => ?_⟩
  · rw [str_len]
    have := List.length_pos_iff.2 hne
    omega
  · rw [str_len] at hi
    rw [bt_bytes h]
    refine hd _ ?_
    rw [List.getD_eq_getElem?_getD, List.getElem?_eq_getElem hi]
    exact List.getElem_mem hi
end Go.Proofs.YtehdfkafdpfdnaaGreatDoor
