/- Text10 TextAny. -/
import Derived.Test.YtehdfkafdpfdnaaGreatDoorUDV
import Derived.Test.YtehdfkafdpfdnaaGreatDoorURF
import Derived.Test.YtehdfkafdpfdnaaGreatDoorUTX
import Derived.Test.YtehdfkafdpfdnaaGreatDoorUPA
set_option linter.unusedVariables false
set_option linter.unusedSimpArgs false
/- nat: decimalChunks, Text at the base 10; Text at every base. -/
namespace Go.Proofs.YtehdfkafdpfdnaaGreatDoor
open Go.RowKit Mth

end Go.Proofs.YtehdfkafdpfdnaaGreatDoor

/- nat.Text at every base. -/
namespace Go.Proofs.YtehdfkafdpfdnaaGreatDoor
open Go.RowKit Mth

/-- what Text answers -/
def txE (b : Int) (n : Nat) : Int := if b = 2 ∨ b = 10 ∨ b = 16 then (if Big ≤ n then 5 else 0) else 12
def txS (b : Int) (n : Nat) : List Nat := if b = 2 ∨ b = 10 ∨ b = 16 then (if Big ≤ n then [] else numeral b.toNat n) else []
theorem tx_long {b : Int} {n : Nat} (h : b = 2 ∨ b = 10 ∨ b = 16) (hn : Big ≤ n) : txS b n = [] ∧ txE b n = 5 := by
  unfold txS txE; rw [if_pos h, if_pos h, if_pos hn, if_pos hn]; exact ⟨rfl, rfl⟩
theorem tx_fine {b : Int} {n : Nat} (h : b = 2 ∨ b = 10 ∨ b = 16) (hn : ¬ Big ≤ n) : txS b n = numeral b.toNat n ∧ txE b n = 0 := by
  unfold txS txE; rw [if_pos h, if_pos h, if_neg hn, if_neg hn]; exact ⟨rfl, rfl⟩
theorem textS_num {b w : Nat} (hb : 2 ≤ b) (hw : 0 < w) (hB : B64 = b ^ w) (hc : (b : Int) = 2 ∨ (b : Int) = 10 ∨ (b : Int) = 16) {xs : List Nat} (hl : Lim B64 xs) :
    textS (dgs b w) w xs = txS (b : Int) (val B64 xs) ∧ textE xs = txE (b : Int) (val B64 xs) := by
  have hi := long_iff hl
  by_cases hlong : 4096 < (trimL xs).length
  · obtain ⟨e1, e2⟩ := tx_long hc (hi.1 hlong)
    rw [textS_long hlong, textE_long hlong, e1, e2]; exact ⟨rfl, rfl⟩
  · obtain ⟨e1, e2⟩ := tx_fine hc (fun h => hlong (hi.2 h))
    rw [textE_short hlong, e1, e2]
    refine ⟨?_, rfl⟩
    rw [Int.toNat_natCast, ← val_trimL]
    by_cases h0 : (trimL xs).length = 0
    · rw [textS_zero h0, List.eq_nil_of_length_eq_zero h0]
      simp only [val]
      rw [numeral_low (by omega)]; rfl
    · rw [textS_any hlong h0]
      have hlt := lim_trimL hl
      rw [hB] at hlt ⊢
      exact jnd_numeral hb hw (fun c h => dgs_numeral hb h hw) _ hlt (top_trimL xs) (by omega)
theorem b64_2 : B64 = 2 ^ 64 := rfl
theorem b64_16 : B64 = 16 ^ 16 := rfl
end Go.Proofs.YtehdfkafdpfdnaaGreatDoor
