/- Numerals are read as the numbers that they are. -/
import Derived.Test.YthgmebnihpjnoaaGreatDoorPA
import Derived.Test.YthgmebnihpjnoaaGreatDoorTT
import Derived.Test.YthgmebnihpjnoaaGreatDoorMB
set_option linter.unusedVariables false
set_option linter.unusedSimpArgs false
namespace Go.Proofs.YthgmebnihpjnoaaGreatDoor
open Go.RowKit Mth

theorem numeral_size {b N : Nat} (hb : 2 ≤ b) (hN : N < Big) : (numeral b N).length ≤ 262144 := by
  have h : N < b ^ (64 * maxL) := by
    rw [big_pow] at hN
    exact Nat.lt_of_lt_of_le hN (Nat.pow_le_pow_left hb _)
  have := numeral_len hb h (by unfold maxL; omega)
  unfold maxL at this
  exact this
end Go.Proofs.YthgmebnihpjnoaaGreatDoor
