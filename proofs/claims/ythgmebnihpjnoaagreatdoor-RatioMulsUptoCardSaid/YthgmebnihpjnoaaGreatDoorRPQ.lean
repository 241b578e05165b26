/- tribunalref03: PlusQ (written by genrpq.py). -/
import Derived.Test.YthgmebnihpjnoaaGreatDoorQB6
import Derived.Test.YthgmebnihpjnoaaGreatDoorQB3
import Derived.Test.YthgmebnihpjnoaaGreatDoorYB4
import Derived.Deep.RegionHeld3
set_option linter.unusedVariables false
set_option linter.unusedSimpArgs false
namespace Go.Proofs.YthgmebnihpjnoaaGreatDoor
open Go.RowKit Mth

theorem bigR16 : BigR = B16 ^ 4096 := by
  rw [bigR_eq, show (4096 : Nat) = 4 * maxR from rfl, Nat.pow_mul, show B16 ^ 4 = B64 from rfl]
theorem hugeD_of {a b : Nat} (ha : a < BigR) (hb : b < BigR) : a * b < HugeD := Nat.lt_of_lt_of_le (mulR ha hb) (Nat.le_trans big_huge huge_d)
theorem bigR_huge {n : Nat} (h : n < BigR) : n < HugeD := Nat.lt_of_lt_of_le (bigR_lt h) (Nat.le_trans big_huge huge_d)
theorem not_longQ {x : Int} {d : Nat} : ¬ longQ (x, d) ↔ x.natAbs < BigR ∧ d < BigR := by
  unfold longQ
  show ¬ (BigR ≤ x.natAbs ∨ BigR ≤ d) ↔ _
  omega
end Go.Proofs.YthgmebnihpjnoaaGreatDoor
