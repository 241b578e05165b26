/- tribunalref02: Add, Sub. -/
import Derived.Test.YtckmpnfadpnaeaaDoorYG
import Derived.Test.YtckmpnfadpnaeaaDoorZN
set_option linter.unusedVariables false
set_option linter.unusedSimpArgs false
namespace Go.Proofs.YtckmpnfadpnaeaaDoor
open Go.RowKit Mth

theorem b64_b16 (L : Nat) : B64 ^ L = B16 ^ (4 * L) := by rw [Nat.pow_mul]; rfl
theorem huge_d' {L D : Nat} (h : 4 * L ≤ D) : B64 ^ L ≤ B16 ^ D := by rw [b64_b16]; exact Nat.pow_le_pow_right (by unfold B16; omega) h
theorem huge_d : HugeN ≤ HugeD := huge_d' (L := Lm) (D := Ld) (by unfold Lm Ld; omega)

end Go.Proofs.YtckmpnfadpnaeaaDoor
