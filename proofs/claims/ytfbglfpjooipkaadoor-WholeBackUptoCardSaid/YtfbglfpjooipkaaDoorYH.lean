/- tribunalref02: Add, Sub. -/
import Derived.Test.YtfbglfpjooipkaaDoorYG
import Derived.Test.YtfbglfpjooipkaaDoorZN
namespace Go.Proofs.YtfbglfpjooipkaaDoor
open Go.RowKit Mth

theorem b64_b16 (L : Nat) : B64 ^ L = B16 ^ (4 * L) := by rw [Nat.pow_mul]; rfl
theorem huge_d' {L D : Nat} (h : 4 * L ≤ D) : B64 ^ L ≤ B16 ^ D := by rw [b64_b16]; exact Nat.pow_le_pow_right (by unfold B16; omega) h
theorem huge_d : HugeN ≤ HugeD := huge_d' (L := Lm) (D := Ld) (by unfold Lm Ld; omega)

end Go.Proofs.YtfbglfpjooipkaaDoor
