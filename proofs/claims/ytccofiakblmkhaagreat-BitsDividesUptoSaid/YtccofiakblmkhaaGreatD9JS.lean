/- bits: neg, not (genjs.py). -/
import Derived.Test.YtccofiakblmkhaaGreatD9N2
set_option linter.unusedVariables false
set_option linter.unusedSimpArgs false
namespace Go.Proofs.YtccofiakblmkhaaGreat
open Go.RowKit Mth

theorem vec_bound1 {wd m : Nat} (h2 : wd ≤ 4096) (hm : m < 2 ^ wd) : (m : Int).natAbs < Big ∧ ((-1 : Int) - m).natAbs < Big := by
  obtain ⟨a, b⟩ := two_big h2
  have h1 : 2 ^ wd + 2 ^ wd ≤ Big := by
    have : 2 ^ (wd + 1) ≤ Big := by
      unfold Big
      rw [b64_two]
      exact Nat.pow_le_pow_right (by omega) (by unfold maxL; omega)
    rw [Nat.pow_succ] at this
    omega
  exact ⟨by omega, by omega⟩
end Go.Proofs.YtccofiakblmkhaaGreat
