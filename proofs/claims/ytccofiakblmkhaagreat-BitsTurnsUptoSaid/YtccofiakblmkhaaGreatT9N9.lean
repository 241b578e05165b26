/- 9QB 9QC 9QD 9QE 9QG 9QF 9QHA. -/
import Derived.Test.YtccofiakblmkhaaGreatT9N2
import Derived.Test.YtccofiakblmkhaaGreatT9JS
import Derived.IntWalk
import Derived.Test.YtccofiakblmkhaaGreatT9N4
import Derived.Test.YtccofiakblmkhaaGreatT9N8
import Derived.Test.YtccofiakblmkhaaGreatT9N5
set_option linter.unusedVariables false
set_option linter.unusedSimpArgs false
/- bits: udiv (gen9qb.py). -/
namespace Go.Proofs.YtccofiakblmkhaaGreat
open Go.RowKit Mth

end Go.Proofs.YtccofiakblmkhaaGreat

/- bits: left (gen9qb.py). -/
namespace Go.Proofs.YtccofiakblmkhaaGreat
open Go.RowKit Mth

end Go.Proofs.YtccofiakblmkhaaGreat

/- bits: sdiv (gen9qb.py). -/
namespace Go.Proofs.YtccofiakblmkhaaGreat
open Go.RowKit Mth

end Go.Proofs.YtccofiakblmkhaaGreat

/- bits: smod (gen9qb.py). -/
namespace Go.Proofs.YtccofiakblmkhaaGreat
open Go.RowKit Mth

end Go.Proofs.YtccofiakblmkhaaGreat

/- bits: mathematics of the divisions. -/
namespace Go.Proofs.YtccofiakblmkhaaGreat
open Go.RowKit Mth

theorem half_two {wd : Nat} (h : 1 ≤ wd) : 2 ^ wd = 2 * 2 ^ (wd - 1) := by
  obtain ⟨k, rfl⟩ : ∃ k, wd = k + 1 := ⟨wd - 1, by omega⟩
  rw [Nat.pow_succ, Nat.mul_comm]; rfl
theorem sgV_range {wd n : Nat} (h1 : 1 ≤ wd) (hn : n < 2 ^ wd) : -((2 ^ (wd - 1) : Nat) : Int) ≤ sgV wd n ∧ sgV wd n < ((2 ^ (wd - 1) : Nat) : Int) := by
  have h := half_two h1
  unfold sgV
  split <;> omega
theorem sgV_vec {wd : Nat} {z : Int} (h1 : 1 ≤ wd) (ha : -((2 ^ (wd - 1) : Nat) : Int) ≤ z) (hb : z < ((2 ^ (wd - 1) : Nat) : Int)) : sgV wd (vecN wd z) = z := by
  have h := half_two h1
  have hp := two_pos (wd - 1)
  have hc := vec_cast wd z
  by_cases h0 : 0 ≤ z
  · have e : (vecN wd z : Int) = z := by rw [hc]; exact Int.emod_eq_of_lt h0 (by omega)
    unfold sgV
    rw [if_neg (by omega)]; exact e
  · have e : (vecN wd z : Int) = z + ((2 ^ wd : Nat) : Int) := by
      rw [hc, ← Int.add_emod_right]
      exact Int.emod_eq_of_lt (by omega) (by omega)
    unfold sgV
    rw [if_pos (by omega)]; omega
end Go.Proofs.YtccofiakblmkhaaGreat

/- bits: the law's helpers for divisions and orders (gen9qf.py). -/
namespace Go.Proofs.YtccofiakblmkhaaGreat
open Go.RowKit Mth

theorem BvK.k0 {w : World} {wd k c n : Nat} {a : Option Addr} (h : BvK w wd a k c n) : (((k : Nat) : Int) == 0) = decide (n = 0) := by
  obtain ⟨xs, rfl, s, l, t, e, -, -⟩ := h
  by_cases hn : n = 0
  · subst hn
    have : xs = [] := top_uniq B64_pos l (lim_nil (by have := B64_pos; omega)) t rfl (by rw [e]; rfl)
    subst this
    rfl
  · rw [decide_eq_false hn]
    cases xs with
    | nil => exact absurd (show n = 0 from by rw [← e]; rfl) hn
    | cons x r => exact beq_eq_false_iff_ne.2 (by simp only [List.length_cons]; omega)
end Go.Proofs.YtccofiakblmkhaaGreat

/- BitsDivides: its cases (gendiv9.py). -/
namespace Go.Proofs.YtccofiakblmkhaaGreat
open Go.RowKit Mth

end Go.Proofs.YtccofiakblmkhaaGreat
