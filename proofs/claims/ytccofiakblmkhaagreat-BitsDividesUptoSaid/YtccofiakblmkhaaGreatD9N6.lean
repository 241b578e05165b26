/- JW 9F 9G. -/
import Derived.Test.YtccofiakblmkhaaGreatD9N2
import Derived.Test.YtccofiakblmkhaaGreatD9N5
set_option linter.unusedVariables false
set_option linter.unusedSimpArgs false
/- bits: mathematics of a ring modulo a power of two. -/
namespace Go.Proofs.YtccofiakblmkhaaGreat
open Go.RowKit Mth

theorem vec_congr {wd : Nat} {a b : Int} (h : ((2 ^ wd : Nat) : Int) ∣ a - b) : vecN wd a = vecN wd b :=
  vec_same (Int.emod_eq_emod_iff_emod_sub_eq_zero.2 (Int.emod_eq_zero_of_dvd h))
theorem vec_off (wd : Nat) (z : Int) : ∃ t, ((vecN wd z : Nat) : Int) = z + ((2 ^ wd : Nat) : Int) * t := by
  refine ⟨-(z / ((2 ^ wd : Nat) : Int)), ?_⟩
  rw [vec_cast]
  have := Int.mul_ediv_add_emod z ((2 ^ wd : Nat) : Int)
  rw [Int.mul_neg]
  omega
theorem vec_self {wd n : Nat} (h : n < 2 ^ wd) : vecN wd (n : Int) = n := by rw [vec_nat, Nat.mod_eq_of_lt h]
end Go.Proofs.YtccofiakblmkhaaGreat

/- BitsRing: the law's own walk (genring9.py). -/
namespace Go.Proofs.YtccofiakblmkhaaGreat
open Go.RowKit Mth

theorem BvK.drewb {w : World} {wd k c n : Nat} {a : Option Addr} (h : BvK w wd a k c n) : BvK w.drew wd a k c n := h.below (Below.refl _ _).drew
end Go.Proofs.YtccofiakblmkhaaGreat

/- BitsRing: where the width is none; the walk. -/
namespace Go.Proofs.YtccofiakblmkhaaGreat
open Go.RowKit Mth

end Go.Proofs.YtccofiakblmkhaaGreat
