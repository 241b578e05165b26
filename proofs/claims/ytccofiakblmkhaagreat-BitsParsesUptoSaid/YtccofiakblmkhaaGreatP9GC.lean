/- GcdA GcdB GcdD GcdE. -/
import Derived.Test.YtccofiakblmkhaaGreatP9MA
import Derived.Test.YtccofiakblmkhaaGreatP9QA
import Derived.StillTailTactics
import Derived.Deep.RegionWith
import Derived.Deep.DeepCutAuto
import Derived.Test.YtccofiakblmkhaaGreatP9RF
set_option linter.unusedVariables false
set_option linter.unusedSimpArgs false
/- Lehmer's way to the greatest common divisor, in plain mathematics. -/
namespace Go.Proofs.YtccofiakblmkhaaGreat.Mth

end Go.Proofs.YtccofiakblmkhaaGreat.Mth

/- nat: gcdLimbs, restByLimb, leading. -/
namespace Go.Proofs.YtccofiakblmkhaaGreat
open Go.RowKit Mth

end Go.Proofs.YtccofiakblmkhaaGreat

/- nat: simulate. -/
namespace Go.Proofs.YtccofiakblmkhaaGreat
open Go.RowKit Mth

end Go.Proofs.YtccofiakblmkhaaGreat

/- nat: next, turned, apply. -/
namespace Go.Proofs.YtccofiakblmkhaaGreat
open Go.RowKit Mth

theorem grown_set {w : World} {g i : Nat} {x : Value} : w.grownBy (w.setCell ⟨g, i, none⟩ x) (some g) :=
  ⟨rfl, rfl, rfl, by simp, fun k _ hk => heap_setCell_other w ⟨g, i, none⟩ k _ (fun e => hk (by simp [e]))⟩

end Go.Proofs.YtccofiakblmkhaaGreat

/- nat: turned, apply. -/
namespace Go.Proofs.YtccofiakblmkhaaGreat
open Go.RowKit Mth

end Go.Proofs.YtccofiakblmkhaaGreat

/- nat: shrink. -/
namespace Go.Proofs.YtccofiakblmkhaaGreat
open Go.RowKit Mth

end Go.Proofs.YtccofiakblmkhaaGreat

/- nat: Gcd. -/
namespace Go.Proofs.YtccofiakblmkhaaGreat
open Go.RowKit Mth

end Go.Proofs.YtccofiakblmkhaaGreat
