/- RatioLaws: what the calls say, in plain mathematics. -/
import Derived.Test.YthgmebnihpjnoaaGreatDoorQB4
set_option linter.unusedVariables false
set_option linter.unusedSimpArgs false
namespace Go.Proofs.YthgmebnihpjnoaaGreatDoor
open Go.RowKit Mth

theorem frv_zero (w : World) : FrV w zRat 0 0 := ⟨none, 0, 0, none, 0, 0, rfl, num_nil w, num_nil w⟩
end Go.Proofs.YthgmebnihpjnoaaGreatDoor
