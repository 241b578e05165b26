/- Package whole: Floor where nothing is long, and by nought. -/
import Derived.Test.YtkccjddmmjdceaaDoorZQ
set_option linter.unusedVariables false
set_option linter.unusedSimpArgs false
namespace Go.Proofs.YtkccjddmmjdceaaDoor
open Go.RowKit Mth

end Go.Proofs.YtkccjddmmjdceaaDoor
