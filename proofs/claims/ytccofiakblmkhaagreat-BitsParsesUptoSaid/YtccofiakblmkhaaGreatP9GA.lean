/- Package whole: Gcd. -/
import Derived.Test.YtccofiakblmkhaaGreatP9ZB4
import Derived.Test.YtccofiakblmkhaaGreatP9GC
import Derived.Test.YtccofiakblmkhaaGreatP9Z3
set_option linter.unusedVariables false
set_option linter.unusedSimpArgs false
namespace Go.Proofs.YtccofiakblmkhaaGreat
open Go.RowKit Mth

end Go.Proofs.YtccofiakblmkhaaGreat
