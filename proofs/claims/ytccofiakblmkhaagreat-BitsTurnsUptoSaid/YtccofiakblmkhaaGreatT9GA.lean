/- Package whole: Gcd. -/
import Derived.Test.YtccofiakblmkhaaGreatT9ZB4
import Derived.Test.YtccofiakblmkhaaGreatT9GC
import Derived.Test.YtccofiakblmkhaaGreatT9Z3
set_option linter.unusedVariables false
set_option linter.unusedSimpArgs false
namespace Go.Proofs.YtccofiakblmkhaaGreat
open Go.RowKit Mth

end Go.Proofs.YtccofiakblmkhaaGreat
