/- Package whole: Gcd. -/
import Derived.Test.YtccofiakblmkhaaGreatE9ZB4
import Derived.Test.YtccofiakblmkhaaGreatE9GC
import Derived.Test.YtccofiakblmkhaaGreatE9Z3
set_option linter.unusedVariables false
set_option linter.unusedSimpArgs false
namespace Go.Proofs.YtccofiakblmkhaaGreat
open Go.RowKit Mth

end Go.Proofs.YtccofiakblmkhaaGreat
