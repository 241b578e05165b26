/- Package whole: Norm; tribunalref02: Of, Norm, Neg, Abs, Cmp1, Cmp, Sign. -/
import Derived.Test.YtccofiakblmkhaaGreatD9YJ
import Derived.Test.YtccofiakblmkhaaGreatD9ZB4
import Derived.Deep.RegionHeld3
set_option linter.unusedVariables false
set_option linter.unusedSimpArgs false
namespace Go.Proofs.YtccofiakblmkhaaGreat
open Go.RowKit Mth

end Go.Proofs.YtccofiakblmkhaaGreat
