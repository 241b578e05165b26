/- tribunalref02: Small1. -/
import Derived.Test.YtccofiakblmkhaaGreatP9Y2
set_option linter.unusedVariables false
set_option linter.unusedSimpArgs false
namespace Go.Proofs.YtccofiakblmkhaaGreat
open Go.RowKit Mth

end Go.Proofs.YtccofiakblmkhaaGreat
