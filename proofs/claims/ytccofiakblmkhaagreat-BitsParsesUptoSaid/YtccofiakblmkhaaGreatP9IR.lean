/- bits: mul (genio.py). -/
import Derived.Test.YtccofiakblmkhaaGreatP9N2
set_option linter.unusedVariables false
set_option linter.unusedSimpArgs false
namespace Go.Proofs.YtccofiakblmkhaaGreat
open Go.RowKit Mth

end Go.Proofs.YtccofiakblmkhaaGreat
