/- bits: fault of any operator: 9IC (gen9h.py). -/
import Derived.Test.YtccofiakblmkhaaGreatP9N3
set_option linter.unusedVariables false
set_option linter.unusedSimpArgs false
namespace Go.Proofs.YtccofiakblmkhaaGreat
open Go.RowKit Mth

end Go.Proofs.YtccofiakblmkhaaGreat
