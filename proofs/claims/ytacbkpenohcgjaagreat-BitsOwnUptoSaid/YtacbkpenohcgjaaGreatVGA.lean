import Derived.Test.YtacbkpenohcgjaaGreatVZB4
import Derived.Test.YtacbkpenohcgjaaGreatVGC
import Derived.Test.YtacbkpenohcgjaaGreatVZ3
set_option linter.unusedVariables false
set_option linter.unusedSimpArgs false
namespace Go.Proofs.YtacbkpenohcgjaaGreat
open Go.RowKit Mth
end Go.Proofs.YtacbkpenohcgjaaGreat
