import Derived.Test.YtehdfkafdpfdnaaGreatVZB4
import Derived.Test.YtehdfkafdpfdnaaGreatVGC
import Derived.Test.YtehdfkafdpfdnaaGreatVZ3
set_option linter.unusedVariables false
set_option linter.unusedSimpArgs false
namespace Go.Proofs.YtehdfkafdpfdnaaGreat
open Go.RowKit Mth
end Go.Proofs.YtehdfkafdpfdnaaGreat
