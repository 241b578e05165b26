/- Package whole: Gcd. -/
import Derived.Test.YtehdfkafdpfdnaaGreatDoorUZB4
import Derived.Test.YtehdfkafdpfdnaaGreatDoorUGC
import Derived.Test.YtehdfkafdpfdnaaGreatDoorUZ3
set_option linter.unusedVariables false
set_option linter.unusedSimpArgs false
namespace Go.Proofs.YtehdfkafdpfdnaaGreatDoor
open Go.RowKit Mth

end Go.Proofs.YtehdfkafdpfdnaaGreatDoor
