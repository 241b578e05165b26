/- TiMath YK YM. -/
import Derived.Test.YtehdfkafdpfdnaaGreatDoorUMA
import Derived.Test.YtehdfkafdpfdnaaGreatDoorUY2
set_option linter.unusedVariables false
set_option linter.unusedSimpArgs false
/- The product of digits of base 2^16 where a row's last carry goes into the place above; a division digit by digit from the top; plain mathematics. -/
namespace Go.Proofs.YtehdfkafdpfdnaaGreatDoor.Mth

end Go.Proofs.YtehdfkafdpfdnaaGreatDoor.Mth

/- tribunalref02: Times. -/
namespace Go.Proofs.YtehdfkafdpfdnaaGreatDoor
open Go.RowKit Mth

end Go.Proofs.YtehdfkafdpfdnaaGreatDoor

/- tribunalref02: Mul. -/
namespace Go.Proofs.YtehdfkafdpfdnaaGreatDoor
open Go.RowKit Mth

end Go.Proofs.YtehdfkafdpfdnaaGreatDoor
