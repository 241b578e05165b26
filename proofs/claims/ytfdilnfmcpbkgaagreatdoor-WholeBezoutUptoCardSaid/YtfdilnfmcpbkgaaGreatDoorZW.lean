/- Package whole: Floor where nothing is long, and by nought. -/
import Derived.Test.YtfdilnfmcpbkgaaGreatDoorZQ
set_option linter.unusedVariables false
set_option linter.unusedSimpArgs false
namespace Go.Proofs.YtfdilnfmcpbkgaaGreatDoor
open Go.RowKit Mth

end Go.Proofs.YtfdilnfmcpbkgaaGreatDoor
