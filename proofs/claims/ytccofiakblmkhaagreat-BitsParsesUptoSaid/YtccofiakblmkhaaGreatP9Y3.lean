/- TiMath YK YM. -/
import Derived.Test.YtccofiakblmkhaaGreatP9MA
import Derived.Test.YtccofiakblmkhaaGreatP9Y2
set_option linter.unusedVariables false
set_option linter.unusedSimpArgs false
/- The product of digits of base 2^16 where a row's last carry goes into the place above; a division digit by digit from the top; plain mathematics. -/
namespace Go.Proofs.YtccofiakblmkhaaGreat.Mth

end Go.Proofs.YtccofiakblmkhaaGreat.Mth

/- tribunalref02: Times. -/
namespace Go.Proofs.YtccofiakblmkhaaGreat
open Go.RowKit Mth

end Go.Proofs.YtccofiakblmkhaaGreat

/- tribunalref02: Mul. -/
namespace Go.Proofs.YtccofiakblmkhaaGreat
open Go.RowKit Mth

end Go.Proofs.YtccofiakblmkhaaGreat
