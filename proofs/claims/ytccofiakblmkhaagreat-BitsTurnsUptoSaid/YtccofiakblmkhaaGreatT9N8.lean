/- 9D0 9D1 9D2 9D3 9D5 9D6 9D7. -/
import Derived.Test.YtccofiakblmkhaaGreatT9N3
set_option linter.unusedVariables false
set_option linter.unusedSimpArgs false
/- bits: Holds of two vectors of one width (ult). -/
namespace Go.Proofs.YtccofiakblmkhaaGreat
open Go.RowKit Mth

end Go.Proofs.YtccofiakblmkhaaGreat

/- bits: Holds of two vectors of one width (ule). -/
namespace Go.Proofs.YtccofiakblmkhaaGreat
open Go.RowKit Mth

end Go.Proofs.YtccofiakblmkhaaGreat

/- bits: Holds of two vectors of one width (ugt). -/
namespace Go.Proofs.YtccofiakblmkhaaGreat
open Go.RowKit Mth

end Go.Proofs.YtccofiakblmkhaaGreat

/- bits: Holds of two vectors of one width (uge). -/
namespace Go.Proofs.YtccofiakblmkhaaGreat
open Go.RowKit Mth

end Go.Proofs.YtccofiakblmkhaaGreat

/- bits: Holds of two vectors of one width (sle). -/
namespace Go.Proofs.YtccofiakblmkhaaGreat
open Go.RowKit Mth

end Go.Proofs.YtccofiakblmkhaaGreat

/- bits: Holds of two vectors of one width (sgt). -/
namespace Go.Proofs.YtccofiakblmkhaaGreat
open Go.RowKit Mth

end Go.Proofs.YtccofiakblmkhaaGreat

/- bits: Holds of two vectors of one width (sge). -/
namespace Go.Proofs.YtccofiakblmkhaaGreat
open Go.RowKit Mth

end Go.Proofs.YtccofiakblmkhaaGreat
