import Derived.Test.YtehdfkafdpfdnaaGreatVN3
set_option linter.unusedVariables false
set_option linter.unusedSimpArgs false
namespace Go.Proofs.YtehdfkafdpfdnaaGreat
open Go.RowKit Mth
end Go.Proofs.YtehdfkafdpfdnaaGreat
namespace Go.Proofs.YtehdfkafdpfdnaaGreat
open Go.RowKit Mth
end Go.Proofs.YtehdfkafdpfdnaaGreat
namespace Go.Proofs.YtehdfkafdpfdnaaGreat
open Go.RowKit Mth
end Go.Proofs.YtehdfkafdpfdnaaGreat
namespace Go.Proofs.YtehdfkafdpfdnaaGreat
open Go.RowKit Mth
end Go.Proofs.YtehdfkafdpfdnaaGreat
namespace Go.Proofs.YtehdfkafdpfdnaaGreat
open Go.RowKit Mth
end Go.Proofs.YtehdfkafdpfdnaaGreat
namespace Go.Proofs.YtehdfkafdpfdnaaGreat
open Go.RowKit Mth
end Go.Proofs.YtehdfkafdpfdnaaGreat
namespace Go.Proofs.YtehdfkafdpfdnaaGreat
open Go.RowKit Mth
end Go.Proofs.YtehdfkafdpfdnaaGreat
