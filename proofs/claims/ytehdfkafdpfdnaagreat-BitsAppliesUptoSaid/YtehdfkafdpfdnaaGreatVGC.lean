import Derived.Test.YtehdfkafdpfdnaaGreatVMA
import Derived.Test.YtehdfkafdpfdnaaGreatVQA
import Derived.StillTailTactics
import Derived.Deep.RegionWith
import Derived.Deep.DeepCutAuto
import Derived.Test.YtehdfkafdpfdnaaGreatVRF
set_option linter.unusedVariables false
set_option linter.unusedSimpArgs false
namespace Go.Proofs.YtehdfkafdpfdnaaGreat.Mth
end Go.Proofs.YtehdfkafdpfdnaaGreat.Mth
namespace Go.Proofs.YtehdfkafdpfdnaaGreat
open Go.RowKit Mth
end Go.Proofs.YtehdfkafdpfdnaaGreat
namespace Go.Proofs.YtehdfkafdpfdnaaGreat
open Go.RowKit Mth
end Go.Proofs.YtehdfkafdpfdnaaGreat
namespace Go.Proofs.YtehdfkafdpfdnaaGreat
open Go.RowKit Mth
theorem grown_set {w:World} {g i:Nat} {x:Value}:w.grownBy (w.setCell ⟨g,i,none⟩ x) (some g) :=
  ⟨rfl,rfl,rfl,by simp,fun k _ hk=>heap_setCell_other w ⟨g,i,none⟩ k _ (fun e=>hk (by simp [e]))⟩
end Go.Proofs.YtehdfkafdpfdnaaGreat
namespace Go.Proofs.YtehdfkafdpfdnaaGreat
open Go.RowKit Mth
end Go.Proofs.YtehdfkafdpfdnaaGreat
namespace Go.Proofs.YtehdfkafdpfdnaaGreat
open Go.RowKit Mth
end Go.Proofs.YtehdfkafdpfdnaaGreat
namespace Go.Proofs.YtehdfkafdpfdnaaGreat
open Go.RowKit Mth
end Go.Proofs.YtehdfkafdpfdnaaGreat
