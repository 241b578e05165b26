import Derived.Test.YtacbkpenohcgjaaGreatVMA
import Derived.Test.YtacbkpenohcgjaaGreatVQA
import Derived.StillTailTactics
import Derived.Deep.RegionWith
import Derived.Deep.DeepCutAuto
import Derived.Test.YtacbkpenohcgjaaGreatVRF
set_option linter.unusedVariables false
set_option linter.unusedSimpArgs false
namespace Go.Proofs.YtacbkpenohcgjaaGreat.Mth
end Go.Proofs.YtacbkpenohcgjaaGreat.Mth
namespace Go.Proofs.YtacbkpenohcgjaaGreat
open Go.RowKit Mth
end Go.Proofs.YtacbkpenohcgjaaGreat
namespace Go.Proofs.YtacbkpenohcgjaaGreat
open Go.RowKit Mth
end Go.Proofs.YtacbkpenohcgjaaGreat
namespace Go.Proofs.YtacbkpenohcgjaaGreat
open Go.RowKit Mth
theorem grown_set {w:World} {g i:Nat} {x:Value}:w.grownBy (w.setCell ⟨g,i,none⟩ x) (some g) :=
  ⟨rfl,rfl,rfl,by simp,fun k _ hk=>heap_setCell_other w ⟨g,i,none⟩ k _ (fun e=>hk (by simp [e]))⟩
end Go.Proofs.YtacbkpenohcgjaaGreat
namespace Go.Proofs.YtacbkpenohcgjaaGreat
open Go.RowKit Mth
end Go.Proofs.YtacbkpenohcgjaaGreat
namespace Go.Proofs.YtacbkpenohcgjaaGreat
open Go.RowKit Mth
end Go.Proofs.YtacbkpenohcgjaaGreat
namespace Go.Proofs.YtacbkpenohcgjaaGreat
open Go.RowKit Mth
end Go.Proofs.YtacbkpenohcgjaaGreat
