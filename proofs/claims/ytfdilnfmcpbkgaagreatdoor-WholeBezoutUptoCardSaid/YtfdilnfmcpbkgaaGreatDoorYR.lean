/- tribunalref02: two. -/
import Derived.Test.YtfdilnfmcpbkgaaGreatDoorYQ
import Derived.Test.YtfdilnfmcpbkgaaGreatDoorZT
import Derived.Test.YtfdilnfmcpbkgaaGreatDoorHF
import Derived.Deep.RegionWith
set_option linter.unusedVariables false
set_option linter.unusedSimpArgs false
namespace Go.Proofs.YtfdilnfmcpbkgaaGreatDoor
open Go.RowKit Mth

theorem intk_two {w : World} {R S : Nat} {v x0 x1 y0 y1 : Value} {z : Int} {a b : Bool} {ao bo : Option Addr} {n c m d : Nat} (h : IntK w v z) (hR : w.heap[R]? = some (.cells #[.bool a, .slice ao n c] 25 (0, 0))) (hS : w.heap[S]? = some (.cells #[.bool b, .slice bo m d] 25 (0, 0))) (hne : S ≠ R) :
    IntK ((((w.setCell ⟨R, 0, none⟩ x0).setCell ⟨R, 1, none⟩ x1).setCell ⟨S, 0, none⟩ y0).setCell ⟨S, 1, none⟩ y1) v z := by
  refine (h.far hR (y0 := x0) (y1 := x1)).far (R := S) (T := 25) (x := b) (ao := bo) (n := m) (c := d) ?_
  exact blk_two hS hne

end Go.Proofs.YtfdilnfmcpbkgaaGreatDoor
