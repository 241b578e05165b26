/- WholeDivides: the law's own walk -/
import Derived.Test.YtkccjddmmjdceaaDoorVDb
import Derived.Test.YtkccjddmmjdceaaDoorVDc
import Derived.Test.YtkccjddmmjdceaaDoorVDd
import Derived.Deep.RegionHeld3
import Derived.Deep.RegionWith
set_option linter.unusedVariables false
set_option linter.unusedSimpArgs false
namespace Go.Proofs.YtkccjddmmjdceaaDoor
open Go.RowKit Mth

theorem wdivides_walk (w : World) (v0 v1 : Value) (x y : Int) (hz : TZ10 w) (h0 : IntV w v0 x) (h1 : IntV w v1 y) :
    Calls Tryd.prog 4 #[v0, v1] w fun e w' => e = .returned (.bool true) ∧ Below w.heap.size w w' := by
  by_cases hy : y = 0
  · subst hy
    exact wdiv_zero w v0 v1 x hz h0 h1
  · rcases div_way x hy with ⟨a, b, c, d, e, f⟩ | ⟨a, b, c, d, e, f⟩ | ⟨a, b, c, d, e, f⟩
    · exact wdiv_eq w v0 v1 x y hz h0 h1 hy a b c d e f
    · exact wdiv_gt w v0 v1 x y hz h0 h1 hy a b c d e f
    · exact wdiv_lt w v0 v1 x y hz h0 h1 hy a b c d e f
end Go.Proofs.YtkccjddmmjdceaaDoor
