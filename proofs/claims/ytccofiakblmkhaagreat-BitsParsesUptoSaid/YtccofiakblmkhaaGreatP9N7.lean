/- 9K 9LA 9LB. -/
import Derived.Test.YtccofiakblmkhaaGreatP9N3
import Derived.Lib.SmallJoins
import Derived.Test.YtccofiakblmkhaaGreatP99ID
import Derived.Test.YtccofiakblmkhaaGreatP99IC
import Derived.Test.YtccofiakblmkhaaGreatP99IB
import Derived.Test.YtccofiakblmkhaaGreatP99IA
import Derived.Test.YtccofiakblmkhaaGreatP9N4
import Derived.Test.YtccofiakblmkhaaGreatP9LiftV
set_option linter.unusedVariables false
set_option linter.unusedSimpArgs false
/- bits: Apply with a fault; what is no operator. -/
namespace Go.Proofs.YtccofiakblmkhaaGreat
open Go.RowKit Mth

end Go.Proofs.YtccofiakblmkhaaGreat

/- bits: comp; its Apply. -/
namespace Go.Proofs.YtccofiakblmkhaaGreat
open Go.RowKit Mth

end Go.Proofs.YtccofiakblmkhaaGreat

/- bits: Holds with a fault; Apply comp (gen9o.py). -/
namespace Go.Proofs.YtccofiakblmkhaaGreat
open Go.RowKit Mth

theorem BvA.below {w w' : World} {v : Value} {x : Int} {xs : List Nat} (h : BvA w v x xs) (hb : Below w.heap.size w w') : BvA w' v x xs := by
  obtain ⟨u, h0, h1, h2⟩ := h; exact ⟨u, h0, h1.below hb, h2⟩
theorem BvA.right {w : World} {v : Value} {x : Int} {xs : List Nat} (h : BvA w v x xs) : Calls Tryz.prog 22 #[v] w fun e w' => e = .returned (.bool (rightF x (val B64 xs))) ∧ Below w.heap.size w w' := by
  obtain ⟨u, rfl, h1, h2, h3⟩ := h; exact right_any x u xs w h1 h2
theorem BvA.v {w : World} {v : Value} {wd : Nat} {xs : List Nat} (h : BvA w v (wd : Int) xs) : BvV w v wd (val B64 xs) := by
  obtain ⟨u, rfl, h1, h2, h3⟩ := h; exact ⟨u, xs, rfl, h1, h2, h3, rfl⟩
end Go.Proofs.YtccofiakblmkhaaGreat
