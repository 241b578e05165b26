/- Div64 DivLimb. -/
import Derived.Test.YtehdfkafdpfdnaaGreatDoorURF
import Derived.Test.YtehdfkafdpfdnaaGreatDoorUMA
set_option linter.unusedVariables false
set_option linter.unusedSimpArgs false
/- math/bits: LeadingZeros64, Div64. -/
namespace Go.Proofs.YtehdfkafdpfdnaaGreatDoor
open Go.RowKit Mth

/-- nothing but draws -/
def Drawn (w w' : World) : Prop := ∃ m, w' = w.drewN m
theorem Drawn.below {w w' : World} (h : Drawn w w') : Below w.heap.size w w' := by
  obtain ⟨m, rfl⟩ := h
  exact bdrawn (Below.refl _ _) m
end Go.Proofs.YtehdfkafdpfdnaaGreatDoor

/- nat: divideByLimb, restByLimb. -/
namespace Go.Proofs.YtehdfkafdpfdnaaGreatDoor
open Go.RowKit Mth

end Go.Proofs.YtehdfkafdpfdnaaGreatDoor
