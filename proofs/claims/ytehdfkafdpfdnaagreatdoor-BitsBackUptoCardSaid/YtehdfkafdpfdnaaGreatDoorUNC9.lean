/- YV YX. -/
import Derived.Test.YtehdfkafdpfdnaaGreatDoorUYB4
import Derived.Test.YtehdfkafdpfdnaaGreatDoorUYJ
import Derived.Test.YtehdfkafdpfdnaaGreatDoorUZB4
import Derived.Deep.RegionWith
import Derived.Deep.RegionHeld3
set_option linter.unusedVariables false
set_option linter.unusedSimpArgs false
/- tribunalref02: Rounded. -/
namespace Go.Proofs.YtehdfkafdpfdnaaGreatDoor
open Go.RowKit Mth

end Go.Proofs.YtehdfkafdpfdnaaGreatDoor

/- tribunalref02: Euclid. -/
namespace Go.Proofs.YtehdfkafdpfdnaaGreatDoor
open Go.RowKit Mth

/-- what stays while Euclid adds: four boxes and their numbers; the two result blocks are its own to write -/
def Eu (w w' : World) (Q R O B R1 R2 : Nat) (oq orr oo ob : Obj) (vq vr vo vb : Value) (zq zr zo zb : Int) (T : TypeId) : Prop :=
  Below w.heap.size w w' ∧ (w'.heap[Q]? = some oq ∧ w'.heap[R]? = some orr ∧ w'.heap[O]? = some oo ∧ w'.heap[B]? = some ob) ∧ (IsB w' R1 T ∧ IsB w' R2 T) ∧ (ZV w' vq zq ∧ ZV w' vr zr ∧ ZV w' vo zo ∧ ZV w' vb zb)
theorem Eu.call {w w1 w2 : World} {Q R O B R1 R2 : Nat} {oq orr oo ob : Obj} {vq vr vo vb : Value} {zq zr zo zb : Int} {T : TypeId} (h : Eu w w1 Q R O B R1 R2 oq orr oo ob vq vr vo vb zq zr zo zb T) (hb : Below w1.heap.size w1 w2) : Eu w w2 Q R O B R1 R2 oq orr oo ob vq vr vo vb zq zr zo zb T := by
  obtain ⟨h1, ⟨h2, h3, h4, h5⟩, ⟨h6, h7⟩, ⟨h8, h9, h10, h11⟩⟩ := h
  exact ⟨below_of h1 hb, ⟨blk_below' hb h2, blk_below' hb h3, blk_below' hb h4, blk_below' hb h5⟩, ⟨h6.call hb, h7.call hb⟩, ⟨h8.below hb, h9.below hb, h10.below hb, h11.below hb⟩⟩
theorem Eu.drew {w w1 : World} {Q R O B R1 R2 : Nat} {oq orr oo ob : Obj} {vq vr vo vb : Value} {zq zr zo zb : Int} {T : TypeId} (h : Eu w w1 Q R O B R1 R2 oq orr oo ob vq vr vo vb zq zr zo zb T) : Eu w w1.drew Q R O B R1 R2 oq orr oo ob vq vr vo vb zq zr zo zb T := ⟨h.1.drew, h.2⟩
end Go.Proofs.YtehdfkafdpfdnaaGreatDoor
