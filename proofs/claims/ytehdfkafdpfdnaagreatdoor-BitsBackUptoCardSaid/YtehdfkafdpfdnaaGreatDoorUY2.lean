/- YD YE YF YG YH YI. -/
import Derived.Test.YtehdfkafdpfdnaaGreatDoorUY1
import Derived.Test.YtehdfkafdpfdnaaGreatDoorUMA
import Derived.Test.YtehdfkafdpfdnaaGreatDoorURF
import Derived.Deep.RegionHeld3
import Derived.Test.YtehdfkafdpfdnaaGreatDoorUZ3
set_option linter.unusedVariables false
set_option linter.unusedSimpArgs false
/- tribunalref02: addD, subD, cmpD. -/
namespace Go.Proofs.YtehdfkafdpfdnaaGreatDoor
open Go.RowKit Mth

/-- digits of a number, zeros on top or not -/
def DNum (w : World) (v : Value) (n : Nat) : Prop := ∃ ys, Sl w .u16 v ys ∧ Lim B16 ys ∧ val B16 ys = n
theorem DNum.below {w w' : World} {v : Value} {n : Nat} (h : DNum w v n) (hb : Below w.heap.size w w') : DNum w' v n := by
  obtain ⟨ys, h1, h2⟩ := h; exact ⟨ys, h1.below hb, h2⟩

end Go.Proofs.YtehdfkafdpfdnaaGreatDoor

/- tribunalref02: subD. -/
namespace Go.Proofs.YtehdfkafdpfdnaaGreatDoor
open Go.RowKit Mth

end Go.Proofs.YtehdfkafdpfdnaaGreatDoor

/- tribunalref02: cmpD. -/
namespace Go.Proofs.YtehdfkafdpfdnaaGreatDoor
open Go.RowKit Mth

end Go.Proofs.YtehdfkafdpfdnaaGreatDoor

/- tribunalref02: Plus. -/
namespace Go.Proofs.YtehdfkafdpfdnaaGreatDoor
open Go.RowKit Mth

/-- one block of a sign and a slice is the call's to write -/
def Zk (W w' : World) (R : Nat) (T : TypeId) : Prop := W.grownBy w' (some R) ∧ ∃ x ao n c, w'.heap[R]? = some (.cells #[.bool x, .slice ao n c] T (0, 0))
theorem Zk.drew {W w1 : World} {R : Nat} {T : TypeId} (h : Zk W w1 R T) : Zk W w1.drew R T := ⟨grown_trans' h.1 ⟨rfl, rfl, rfl, Nat.le_refl _, fun _ _ _ => rfl⟩, h.2⟩
theorem Zk.call {W w1 w2 : World} {R : Nat} {T : TypeId} (h : Zk W w1 R T) (hb : Below w1.heap.size w1 w2) : Zk W w2 R T := by
  obtain ⟨h1, x, a, n, c, h2⟩ := h
  exact ⟨grown_trans' h1 (grown_of_below hb _), x, a, n, c, (hb.block _ (Array.getElem?_eq_some_iff.1 h2).1).trans h2⟩
theorem grown_set (w1 : World) (R j : Nat) (y : Value) : w1.grownBy (w1.setCell ⟨R, j, none⟩ y) (some R) :=
  ⟨rfl, rfl, rfl, by simp, fun i _ hk => heap_setCell_other w1 ⟨R, j, none⟩ i _ (fun e => hk (by simp [e]))⟩
theorem Zk.set {W w1 : World} {R : Nat} {T : TypeId} {x : Bool} {ao : Option Addr} {n c : Nat} (h : Zk W w1 R T) : Zk W ((w1.setCell ⟨R, 0, none⟩ (.bool x)).setCell ⟨R, 1, none⟩ (.slice ao n c)) R T := by
  obtain ⟨h1, y, a, m, d, h2⟩ := h
  have k1 := heap_setCell_same w1 R 0 _ _ (.bool x) h2
  have k2 := heap_setCell_same _ R 1 _ _ (.slice ao n c) k1
  exact ⟨grown_trans' (grown_trans' h1 (grown_set _ _ _ _)) (grown_set _ _ _ _), _, _, _, _, k2⟩
theorem Zk.cell {W w1 : World} {R b o : Nat} {T : TypeId} {v : Value} (h : Zk W w1 R T) (hc : W.cell? ⟨b, o, none⟩ = some v) (hne : b ≠ R) : w1.cell? ⟨b, o, none⟩ = some v := h.1.cell hc (by simpa using hne)
theorem Zk.below {w W w1 : World} {R : Nat} {T : TypeId} (h : Zk W w1 R T) (hb : Below w.heap.size w W) (hR : w.heap.size ≤ R) : Below w.heap.size w w1 := below_of_grown hb h.1 hR hb.size

end Go.Proofs.YtehdfkafdpfdnaaGreatDoor

/- tribunalref02: Add, Sub. -/
namespace Go.Proofs.YtehdfkafdpfdnaaGreatDoor
open Go.RowKit Mth

end Go.Proofs.YtehdfkafdpfdnaaGreatDoor

/- tribunalref02: Same, of two canonical Ints of one number. -/
namespace Go.Proofs.YtehdfkafdpfdnaaGreatDoor
open Go.RowKit Mth

end Go.Proofs.YtehdfkafdpfdnaaGreatDoor
