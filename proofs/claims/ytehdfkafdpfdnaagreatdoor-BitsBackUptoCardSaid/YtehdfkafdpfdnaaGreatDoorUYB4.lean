/- YL YQ YR YS. -/
import Derived.Test.YtehdfkafdpfdnaaGreatDoorUY3
import Derived.Test.YtehdfkafdpfdnaaGreatDoorUZB4
import Derived.Test.YtehdfkafdpfdnaaGreatDoorUHB1
import Derived.Deep.RegionWith
import Derived.Test.YtehdfkafdpfdnaaGreatDoorUQB2
import Derived.Deep.RegionHeld3
set_option linter.unusedVariables false
set_option linter.unusedSimpArgs false
/- tribunalref02: timesD, digit, divD. -/
namespace Go.Proofs.YtehdfkafdpfdnaaGreatDoor
open Go.RowKit Mth

/-- the digits lie in memory from the block base on, if anywhere -/
def Fq (base : Nat) (v : Value) : Prop := ∀ b, inBlock v = some b → base ≤ b
theorem Fq.mono {base base' : Nat} {v : Value} (h : Fq base v) (hb : base' ≤ base) : Fq base' v := fun b e => Nat.le_trans hb (h b e)
theorem QNum.grown {w w' : World} {v : Value} {n g base : Nat} (h : QNum w v n) (hg : w.grownBy w' (some g)) (hf : Fq base v) (hb : g < base) : QNum w' v n := by
  obtain ⟨ys, s, l⟩ := h
  refine ⟨ys, s.grown hg (.inl ?_), l⟩
  intro e
  have := hf g e
  omega
/-- digits of an amount, of bounded number -/
def QLen (w : World) (v : Value) (n : Nat) : Prop := ∃ ys, Sl w .u16 v ys ∧ Lim B16 ys ∧ Top ys ∧ val B16 ys = n ∧ ys.length ≤ 16500000
theorem QLen.num {w : World} {v : Value} {n : Nat} (h : QLen w v n) : QNum w v n := by
  obtain ⟨ys, s, l, t, e, _⟩ := h; exact ⟨ys, s, l, t, e⟩
theorem QLen.below {w w' : World} {v : Value} {n : Nat} (h : QLen w v n) (hb : Below w.heap.size w w') : QLen w' v n := by
  obtain ⟨ys, s, l⟩ := h; exact ⟨ys, s.below hb, l⟩
theorem len_gt {L : Nat} {ys rs : List Nat} (l : Lim B16 ys) (h : ys.length ≤ L) (t : Top rs) (hlt : val B16 rs < val B16 ys) : rs.length ≤ L :=
  Nat.le_trans (length_of_val B16_pos t ys.length (Nat.lt_trans hlt (val_lt l))) h
theorem QLen.rest {w : World} {v : Value} {n : Nat} (h : QLen w v n) {rs : List Nat} (t : Top rs) (hlt : val B16 rs < n) : rs.length ≤ 16500000 := by
  obtain ⟨ys, s, l, _, rfl, hl⟩ := h
  exact len_gt l hl t hlt
theorem QNum.shape {w : World} {v : Value} {n : Nat} (h : QNum w v n) : ∃ ao k c, v = .slice ao k c := by
  obtain ⟨ys, s, _⟩ := h
  obtain ⟨ao, c, rfl⟩ := s.shape
  exact ⟨_, _, _, rfl⟩

end Go.Proofs.YtehdfkafdpfdnaaGreatDoor

/- tribunalref02: Cut, two. -/
namespace Go.Proofs.YtehdfkafdpfdnaaGreatDoor
open Go.RowKit Mth

/-- a block of a sign and a slice -/
def IsB (w : World) (R : Nat) (T : TypeId) : Prop := ∃ x ao n c, w.heap[R]? = some (.cells #[.bool x, .slice ao n c] T (0, 0))
theorem IsB.call {w w' : World} {R : Nat} {T : TypeId} (h : IsB w R T) (hb : Below w.heap.size w w') : IsB w' R T := by
  obtain ⟨x, a, n, c, h⟩ := h
  exact ⟨x, a, n, c, (hb.block R (Array.getElem?_eq_some_iff.1 h).1).trans h⟩
theorem blk_two {w : World} {g R : Nat} {y0 y1 : Value} {o : Obj} (h : w.heap[g]? = some o) (hne : g ≠ R) : ((w.setCell ⟨R, 0, none⟩ y0).setCell ⟨R, 1, none⟩ y1).heap[g]? = some o := by
  rw [heap_setCell_other _ ⟨R, 1, none⟩ g _ hne, heap_setCell_other _ ⟨R, 0, none⟩ g _ hne]; exact h
theorem IsB.set {w : World} {R : Nat} {T : TypeId} (h : IsB w R T) (x : Bool) (ao : Option Addr) (n c : Nat) : IsB ((w.setCell ⟨R, 0, none⟩ (.bool x)).setCell ⟨R, 1, none⟩ (.slice ao n c)) R T := by
  obtain ⟨y, a, m, d, h⟩ := h
  exact ⟨_, _, _, _, heap_setCell_same _ R 1 _ _ (.slice ao n c) (heap_setCell_same w R 0 _ _ (.bool x) h)⟩
theorem IsB.far {w : World} {R Q : Nat} {T : TypeId} {y0 y1 : Value} (h : IsB w R T) (hne : R ≠ Q) : IsB ((w.setCell ⟨Q, 0, none⟩ y0).setCell ⟨Q, 1, none⟩ y1) R T := by
  obtain ⟨y, a, m, d, h⟩ := h
  exact ⟨y, a, m, d, blk_two h hne⟩
/-- two boxes stay, two result blocks are the call's to write -/
def Z2 (w w' : World) (A B R1 R2 : Nat) (oa ob : Obj) (T : TypeId) : Prop := Below w.heap.size w w' ∧ w'.heap[A]? = some oa ∧ w'.heap[B]? = some ob ∧ IsB w' R1 T ∧ IsB w' R2 T
theorem Z2.call {w w1 w2 : World} {A B R1 R2 : Nat} {oa ob : Obj} {T : TypeId} (h : Z2 w w1 A B R1 R2 oa ob T) (hb : Below w1.heap.size w1 w2) : Z2 w w2 A B R1 R2 oa ob T :=
  ⟨below_of h.1 hb, (hb.block _ (Array.getElem?_eq_some_iff.1 h.2.1).1).trans h.2.1, (hb.block _ (Array.getElem?_eq_some_iff.1 h.2.2.1).1).trans h.2.2.1, h.2.2.2.1.call hb, h.2.2.2.2.call hb⟩
theorem Z2.drew {w w1 : World} {A B R1 R2 : Nat} {oa ob : Obj} {T : TypeId} (h : Z2 w w1 A B R1 R2 oa ob T) : Z2 w w1.drew A B R1 R2 oa ob T := ⟨h.1.drew, h.2⟩
theorem QNum.below' {w w' : World} {v : Value} {n : Nat} (h : QNum w v n) (hb : Below w.heap.size w w') : QNum w' v n := h.below hb

end Go.Proofs.YtehdfkafdpfdnaaGreatDoor

/- tribunalref02: two. -/
namespace Go.Proofs.YtehdfkafdpfdnaaGreatDoor
open Go.RowKit Mth

end Go.Proofs.YtehdfkafdpfdnaaGreatDoor

/- tribunalref02: Quo. -/
namespace Go.Proofs.YtehdfkafdpfdnaaGreatDoor
open Go.RowKit Mth

end Go.Proofs.YtehdfkafdpfdnaaGreatDoor
