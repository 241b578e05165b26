/- tribunalref02: Quo. -/
import Derived.Test.YtfdilnfmcpbkgaaGreatDoorYR
import Derived.Deep.RegionHeld3
set_option linter.unusedVariables false
set_option linter.unusedSimpArgs false
namespace Go.Proofs.YtfdilnfmcpbkgaaGreatDoor
open Go.RowKit Mth

theorem blk_newz {w : World} {cs : Array Value} {T : TypeId} {g : Nat} (h : g = w.heap.size) : (w.alloc (.cells cs T)).heap[g]? = some (.cells cs T (0, 0)) := by subst h; exact heap_alloc_new w _
theorem blk_ltz {w : World} {o x : Obj} {g : Nat} (hg : g < w.heap.size) (h : w.heap[g]? = some x) : (w.alloc o).heap[g]? = some x := (((Below.refl _ _).alloc (Nat.le_refl _) o).block g hg).trans h
theorem blk_own2z {w : World} {g : Nat} {x y : Value} {T : TypeId} (h : w.heap[g]? = some (.cells #[.bool false, .slice none 0 0] T (0, 0))) : ((w.setCell ⟨g, 0, none⟩ x).setCell ⟨g, 1, none⟩ y).heap[g]? = some (.cells #[x, y] T (0, 0)) :=
  heap_setCell_same _ g 1 _ _ y (heap_setCell_same w g 0 _ _ x h)
theorem blk_twoz {w : World} {g R : Nat} {y0 y1 : Value} {o : Obj} (hne : g ≠ R) (h : w.heap[g]? = some o) : ((w.setCell ⟨R, 0, none⟩ y0).setCell ⟨R, 1, none⟩ y1).heap[g]? = some o := blk_two h hne
theorem zv_allocz {w : World} {v : Value} {z : Int} {o : Obj} (h : ZV w v z) : ZV (w.alloc o) v z := h.below ((Below.refl _ _).alloc (Nat.le_refl _) _)
theorem zv_set2z {w : World} {v y0 y1 : Value} {z : Int} {R : Nat} (h : ZV w v z) (hR : w.heap[R]? = some (.cells #[.bool false, .slice none 0 0] 58 (0, 0))) : ZV ((w.setCell ⟨R, 0, none⟩ y0).setCell ⟨R, 1, none⟩ y1) v z := h.far hR
/-- what Cut has left in two boxes -/
def CutO (W wx : World) (q r : Int) (s t : Value) : Prop := ∃ (g h : Nat) (n1 : Bool) (a1 : Option Addr) (k1 c1 : Nat) (n2 : Bool) (a2 : Option Addr) (k2 c2 : Nat), s = .pointer (some ⟨g, 0, none⟩) ∧ t = .pointer (some ⟨h, 0, none⟩) ∧ wx.heap[g]? = some (.cells #[.bool n1, .slice a1 k1 c1] 58 (0, 0)) ∧ wx.heap[h]? = some (.cells #[.bool n2, .slice a2 k2 c2] 58 (0, 0)) ∧ ZV wx (.agg #[.bool n1, .slice a1 k1 c1]) q ∧ ZV wx (.agg #[.bool n2, .slice a2 k2 c2]) r ∧ Below W.heap.size W wx

end Go.Proofs.YtfdilnfmcpbkgaaGreatDoor
