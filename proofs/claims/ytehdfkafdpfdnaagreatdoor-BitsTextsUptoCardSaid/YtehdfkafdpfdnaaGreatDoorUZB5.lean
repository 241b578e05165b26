/- ZV ZW ZX VA. -/
import Derived.Test.YtehdfkafdpfdnaaGreatDoorUZB4
import Derived.Test.YtehdfkafdpfdnaaGreatDoorUY2
set_option linter.unusedVariables false
set_option linter.unusedSimpArgs false
/- Package whole: Quo where nothing is long, and by nought. -/
namespace Go.Proofs.YtehdfkafdpfdnaaGreatDoor
open Go.RowKit Mth

end Go.Proofs.YtehdfkafdpfdnaaGreatDoor

/- Package whole: Floor where nothing is long, and by nought. -/
namespace Go.Proofs.YtehdfkafdpfdnaaGreatDoor
open Go.RowKit Mth

end Go.Proofs.YtehdfkafdpfdnaaGreatDoor

/- Package whole: Ceil where nothing is long, and by nought. -/
namespace Go.Proofs.YtehdfkafdpfdnaaGreatDoor
open Go.RowKit Mth

end Go.Proofs.YtehdfkafdpfdnaaGreatDoor

/- Package whole's calls where nothing is too long, as the laws use them; short. -/
namespace Go.Proofs.YtehdfkafdpfdnaaGreatDoor
open Go.RowKit Mth

theorem IntV.far {w : World} {v y0 y1 : Value} {z : Int} {R : Nat} {T : TypeId} {x : Bool} {ao : Option Addr} {n c : Nat} (h : IntV w v z) (hR : w.heap[R]? = some (.cells #[.bool x, .slice ao n c] T (0, 0))) : IntV ((w.setCell ⟨R, 0, none⟩ y0).setCell ⟨R, 1, none⟩ y1) v z := by
  obtain ⟨b, u, xs, e, h1, h2⟩ := h
  have hne : ∀ b off cap, u = .slice (some ⟨b, off, none⟩) xs.length cap → 0 < xs.length → b ≠ R := fun b off cap e hp => h1.ne hR e hp
  exact ⟨b, u, xs, e, (h1.set_far hne).set_far hne, h2⟩
theorem blk_far2 {w : World} {g R : Nat} {y0 y1 : Value} {o : Obj} (h : w.heap[g]? = some o) (hne : g ≠ R) : ((w.setCell ⟨R, 0, none⟩ y0).setCell ⟨R, 1, none⟩ y1).heap[g]? = some o := by
  rw [heap_setCell_other _ ⟨R, 1, none⟩ g _ hne, heap_setCell_other _ ⟨R, 0, none⟩ g _ hne]; exact h

/-- an Int that was answered: canonical, and any Int -/
def IntR (w : World) (v : Value) (z : Int) : Prop := IntK w v z ∧ IntV w v z
theorem IntR.below {w w' : World} {v : Value} {z : Int} (h : IntR w v z) (hb : Below w.heap.size w w') : IntR w' v z := ⟨h.1.below hb, h.2.below hb⟩
theorem IntR.far {w : World} {v y0 y1 : Value} {z : Int} {R : Nat} {T : TypeId} {x : Bool} {ao : Option Addr} {n c : Nat} (h : IntR w v z) (hR : w.heap[R]? = some (.cells #[.bool x, .slice ao n c] T (0, 0))) : IntR ((w.setCell ⟨R, 0, none⟩ y0).setCell ⟨R, 1, none⟩ y1) v z := ⟨h.1.far hR, h.2.far hR⟩
def Res1 (w w' : World) (e : Ending) (z : Int) : Prop := ∃ n a k c, e = .returned (.tuple #[.agg #[.bool n, .slice a k c], .int .i64 0]) ∧ IntR w' (.agg #[.bool n, .slice a k c]) z ∧ Below w.heap.size w w'
theorem IntK.r {w : World} {v : Value} {z : Int} (h : IntK w v z) (hz : z.natAbs < Big) : IntR w v z := ⟨h, h.intV hz⟩
theorem addF (va vb : Value) (x y : Int) (w : World) (ha : IntV w va x) (hb : IntV w vb y) (h : (x + y).natAbs < Big) : Calls Tryz.prog 183 #[va, vb] w fun e w' => Res1 w w' e (x + y) := (addI_any va vb x y w ha hb).mono fun e w' ⟨v', he, hi, hb⟩ => by
  rw [(z_fine h).2] at he; rw [(z_fine h).1] at hi
  obtain ⟨n, a, k, c, rfl⟩ := hi.shape
  exact ⟨n, a, k, c, he, hi.k.r h, hb⟩
theorem subF (va vb : Value) (x y : Int) (w : World) (ha : IntV w va x) (hb : IntV w vb y) (h : (x - y).natAbs < Big) : Calls Tryz.prog 56 #[va, vb] w fun e w' => Res1 w w' e (x - y) := (subI_any va vb x y w ha hb).mono fun e w' ⟨v', he, hi, hb⟩ => by
  rw [(z_fine h).2] at he; rw [(z_fine h).1] at hi
  obtain ⟨n, a, k, c, rfl⟩ := hi.shape
  exact ⟨n, a, k, c, he, hi.k.r h, hb⟩
theorem cmpF (va vb : Value) (x y o : Int) (w : World) (ha : IntV w va x) (hb : IntV w vb y) (ho : zcmp x y = o) : Calls Tryz.prog 48 #[va, vb] w fun e w' => e = .returned (.int .i64 o) ∧ Below w.heap.size w w' := by
  subst ho; exact cmpI_any va vb x y w ha hb
end Go.Proofs.YtehdfkafdpfdnaaGreatDoor
