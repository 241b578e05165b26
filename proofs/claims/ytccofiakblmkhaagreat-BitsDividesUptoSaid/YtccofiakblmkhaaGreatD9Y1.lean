/- YA YB YC. -/
import Derived.Test.YtccofiakblmkhaaGreatD9Z1
import Derived.Laws.BitsAllLaws
set_option linter.unusedVariables false
set_option linter.unusedSimpArgs false
/- tribunalref02: trim, Make, From. -/
namespace Go.Proofs.YtccofiakblmkhaaGreat
open Go.RowKit Mth

/-- a slice value that is the number n in digits of base 2^16, none too many; a Z value -/
def QNum (w : World) (v : Value) (n : Nat) : Prop := ∃ ys, Sl w .u16 v ys ∧ Lim B16 ys ∧ Top ys ∧ val B16 ys = n
def ZV (w : World) (v : Value) (z : Int) : Prop := ∃ u, v = .agg #[.bool (sgn z), u] ∧ QNum w u z.natAbs
theorem QNum.below {w w' : World} {v : Value} {n : Nat} (h : QNum w v n) (hb : Below w.heap.size w w') : QNum w' v n := by
  obtain ⟨ys, h1, h2⟩ := h; exact ⟨ys, h1.below hb, h2⟩
theorem ZV.below {w w' : World} {v : Value} {z : Int} (h : ZV w v z) (hb : Below w.heap.size w w') : ZV w' v z := by
  obtain ⟨u, h1, h2⟩ := h; exact ⟨u, h1, h2.below hb⟩
theorem ZV.shape {w : World} {v : Value} {z : Int} (h : ZV w v z) : ∃ n ao k c, v = .agg #[.bool n, .slice ao k c] := by
  obtain ⟨u, rfl, ys, h1, _⟩ := h
  obtain ⟨ao, c, rfl⟩ := h1.shape
  exact ⟨_, _, _, _, rfl⟩
theorem ZV.parts {w : World} {n : Bool} {ao : Option Addr} {k c : Nat} {z : Int} (h : ZV w (.agg #[.bool n, .slice ao k c]) z) : n = sgn z ∧ ∃ ys, Sl w .u16 (.slice ao k c) ys ∧ Lim B16 ys ∧ Top ys ∧ val B16 ys = z.natAbs ∧ ys.length = k := by
  obtain ⟨u, e, ys, h1, h2, h3, h4⟩ := h
  simp only [Value.agg.injEq, Array.mk.injEq, List.cons.injEq, Value.bool.injEq, and_true] at e
  obtain ⟨rfl, rfl⟩ := e
  refine ⟨rfl, ys, h1, h2, h3, h4, ?_⟩
  obtain ⟨_, _, e, _⟩ := h1
  simp only [Value.slice.injEq] at e
  exact e.2.1.symm

/-- digits don't lie in a block of a sign and a slice -/
theorem Sl.ne {w : World} {k : IntKind} {v : Value} {xs : List Nat} {R b off : Nat} {T : TypeId} {x : Bool} {ao : Option Addr} {n c : Nat} {cap : Nat} (h : Sl w k v xs) (hR : w.heap[R]? = some (.cells #[.bool x, .slice ao n c] T (0, 0))) (e : v = .slice (some ⟨b, off, none⟩) xs.length cap) (hp : 0 < xs.length) : b ≠ R := by
  rintro rfl
  obtain ⟨ao', cap', e', _, _, _, _, h5⟩ := h
  obtain ⟨b', off', e2, _, hc⟩ := h5 hp
  rw [e] at e'
  simp only [Value.slice.injEq] at e'
  obtain ⟨rfl, _, _⟩ := e'
  simp only [Option.some.injEq, Addr.mk.injEq] at e2
  obtain ⟨rfl, rfl, _⟩ := e2
  have := hc 0 hp
  rw [cell_of_row w b _ _ _ (0, 0) hR] at this
  have h2 : off + 0 < 2 := (Array.getElem?_eq_some_iff.1 this).1
  have : off = 0 ∨ off = 1 := by omega
  rcases this with rfl | rfl <;> simp at this
theorem Sl.set_far {w : World} {k : IntKind} {v : Value} {xs : List Nat} {R j : Nat} {y : Value} (h : Sl w k v xs) (hne : ∀ b off cap, v = .slice (some ⟨b, off, none⟩) xs.length cap → 0 < xs.length → b ≠ R) : Sl (w.setCell ⟨R, j, none⟩ y) k v xs := by
  obtain ⟨ao, cap, rfl, h1, h2, h3, h4, h5⟩ := h
  refine ⟨ao, cap, rfl, h1, h2, h3, h4, fun hp => ?_⟩
  obtain ⟨b, off, rfl, hlt, hc⟩ := h5 hp
  have hb := hne b off cap rfl hp
  exact ⟨b, off, rfl, by simpa using hlt, fun i hi => (World.cell?_setCell_other (w := w) (a := ⟨R, j, none⟩) (b := ⟨b, off + i, none⟩) (v := y) (fun e => hb (congrArg Addr.block e).symm)).trans (hc i hi)⟩
theorem ZV.far {w : World} {v y0 y1 : Value} {z : Int} {R : Nat} {T : TypeId} {x : Bool} {ao : Option Addr} {n c : Nat} (h : ZV w v z) (hR : w.heap[R]? = some (.cells #[.bool x, .slice ao n c] T (0, 0))) : ZV ((w.setCell ⟨R, 0, none⟩ y0).setCell ⟨R, 1, none⟩ y1) v z := by
  obtain ⟨u, e, ys, h1, h2⟩ := h
  have hne : ∀ b off cap, u = .slice (some ⟨b, off, none⟩) ys.length cap → 0 < ys.length → b ≠ R := fun b off cap e hp => h1.ne hR e hp
  exact ⟨u, e, ys, (h1.set_far hne).set_far hne, h2⟩

end Go.Proofs.YtccofiakblmkhaaGreat

/- tribunalref02: To, Out, Minus, Small1, Same. -/
namespace Go.Proofs.YtccofiakblmkhaaGreat
open Go.RowKit Mth

/-- four digits, from the top, the first r of them -/
def hp (hs : List Nat) (i : Nat) : Nat → Nat
  | 0 => 0
  | r + 1 => hp hs i r * 65536 + hs.getD (i + (3 - r)) 0
/-- an Int, canonical, wherever it lies -/
def IntK (w : World) (v : Value) (z : Int) : Prop := ∃ u, v = .agg #[.bool (sgn z), u] ∧ Num w u z.natAbs
def gs (hs : List Nat) (m : Nat) : List Nat := (List.range m).map (fun j => hp hs (4 * j) 4)
theorem val_take_succ' (xs : List Nat) (n : Nat) : val B16 (xs.take (n + 1)) = val B16 (xs.take n) + B16 ^ n * xs.getD n 0 := by
  by_cases h : n < xs.length
  · exact val_take_succ B16 xs n h
  · rw [List.take_of_length_le (by omega), List.take_of_length_le (by omega), getD_ge _ _ (by omega)]; simp
theorem Num.far {w : World} {v y : Value} {n R j : Nat} (h : Num w v n) (hne : ∀ b off k c, v = .slice (some ⟨b, off, none⟩) k c → b ≠ R) : Num (w.setCell ⟨R, j, none⟩ y) v n := by
  obtain ⟨ys, h1, h2⟩ := h
  exact ⟨ys, h1.set_far (fun b off cap e _ => hne b off _ cap e), h2⟩
end Go.Proofs.YtccofiakblmkhaaGreat

/- tribunalref02: Out, Minus, Small1. -/
namespace Go.Proofs.YtccofiakblmkhaaGreat
open Go.RowKit Mth

theorem IntK.below {w w' : World} {v : Value} {z : Int} (h : IntK w v z) (hb : Below w.heap.size w w') : IntK w' v z := by
  obtain ⟨u, h1, h2⟩ := h; exact ⟨u, h1, h2.below hb⟩
theorem IntK.shape {w : World} {v : Value} {z : Int} (h : IntK w v z) : ∃ n ao k c, v = .agg #[.bool n, .slice ao k c] := by
  obtain ⟨u, rfl, ys, h1, _⟩ := h
  obtain ⟨ao, c, rfl⟩ := h1.shape
  exact ⟨_, _, _, _, rfl⟩
theorem IntK.far {w : World} {v y0 y1 : Value} {z : Int} {R : Nat} {T : TypeId} {x : Bool} {ao : Option Addr} {n c : Nat} (h : IntK w v z) (hR : w.heap[R]? = some (.cells #[.bool x, .slice ao n c] T (0, 0))) : IntK ((w.setCell ⟨R, 0, none⟩ y0).setCell ⟨R, 1, none⟩ y1) v z := by
  obtain ⟨u, e, ys, h1, h2⟩ := h
  have hne : ∀ b off cap, u = .slice (some ⟨b, off, none⟩) ys.length cap → 0 < ys.length → b ≠ R := fun b off cap e hp => h1.ne hR e hp
  exact ⟨u, e, ys, (h1.set_far hne).set_far hne, h2⟩
theorem intk_zero (w : World) : IntK w (.agg #[.bool false, .slice none 0 0]) 0 := ⟨_, rfl, (ow_nil w 0).num⟩
theorem IntC.k {w : World} {base : Nat} {v : Value} {z : Int} (h : IntC w base v z) : IntK w v z := by
  obtain ⟨u, h1, h2⟩ := h; exact ⟨u, h1, h2.num⟩
theorem ZV.long {w : World} {n : Bool} {ao : Option Addr} {k c : Nat} {z : Int} (h : ZV w (.agg #[.bool n, .slice ao k c]) z) : 16384 < k ↔ Big ≤ z.natAbs := by
  obtain ⟨_, ys, h1, h2, h3, h4, rfl⟩ := h.parts
  rw [← h4]; exact hlong_iff h2 h3
end Go.Proofs.YtccofiakblmkhaaGreat
