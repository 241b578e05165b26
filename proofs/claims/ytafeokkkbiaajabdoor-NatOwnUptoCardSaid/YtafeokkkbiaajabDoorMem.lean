/- How slices of limbs lie in memory: what reads as a list (Sl), a row of the call's own (Row), and what a call leaves (Below, grownBy). -/
import Derived.Test.YtafeokkkbiaajabDoorRows
import Derived.Test.YtafeokkkbiaajabDoorMath
import Derived.WalkKit
import Derived.ProofKit
import Derived.Lib.Hide
namespace Go.Proofs.YtafeokkkbiaajabDoor
open Go.RowKit Mth

/-- a slice value that reads as the limbs xs -/
def Sl (w : World) (k : IntKind) (v : Value) (xs : List Nat) : Prop :=
  ∃ ao cap, v = .slice ao xs.length cap ∧ xs.length ≤ cap ∧ cap ≤ maxLen ∧ xs.length ≤ 16777216 ∧ (ao = none → cap = 0) ∧
    (0 < xs.length → ∃ b off, ao = some ⟨b, off, none⟩ ∧ b < w.heap.size ∧ ∀ j, j < xs.length → w.cell? ⟨b, off + j, none⟩ = some (.int k ((xs.getD j 0 : Nat) : Int)))

theorem Sl.below {w w' : World} {k : IntKind} {v : Value} {xs : List Nat} (h : Sl w k v xs) (hb : Below w.heap.size w w') : Sl w' k v xs := by
  obtain ⟨ao, cap, rfl, h1, h2, h3, h4, h5⟩ := h
  refine ⟨ao, cap, rfl, h1, h2, h3, h4, fun hp => ?_⟩
  obtain ⟨b, off, rfl, hlt, hc⟩ := h5 hp
  exact ⟨b, off, rfl, Nat.lt_of_lt_of_le hlt hb.size, fun j hj => (hb.cell (p := ⟨b, off + j, none⟩) hlt).trans (hc j hj)⟩

/-- the block in which the limbs lie -/
def inBlock : Value → Option Nat
  | .slice (some a) _ _ => some a.block
  | _ => none
theorem Sl.grown {w w' : World} {k : IntKind} {v : Value} {xs : List Nat} {row : Option Nat} (h : Sl w k v xs) (hg : w.grownBy w' row) (hn : inBlock v ≠ row ∨ xs = []) : Sl w' k v xs := by
  obtain ⟨ao, cap, rfl, h1, h2, h3, h4, h5⟩ := h
  refine ⟨ao, cap, rfl, h1, h2, h3, h4, fun hp => ?_⟩
  obtain ⟨b, off, rfl, hlt, hc⟩ := h5 hp
  refine ⟨b, off, rfl, Nat.lt_of_lt_of_le hlt hg.size, fun j hj => hg.cell (hc j hj) ?_⟩
  rcases hn with hn | hn
  · simpa [inBlock] using hn
  · subst hn; simp at hp

theorem Sl.len {w : World} {k : IntKind} {v : Value} {xs : List Nat} (h : Sl w k v xs) : xs.length ≤ 16777216 := by
  obtain ⟨ao, cap, rfl, h1, h2, h3, _⟩ := h; exact h3

theorem Sl.pos {w : World} {k : IntKind} {v : Value} {xs : List Nat} (h : Sl w k v xs) (hp : 0 < xs.length) :
    ∃ b off cap, v = .slice (some ⟨b, off, none⟩) xs.length cap ∧ xs.length ≤ cap ∧ cap ≤ maxLen ∧ b < w.heap.size ∧ ∀ j, j < xs.length → w.cell? ⟨b, off + j, none⟩ = some (.int k ((xs.getD j 0 : Nat) : Int)) := by
  obtain ⟨ao, cap, rfl, h1, h2, h3, h4, h5⟩ := h
  obtain ⟨b, off, rfl, hlt, hc⟩ := h5 hp
  exact ⟨b, off, cap, rfl, h1, h2, hlt, hc⟩

/-- the first n limbs -/
theorem Sl.take {w : World} {k : IntKind} {ao : Option Addr} {n cap : Nat} {xs : List Nat} (h : Sl w k (.slice ao n cap) xs) {m : Nat} (hm : m ≤ n) :
    Sl w k (.slice ao m cap) (xs.take m) := by
  obtain ⟨ao', cap', e, h1, h2, h3, h4, h5⟩ := h
  simp only [Value.slice.injEq] at e
  obtain ⟨rfl, rfl, rfl⟩ := e
  have hl : (xs.take m).length = m := by rw [List.length_take, Nat.min_eq_left hm]
  refine ⟨ao, cap, by rw [hl], by omega, h2, by omega, h4, fun hp => ?_⟩
  obtain ⟨b, off, rfl, hlt, hc⟩ := h5 (by omega)
  refine ⟨b, off, rfl, hlt, fun j hj => ?_⟩
  rw [getD_take, if_pos (by omega)]
  exact hc j (by omega)

theorem sl_nil (w : World) (k : IntKind) : Sl w k (.slice none 0 0) [] := ⟨none, 0, rfl, Nat.le_refl _, by unfold maxLen; omega, by simp, fun _ => rfl, fun h => by simp at h⟩

/-- the cells of a list -/
def cellsOf (k : IntKind) (xs : List Nat) : List Value := xs.map fun x => Value.int k ((x : Nat) : Int)
theorem length_cellsOf (k : IntKind) (xs : List Nat) : (cellsOf k xs).length = xs.length := by simp [cellsOf]
theorem cellsOf_append (k : IntKind) (xs ys : List Nat) : cellsOf k (xs ++ ys) = cellsOf k xs ++ cellsOf k ys := by simp [cellsOf]
theorem cellsOf_get (k : IntKind) (xs : List Nat) (j : Nat) (h : j < xs.length) : (cellsOf k xs)[j]? = some (.int k ((xs.getD j 0 : Nat) : Int)) := by
  simp [cellsOf, h]
theorem cellsOf_set (k : IntKind) (xs : List Nat) (j x : Nat) : (cellsOf k xs).set j (.int k ((x : Nat) : Int)) = cellsOf k (xs.set j x) := by
  simp [cellsOf, List.map_set]
theorem getD_set (xs : List Nat) (i x j : Nat) (hi : i < xs.length) : (xs.set i x).getD j 0 = if j = i then x else xs.getD j 0 := by
  simp only [List.getD_eq_getElem?_getD, List.getElem?_set]
  split
  · subst_vars; simp only [if_true, Option.getD_some]
  · rename_i h; rw [if_neg (fun e => h e.symm)]

/-- what the call owns reads as a list -/
theorem sl_own {w : World} {base e : Nat} {k : IntKind} {v : Value} {xs : List Nat} (h : w.ownsRow base e 1 v xs.length (cellsOf k xs)) (hl : xs.length ≤ 16777216) : Sl w k v xs := by
  obtain ⟨_, hh⟩ := h
  rcases hh with ⟨rfl, h0⟩ | ⟨g, cap, cur, rfl, hb, hg, hnc, hcm, hcs, htake⟩
  · have : xs = [] := List.eq_nil_of_length_eq_zero h0
    subst this; exact sl_nil w k
  · refine ⟨some ⟨g, 0, none⟩, cap, rfl, hnc, hcm, hl, fun e => by simp at e, fun _ => ⟨g, 0, rfl, (Array.getElem?_eq_some_iff.1 hg).1, fun j hj => ?_⟩⟩
    rw [Nat.zero_add, cell_of_row w g j cur e (0, 0) hg]
    have := cellsOf_get k xs j hj
    rw [← htake, List.getElem?_take, if_pos (by omega)] at this
    simpa using this

/-- a whole block of the call's own that holds the limbs xs -/
def Row (w : World) (e : TypeId) (k : IntKind) (g : Nat) (xs : List Nat) : Prop := w.heap[g]? = some (.cells (cellsOf k xs).toArray e (0, 0))
theorem Row.lt {w : World} {e : TypeId} {k : IntKind} {g : Nat} {xs : List Nat} (h : Row w e k g xs) : g < w.heap.size := (Array.getElem?_eq_some_iff.1 h).1
theorem Row.cell {w : World} {e : TypeId} {k : IntKind} {g : Nat} {xs : List Nat} (h : Row w e k g xs) {j : Nat} (hj : j < xs.length) :
    w.cell? ⟨g, j, none⟩ = some (.int k ((xs.getD j 0 : Nat) : Int)) := by
  rw [cell_of_row w g j _ e (0, 0) h]
  simpa using cellsOf_get k xs j hj
theorem Row.free {w : World} {e : TypeId} {k : IntKind} {g : Nat} {xs : List Nat} (h : Row w e k g xs) (j : Nat) : w.frozen? ⟨g, j, none⟩ = false := frozen_of_row w g j _ e h
theorem Row.set {w : World} {e : TypeId} {k : IntKind} {g : Nat} {xs : List Nat} (h : Row w e k g xs) (j x : Nat) :
    Row (w.setCell ⟨g, j, none⟩ (.int k ((x : Nat) : Int))) e k g (xs.set j x) ∧ w.grownBy (w.setCell ⟨g, j, none⟩ (.int k ((x : Nat) : Int))) (some g) := by
  refine ⟨?_, ⟨rfl, rfl, rfl, by simp, fun i _ hk => heap_setCell_other w ⟨g, j, none⟩ i _ (fun e => hk (by simp [e]))⟩⟩
  unfold Row
  rw [heap_setCell_same w g j _ e _ h, List.setIfInBounds_toArray, cellsOf_set]
theorem Row.grown {w w' : World} {e : TypeId} {k : IntKind} {g : Nat} {xs : List Nat} {row : Option Nat} (h : Row w e k g xs) (hg : w.grownBy w' row) (hn : some g ≠ row) : Row w' e k g xs :=
  (hg.block g h.lt hn).trans h
theorem Row.below {w w' : World} {e : TypeId} {k : IntKind} {g : Nat} {xs : List Nat} (h : Row w e k g xs) (hb : Below w.heap.size w w') : Row w' e k g xs := (hb.block g h.lt).trans h
/-- a part of a row reads as a list -/
theorem Row.sl {w : World} {e : TypeId} {k : IntKind} {g : Nat} {xs : List Nat} (h : Row w e k g xs) {off n cap : Nat} (h1 : off + n ≤ xs.length) (h2 : n ≤ cap) (h3 : cap ≤ maxLen) (h4 : n ≤ 16777216) :
    Sl w k (.slice (some ⟨g, off, none⟩) n cap) ((xs.drop off).take n) := by
  have hl : ((xs.drop off).take n).length = n := by rw [List.length_take, List.length_drop]; omega
  refine ⟨some ⟨g, off, none⟩, cap, by rw [hl], by omega, h3, by omega, fun e => by simp at e, fun _ => ⟨g, off, rfl, h.lt, fun j hj => ?_⟩⟩
  rw [getD_take, if_pos (by omega), getD_drop]
  exact h.cell (by omega)
theorem Row.sl_all {w : World} {e : TypeId} {k : IntKind} {g : Nat} {xs : List Nat} (h : Row w e k g xs) (h4 : xs.length ≤ 16777216) :
    Sl w k (.slice (some ⟨g, 0, none⟩) xs.length xs.length) xs := by
  have := h.sl (off := 0) (n := xs.length) (cap := xs.length) (by omega) (Nat.le_refl _) (by unfold maxLen; omega) h4
  simpa using this
/-- a row that the call has made whole is a block -/
theorem row_of_own {w : World} {base e : Nat} {k : IntKind} {g n : Nat} {xs : List Nat} (h : w.ownsRow base e 1 (.slice (some ⟨g, 0, none⟩) n n) n (cellsOf k xs)) : Row w e k g xs ∧ xs.length = n := by
  obtain ⟨hl, hh⟩ := h
  rw [length_cellsOf, Nat.mul_one] at hl
  rcases hh with ⟨h', _⟩ | ⟨g', cap', cur, h', _, hg, _, _, hcs, htake⟩
  · simp at h'
  · simp only [Value.slice.injEq, Option.some.injEq, Addr.mk.injEq, and_true, true_and] at h'
    obtain ⟨rfl, rfl⟩ := h'
    rw [List.take_of_length_le (by rw [Array.length_toList]; omega)] at htake
    refine ⟨?_, hl⟩
    unfold Row
    rw [hg, ← htake]
theorem zeros_own (k : IntKind) (n : Nat) : (madeCells (Value.int k 0).cells (n * 1)).toList = cellsOf k (List.replicate n 0) := by
  show (madeCells #[Value.int k 0] (n * 1)).toList = _
  rw [toList_madeCells_one]; simp [cellsOf]

/-- blocks that were there stay, but for one row; new ones may come -/
theorem grown_trans' {a b c : World} {row : Option Nat} (h : a.grownBy b row) (k : b.grownBy c row) : a.grownBy c row :=
  ⟨k.os.trans h.os, k.tape.trans h.tape, k.output.trans h.output, Nat.le_trans h.size k.size, fun i hi hne => (k.block i (Nat.lt_of_lt_of_le hi h.size) hne).trans (h.block i hi hne)⟩
theorem grown_of_below {a w : World} (h : Below a.heap.size a w) (row : Option Nat) : a.grownBy w row := ⟨h.os, h.tape, h.output, h.size, fun i hi _ => h.block i hi⟩
theorem below_of_grown {a w w' : World} {B g : Nat} (h : Below B a w) (hg : w.grownBy w' (some g)) (hB : B ≤ g) (hw : B ≤ w.heap.size) : Below B a w' :=
  h.grown hg hw (fun k e => by simp at e; omega)
theorem below_step {a b c : World} (h : Below a.heap.size a b) (k : Below b.heap.size b c) : Below a.heap.size a c := h.trans (k.mono h.size)

/-- a slice value that is the number n, without zeros on top -/
def Num (w : World) (v : Value) (n : Nat) : Prop := ∃ ys, Sl w .u64 v ys ∧ Lim B64 ys ∧ Top ys ∧ val B64 ys = n
theorem Num.below {w w' : World} {v : Value} {n : Nat} (h : Num w v n) (hb : Below w.heap.size w w') : Num w' v n := by
  obtain ⟨ys, h1, h2⟩ := h
  exact ⟨ys, h1.below hb, h2⟩
theorem num_trim {w : World} {v : Value} {xs : List Nat} (h : Sl w .u64 v (trimL xs)) (hx : Lim B64 xs) : Num w v (val B64 xs) := ⟨_, h, lim_trimL hx, top_trimL xs, val_trimL _ _⟩
theorem num_nil (w : World) : Num w (.slice none 0 0) 0 := ⟨[], sl_nil w _, lim_nil (by have := B64_pos; omega), rfl, rfl⟩

/-- a slice of numbers that reads as the lists xss -/
def NatList (w : World) (v : Value) (xss : List (List Nat)) : Prop :=
  ∃ ao cap, v = .slice ao xss.length cap ∧ xss.length ≤ cap ∧ cap ≤ maxLen ∧ xss.length ≤ 16777216 ∧ (ao = none → cap = 0) ∧
    (0 < xss.length → ∃ b off, ao = some ⟨b, off, none⟩ ∧ b < w.heap.size ∧ ∀ j, j < xss.length → ∃ u, w.cell? ⟨b, off + j, none⟩ = some u ∧ Sl w .u64 u (xss.getD j []))
theorem NatList.below {w w' : World} {v : Value} {xss : List (List Nat)} (h : NatList w v xss) (hb : Below w.heap.size w w') : NatList w' v xss := by
  obtain ⟨ao, cap, rfl, h1, h2, h3, h4, h5⟩ := h
  refine ⟨ao, cap, rfl, h1, h2, h3, h4, fun hp => ?_⟩
  obtain ⟨b, off, rfl, hlt, hc⟩ := h5 hp
  refine ⟨b, off, rfl, Nat.lt_of_lt_of_le hlt hb.size, fun j hj => ?_⟩
  obtain ⟨u, h6, h7⟩ := hc j hj
  exact ⟨u, (hb.cell (p := ⟨b, off + j, none⟩) hlt).trans h6, h7.below hb⟩
theorem NatList.pos {w : World} {v : Value} {xss : List (List Nat)} (h : NatList w v xss) (hp : 0 < xss.length) :
    ∃ b off cap, v = .slice (some ⟨b, off, none⟩) xss.length cap ∧ xss.length ≤ cap ∧ cap ≤ maxLen ∧ b < w.heap.size ∧ ∀ j, j < xss.length → ∃ u, w.cell? ⟨b, off + j, none⟩ = some u ∧ Sl w .u64 u (xss.getD j []) := by
  obtain ⟨ao, cap, rfl, h1, h2, h3, h4, h5⟩ := h
  obtain ⟨b, off, rfl, hlt, hc⟩ := h5 hp
  exact ⟨b, off, cap, rfl, h1, h2, hlt, hc⟩
theorem NatList.len {w : World} {v : Value} {xss : List (List Nat)} (h : NatList w v xss) : xss.length ≤ 16777216 := by
  obtain ⟨ao, cap, rfl, h1, h2, h3, _⟩ := h; exact h3
theorem getDL_take (xss : List (List Nat)) (n j : Nat) (h : j < n) : (xss.take n).getD j [] = xss.getD j [] := by
  simp only [List.getD_eq_getElem?_getD, List.getElem?_take, if_pos h]
theorem getDL_drop (xss : List (List Nat)) (n j : Nat) : (xss.drop n).getD j [] = xss.getD (n + j) [] := by
  simp only [List.getD_eq_getElem?_getD, List.getElem?_drop]
theorem NatList.take {w : World} {b off cap : Nat} {xss : List (List Nat)} (h : NatList w (.slice (some ⟨b, off, none⟩) xss.length cap) xss) {m : Nat} (hm : m ≤ xss.length) :
    NatList w (.slice (some ⟨b, off, none⟩) m cap) (xss.take m) := by
  obtain ⟨ao', cap', e, h1, h2, h3, h4, h5⟩ := h
  simp only [Value.slice.injEq, true_and] at e
  obtain ⟨rfl, rfl⟩ := e
  have hl : (xss.take m).length = m := by rw [List.length_take, Nat.min_eq_left hm]
  refine ⟨some ⟨b, off, none⟩, cap, by rw [hl], by omega, h2, by omega, h4, fun hp => ?_⟩
  obtain ⟨b', off', e, hlt, hc⟩ := h5 (by omega)
  simp only [Option.some.injEq, Addr.mk.injEq, and_true] at e
  obtain ⟨rfl, rfl⟩ := e
  refine ⟨b, off, rfl, hlt, fun j hj => ?_⟩
  rw [getDL_take _ _ _ (by omega)]
  exact hc j (by omega)
theorem NatList.drop {w : World} {b off cap : Nat} {xss : List (List Nat)} (h : NatList w (.slice (some ⟨b, off, none⟩) xss.length cap) xss) {m : Nat} (hm : m < xss.length) :
    NatList w (.slice (some ⟨b, off + m, none⟩) (xss.length - m) (cap - m)) (xss.drop m) := by
  obtain ⟨ao', cap', e, h1, h2, h3, h4, h5⟩ := h
  simp only [Value.slice.injEq, true_and] at e
  obtain ⟨rfl, rfl⟩ := e
  have hl : (xss.drop m).length = xss.length - m := List.length_drop
  refine ⟨some ⟨b, off + m, none⟩, cap - m, by rw [hl], by omega, by omega, by omega, fun e => by simp at e, fun hp => ?_⟩
  obtain ⟨b', off', e, hlt, hc⟩ := h5 (by omega)
  simp only [Option.some.injEq, Addr.mk.injEq, and_true] at e
  obtain ⟨rfl, rfl⟩ := e
  refine ⟨b, off + m, rfl, hlt, fun j hj => ?_⟩
  rw [getDL_drop, Nat.add_assoc]
  exact hc (m + j) (by omega)

/-- a slice value that is the number n in halves, without zeros on top -/
def HNum (w : World) (v : Value) (n : Nat) : Prop := ∃ ys, Sl w .u32 v ys ∧ Lim B16 ys ∧ Top ys ∧ val B16 ys = n
theorem HNum.below {w w' : World} {v : Value} {n : Nat} (h : HNum w v n) (hb : Below w.heap.size w w') : HNum w' v n := by
  obtain ⟨ys, h1, h2⟩ := h
  exact ⟨ys, h1.below hb, h2⟩
theorem hnum_nil (w : World) : HNum w (.slice none 0 0) 0 := ⟨[], sl_nil w _, lim_nil (by have := B16_pos; omega), rfl, rfl⟩
theorem hnum_trim {w : World} {v : Value} {xs : List Nat} (h : Sl w .u32 v (trimL xs)) (hx : Lim B16 xs) : HNum w v (val B16 xs) := ⟨_, h, lim_trimL hx, top_trimL xs, val_trimL _ _⟩
end Go.Proofs.YtafeokkkbiaajabDoor
