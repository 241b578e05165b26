/- tribunalref01: Shl, Shr; NatShifts. -/
import Derived.Test.YtafeokkkbiaajabDoorShl
namespace Go.Proofs.YtafeokkkbiaajabDoor
open Go.RowKit Mth

theorem row_own {w : World} {base e : Nat} {k : IntKind} {g : Nat} {xs : List Nat} (h : Row w e k g xs) (hb : base ≤ g) (hl : xs.length ≤ 16777217) : w.ownsRow base e 1 (.slice (some ⟨g, 0, none⟩) xs.length xs.length) xs.length (cellsOf k xs) :=
  ⟨by rw [length_cellsOf, Nat.mul_one], .inr ⟨g, xs.length, (cellsOf k xs).toArray, rfl, hb, h, Nat.le_refl _, maxLen_24 hl, by simp [length_cellsOf], by rw [List.toList_toArray, Nat.mul_one]; exact List.take_of_length_le (by rw [length_cellsOf]; exact Nat.le_refl _)⟩⟩
/-- append of a list of halves to a row of the call's own -/
theorem append_halves {w : World} {ops : Array Oper} {rest : List Oper} {o : Oper} {a : Act} {Q : Exit → Act → World → Prop} (hgd : o.guard = none) (s x : Operand)
    (ho : o.op = .call { callee := .builtin .append, args := #[s, x], argTypes := #[58, 58] }) (base : Nat) (v u : Value) (xs ys : List Nat)
    (hs : a.eval s = v) (hx : a.eval x = u) (hown : w.ownsRow base 62 1 v xs.length (cellsOf .u32 xs)) (hu : Sl w .u32 u ys) (hp : 0 < ys.length) (hlen : xs.length ≤ 16777216) (hbase : base ≤ w.heap.size)
    (h : ∀ v' w', w'.ownsRow base 62 1 v' (xs ++ ys).length (cellsOf .u32 (xs ++ ys)) → w.grownBy w' v.ownBlock → wpList Tryd.prog ops Q rest (a.put o.dst v') w') : wpList Tryd.prog ops Q (o :: rest) a w := by
  obtain ⟨i0, hi, hz0, hz1, hz2⟩ := info_parts info_u32
  have hul := hu.len
  obtain ⟨b, off, cap, rfl, _, _, _, hc⟩ := hu.pos hp
  refine wpList_append_own w hgd s x 58 ho base 62 i0 _ 1 4 Tryd.underlying58 hi hz0 hz1 hz2 rfl (by decide) v _ _ hs hown ⟨b, off, none⟩ ys.length cap (cellsOf .u32 ys) hx (by rw [length_cellsOf, Nat.mul_one]) ?_ (cells_one _ _)
    (by unfold maxLen; omega) (by omega) hbase ?_
  · intro j u hj
    have hjl : j < ys.length := by have := (List.getElem?_eq_some_iff.1 hj).1; rwa [length_cellsOf] at this
    rw [cellsOf_get _ _ _ hjl] at hj
    rw [Addr.add_lit, hc j hjl, hj]
  · intro v' w' h2 h3 _
    refine h v' w' ?_ h3
    rw [cellsOf_append, List.length_append]
    exact h2
theorem top_append {zs ys : List Nat} (h : Top ys) (hp : 0 < ys.length) : Top (zs ++ ys) := by
  unfold Top
  refine tlen_eq (fun j hj => getD_ge _ j hj) (.inr ?_)
  have h1 := tlen_top ys (by rw [h]; exact hp)
  rw [h] at h1
  rw [List.length_append, List.getD_eq_getElem?_getD, List.getElem?_append_right (by omega), show zs.length + ys.length - 1 - zs.length = ys.length - 1 by omega, ← List.getD_eq_getElem?_getD]
  exact h1
theorem lim_append {B : Nat} {xs ys : List Nat} (h1 : Lim B xs) (h2 : Lim B ys) : Lim B (xs ++ ys) := by
  intro j
  rw [List.getD_eq_getElem?_getD]
  rcases Nat.lt_or_ge j xs.length with hj | hj
  · rw [List.getElem?_append_left hj, ← List.getD_eq_getElem?_getD]; exact h1 j
  · rw [List.getElem?_append_right hj, ← List.getD_eq_getElem?_getD]; exact h2 _
theorem natList_one {w : World} {v : Value} {xs : List Nat} (h : Sl w .u64 v xs) : NatList (w.alloc (Obj.cells #[v] 23)) (.slice (some ⟨w.heap.size, 0, none⟩) 1 1) [xs] := by
  have hb : Below w.heap.size w (w.alloc (Obj.cells #[v] 23)) := (Below.refl _ _).alloc (Nat.le_refl _) _
  refine ⟨some ⟨w.heap.size, 0, none⟩, 1, rfl, Nat.le_refl _, by unfold maxLen; omega, by simp, fun e => by simp at e, fun _ => ⟨w.heap.size, 0, rfl, by simp, fun j hj => ?_⟩⟩
  obtain rfl : j = 0 := by simpa using hj
  exact ⟨v, World.cell?_alloc_new _ _ _ _, by simpa using h.below hb⟩
theorem longB_one (xs : List Nat) : longB [xs] 1 = decide (Big ≤ val B64 xs) := by simp [longB]

/-- what Shl answers, behind a name -/
structure ShlIs (a : Nat) (n : Int) (N : Nat) (ER : Int) : Prop where
  rn : shlN a n = N
  re : shlE a n = ER
theorem ShlIs.neg {a N : Nat} {n ER : Int} (h : ShlIs a n N ER) (hn : n < 0) : N = 0 ∧ ER = 1 := by
  rw [← h.rn, ← h.re]; exact shl_neg hn
theorem ShlIs.long {a N : Nat} {n ER : Int} (h : ShlIs a n N ER) (hn : ¬ n < 0) (h2 : Big ≤ a) : N = 0 ∧ ER = 5 := by
  rw [← h.rn, ← h.re]; exact shl_long hn h2
theorem ShlIs.fine {a N n : Nat} {ER : Int} (h : ShlIs a (n : Int) N ER) (h2 : ¬ Big ≤ a) : N = cutN (a * 2 ^ n) ∧ ER = cutE (a * 2 ^ n) := by
  rw [← h.rn, ← h.re]; exact shl_fine h2
theorem ShlIs.zero {N n : Nat} {ER : Int} (h : ShlIs 0 (n : Int) N ER) : N = 0 ∧ ER = 0 := by
  rw [← h.rn, ← h.re]; exact shl_zero
end Go.Proofs.YtafeokkkbiaajabDoor
