/- append of a list of limbs. -/
import Derived.Test.YtafeokkkbiaajabDoorOps
import Derived.Laws.AppendOwnNone
namespace Go.Proofs.YtafeokkkbiaajabDoor
open Go.RowKit Mth

/-- append(b, a...) of a list of limbs to a row of the call's own -/
theorem append_sl {w : World} {ops : Array Oper} {rest : List Oper} {o : Oper} {a : Act} {Q : Exit → Act → World → Prop} (hgd : o.guard = none) (s x : Operand)
    (ho : o.op = .call { callee := .builtin .append, args := #[s, x], argTypes := #[23, 23] }) (base : Nat) (v u : Value) (xs ys : List Nat)
    (hs : a.eval s = v) (hx : a.eval x = u) (hown : w.ownsRow base 36 1 v xs.length (cellsOf .u64 xs)) (hu : Sl w .u64 u ys) (hlen : xs.length ≤ 16777216) (hbase : base ≤ w.heap.size)
    (h : ∀ v' w', w'.ownsRow base 36 1 v' (xs ++ ys).length (cellsOf .u64 (xs ++ ys)) → w.grownBy w' v.ownBlock → wpList Tryd.prog ops Q rest (a.put o.dst v') w') : wpList Tryd.prog ops Q (o :: rest) a w := by
  obtain ⟨i0, hi, hz0, hz1, hz2⟩ := info_parts info_u64
  have hul := hu.len
  obtain ⟨ao, cap, rfl, _, _, _, h4, h5⟩ := hu
  cases ao with
  | none =>
    obtain rfl := h4 rfl
    have h0 : ys = [] := by
      rcases Nat.eq_zero_or_pos ys.length with h0 | h0
      · exact List.eq_nil_of_length_eq_zero h0
      · obtain ⟨b, off, e, _⟩ := h5 h0
        cases e
    subst h0
    refine wpList_append_own_none hgd s x 23 ho base 36 i0 1 Tryd.underlying23 hi v _ _ hs hown hx ?_
    refine h v w ?_ (World.grownBy.refl _ _)
    rw [List.append_nil]; exact hown
  | some ad =>
    refine wpList_append_own w hgd s x 23 ho base 36 i0 _ 1 8 Tryd.underlying23 hi hz0 hz1 hz2 rfl (by decide) v _ _ hs hown ad ys.length cap (cellsOf .u64 ys) hx (by rw [length_cellsOf]; omega) ?_ (cells_one _ _)
      (by unfold maxLen; omega) (by omega) hbase ?_
    · intro j u hj
      have hjl : j < ys.length := by have := (List.getElem?_eq_some_iff.1 hj).1; rwa [length_cellsOf] at this
      rw [cellsOf_get _ _ _ hjl] at hj
      obtain ⟨b, off, e, _, hc⟩ := h5 (by omega)
      obtain rfl := Option.some.inj e
      rw [Addr.add_lit, hc j hjl, hj]
    · intro v' w' h2 h3 _
      refine h v' w' ?_ h3
      rw [cellsOf_append, List.length_append]
      exact h2
end Go.Proofs.YtafeokkkbiaajabDoor
