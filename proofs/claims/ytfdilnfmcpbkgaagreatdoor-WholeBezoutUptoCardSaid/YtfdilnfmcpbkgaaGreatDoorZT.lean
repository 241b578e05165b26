/- Package whole: Sum. -/
import Derived.Test.YtfdilnfmcpbkgaaGreatDoorZS
set_option linter.unusedVariables false
set_option linter.unusedSimpArgs false
namespace Go.Proofs.YtfdilnfmcpbkgaaGreatDoor
open Go.RowKit Mth

theorem blk_below' {w w' : World} {g : Nat} {x : Obj} (hb : Below w.heap.size w w') (h : w.heap[g]? = some x) : w'.heap[g]? = some x := (hb.block g (Array.getElem?_eq_some_iff.1 h).1).trans h
theorem TalO.below {w w' : World} {base g m P N : Nat} (h : TalO w base g m P N) (hb : Below w.heap.size w w') : TalO w' base g m P N := by
  obtain ⟨u, d, xs, ys, h1, h2, h3, h4⟩ := h
  exact ⟨u, d, xs, ys, blk_below' hb h1, own_other h2 (grown_of_below hb none) (fun _ _ e => by cases e), own_other h3 (grown_of_below hb none) (fun _ _ e => by cases e), h4⟩
/-- a list of Ints in memory, in any form -/
def IntL (w : World) (v : Value) (zs : List Int) : Prop := ∃ (ao : Option Addr) (cap : Nat), v = .slice ao zs.length cap ∧ zs.length ≤ cap ∧ cap ≤ maxLen ∧ zs.length ≤ 4000000 ∧ (ao = none → cap = 0) ∧
  (0 < zs.length → ∃ b off, ao = some ⟨b, off, none⟩ ∧ b < w.heap.size ∧ ∀ j, j < zs.length → ∃ (n : Bool) (a : Option Addr) (k c : Nat), w.cell? ⟨b, off + j * 2, none⟩ = some (.bool n) ∧ w.cell? ⟨b, off + j * 2 + 1, none⟩ = some (.slice a k c) ∧ IntV w (.agg #[.bool n, .slice a k c]) (zs.getD j 0))
theorem IntL.below {w w' : World} {v : Value} {zs : List Int} (h : IntL w v zs) (hb : Below w.heap.size w w') : IntL w' v zs := by
  obtain ⟨ao, cap, h0, h1, h2, h3, h4, h5⟩ := h
  refine ⟨ao, cap, h0, h1, h2, h3, h4, fun hp => ?_⟩
  obtain ⟨b, off, rfl, hlt, hc⟩ := h5 hp
  refine ⟨b, off, rfl, Nat.lt_of_lt_of_le hlt hb.size, fun j hj => ?_⟩
  obtain ⟨n, a, k, c, c0, c1, hi⟩ := hc j hj
  exact ⟨n, a, k, c, cell_to hb c0 hlt, cell_to hb c1 hlt, hi.below hb⟩
theorem IntL.shape {w : World} {v : Value} {zs : List Int} (h : IntL w v zs) : ∃ ao c, v = .slice ao zs.length c := by
  obtain ⟨ao, c, h0, _⟩ := h; exact ⟨ao, c, h0⟩
/-- the sums of those not below 0, of the others -/
def upS (zs : List Int) (k : Nat) : Nat := ((zs.take k).map fun z => if sgn z = true then 0 else z.natAbs).sum
def dnS (zs : List Int) (k : Nat) : Nat := ((zs.take k).map fun z => if sgn z = true then z.natAbs else 0).sum
theorem take_next {zs : List Int} {k : Nat} (h : k < zs.length) : zs.take (k + 1) = zs.take k ++ [zs.getD k 0] := by
  rw [List.take_succ_eq_append_getElem h, List.getD_eq_getElem?_getD, List.getElem?_eq_getElem h]; rfl
theorem upS_next {zs : List Int} {k : Nat} (h : k < zs.length) : upS zs (k + 1) = upS zs k + (if sgn (zs.getD k 0) = true then 0 else (zs.getD k 0).natAbs) := by
  unfold upS; rw [take_next h]; simp
theorem dnS_next {zs : List Int} {k : Nat} (h : k < zs.length) : dnS zs (k + 1) = dnS zs k + (if sgn (zs.getD k 0) = true then (zs.getD k 0).natAbs else 0) := by
  unfold dnS; rw [take_next h]; simp
theorem up_dn (zs : List Int) : ∀ k, k ≤ zs.length → ((upS zs k : Nat) : Int) - ((dnS zs k : Nat) : Int) = (zs.take k).sum
  | 0, _ => by simp [upS, dnS]
  | k + 1, h => by
    rw [upS_next (by omega), dnS_next (by omega), take_next (by omega), List.sum_append]
    have ih := up_dn zs k (by omega)
    generalize zs.getD k 0 = z at *
    cases hs : sgn z
    · have := of_sgn_false hs; simp; omega
    · have := of_sgn_true hs; simp; omega
/-- what Sum's loop holds -/
def SumO (w wr : World) (zs : List Int) (i : Value) : Prop := ∃ k : Nat, k ≤ zs.length ∧ i = .int .i64 k ∧ TalO wr (w.heap.size + 1) (w.heap.size + 1) k (upS zs k) (dnS zs k) ∧ Below (w.heap.size + 1) (w.alloc (Obj.cells #[Value.bool false, Value.slice none 0 0] 25)) wr

end Go.Proofs.YtfdilnfmcpbkgaaGreatDoor
