/- A list of numbers among the arguments. -/
import Derived.Test.YtckmpnfadpnaeaaDoorLift
import Derived.Deep.Matrix
set_option linter.unusedVariables false
set_option linter.unusedSimpArgs false
namespace Go.Proofs.YtckmpnfadpnaeaaDoor
open Go.ChangeShapes Go.WideShapes Go.ChangeAt Go.RowKit Mth Go.Deep

theorem cells_nat : Tryd.prog.cellsOf 23 = 1 := by kernel_rfl
theorem bulk_at {H : Type} (n : Nat) (D : Nat → DataW H) (j : Nat) (hj : j < n) : Rows.uptoBulk (D j) ≤ Rows.uptoBulkAll ((List.range n).map D) := bulk_mem (List.mem_map.2 ⟨j, List.mem_range.2 hj, rfl⟩)
theorem bulk_row {H : Type} (k : IntKind) (A : Option Addr) (L C : Nat) (zs : List Int) (hz : zs.length = C) (hLC : L ≤ C) (h0 : A = none → C = 0) : L ≤ Rows.uptoBulk (H := H) (intRow k A L zs) := by
  cases A with
  | none => have := h0 rfl; omega
  | some a =>
    simp only [intRow, Rows.uptoBulk, bulk_ints, List.length_take, List.length_drop]
    omega
theorem bulk_pos {H : Type} (k : IntKind) (A : Option Addr) (L : Nat) (zs : List Int) : 1 ≤ Rows.uptoBulk (H := H) (intRow k A L zs) := by
  cases A with
  | none => exact Nat.le_refl _
  | some a => simp only [intRow, Rows.uptoBulk]; omega
theorem bulk_many {H : Type} (n : Nat) (D : Nat → DataW H) (h : ∀ j, 1 ≤ Rows.uptoBulk (D j)) : n ≤ Rows.uptoBulkAll ((List.range n).map D) := by
  have key : ∀ l : List Nat, l.length ≤ Rows.uptoBulkAll (l.map D) := by
    intro l
    induction l with
    | nil => exact Nat.zero_le _
    | cons x r ih =>
      simp only [List.map_cons, Rows.uptoBulkAll, List.length_cons]
      have := h x
      omega
  have := key (List.range n)
  rwa [List.length_range] at this

/-- the numbers of one row -/
def rowN (L : Nat) (zs : List Int) : List Nat := (zs.take L).map Int.toNat
theorem rowN_len {L C : Nat} {zs : List Int} (hz : zs.length = C) (hLC : L ≤ C) : (rowN L zs).length = L := by
  unfold rowN; rw [List.length_map, List.length_take]; omega
theorem rowN_get (L : Nat) (zs : List Int) (j : Nat) : (rowN L zs).getD j 0 = if j < L then (zs.getD j 0).toNat else 0 := by
  unfold rowN
  simp only [List.getD_eq_getElem?_getD, List.getElem?_map, List.getElem?_take]
  split
  · cases zs[j]? <;> rfl
  · rfl

set_option maxRecDepth 100000 in
/-- a list of numbers among the arguments -/
theorem nats_arg {H : Type} {enc : TypeId × Value → H} {W : World} {base : Nat} {v : Value} {d : DataW H} {p : List MemPlace} (hval : Value.okWide Tryd.prog W .any base 92 v)
    (h : DataW.Trod enc Tryd.prog W 0 (fun _ => true) true 92 v d p) (hk : Rows.uptoBulk d ≤ 1048576) : ∃ xss : List (List Nat), NatList W v xss ∧ (∀ j, Lim B64 (xss.getD j [])) ∧ ∀ j, (xss.getD j []).length ≤ 1048576 := by
  obtain ⟨a0, len, cap, rfl⟩ := okWide_slice Tryd.underlying92 hval
  obtain ⟨fuel, hf⟩ := h
  rcases open_int_rows Tryd.underlying92 Tryd.underlying23 Tryd.underlying65 cells_nat cells_u64 hf with ⟨hcs, _⟩ | ⟨a, len', cap', A, L, C, Z, hcs, _, hl, hm, hx, hrow⟩
  · simp [Value.cells] at hcs
    obtain ⟨rfl, rfl, rfl⟩ := hcs
    exact ⟨[], ⟨none, 0, rfl, Nat.le_refl _, by unfold maxLen; omega, by simp, fun _ => rfl, fun h => by simp at h⟩, fun j => by simpa using lim_nil (by have := B64_pos; omega), by simp⟩
  · simp [Value.cells] at hcs
    obtain ⟨rfl, rfl, rfl⟩ := hcs
    simp only [Prod.mk.injEq] at hx
    obtain ⟨rfl, rfl⟩ := hx
    simp only [Rows.uptoBulk] at hk
    have hlen : len ≤ 1048576 := by
      have := bulk_many (H := H) len (fun r => intRow .u64 (A r) (L r) (Z r)) (fun j => bulk_pos _ _ _ _)
      omega
    have hLr : ∀ r, r < len → L r ≤ 1048576 := by
      intro r hr
      obtain ⟨_, r1, _, r3, _, r5, _⟩ := hrow r (by omega)
      have h1 := bulk_row (H := H) .u64 (A r) (L r) (C r) (Z r) r3 r1 r5
      have h2 := bulk_at len (fun r => intRow (H := H) .u64 (A r) (L r) (Z r)) r hr
      omega
    have hget : ∀ r, ((List.range len).map fun r => rowN (L r) (Z r)).getD r [] = if r < len then rowN (L r) (Z r) else [] := by
      intro r
      simp only [List.getD_eq_getElem?_getD, List.getElem?_map]
      split
      · rename_i h; rw [List.getElem?_eq_getElem (by simpa using h)]; simp
      · rename_i h; rw [List.getElem?_eq_none (by simpa using h)]; rfl
    have hwf : ∀ r, r < len → ∀ j, 0 ≤ (Z r).getD j 0 ∧ (Z r).getD j 0 ≤ 18446744073709551615 := by
      intro r hr j
      obtain ⟨_, _, _, _, r4, _⟩ := hrow r (by omega)
      have := range_u64 r4 j
      simpa [List.getD_eq_getElem?_getD] using this
    have hxl : ((List.range len).map fun r => rowN (L r) (Z r)).length = len := by simp
    refine ⟨(List.range len).map fun r => rowN (L r) (Z r), ⟨some a, cap, by rw [hxl], by omega, hm, by omega, fun e => by simp at e, fun hp => ?_⟩, fun j => ?_, fun j => ?_⟩
    · rw [hxl] at hp
      obtain ⟨b, off, spot⟩ := a
      have hspot : spot = none := by simpa [Addr.add] using World.cell?_spot (hrow 0 (by omega)).1
      subst hspot
      have hc : ∀ j, j < len → W.cell? ⟨b, off + j, none⟩ = some (.slice (A j) (L j) (C j)) := fun j hj => by rw [← Go.WideShapes.add_plain]; exact (hrow j (by omega)).1
      refine ⟨b, off, rfl, World.block_lt_of_cell? W _ (hc 0 hp), fun j hj => ⟨_, hc j (by omega), ?_⟩⟩
      have hjl : j < len := by omega
      rw [hget, if_pos hjl]
      obtain ⟨_, r1, r2, r3, _, r5, r6⟩ := hrow j (by omega)
      refine ⟨A j, C j, by rw [rowN_len r3 r1], by rw [rowN_len r3 r1]; exact r1, r2, by rw [rowN_len r3 r1]; have := hLr j hjl; omega, r5, fun hp2 => ?_⟩
      rw [rowN_len r3 r1] at hp2
      cases hA : A j with
      | none => have := r5 hA; omega
      | some a' =>
        obtain ⟨_, h6⟩ := r6 a' hA
        obtain ⟨b', off', rfl, hc'⟩ := ints_at (zs := Z j) (k := .u64) (fun i hi => h6 i (by omega)) (by omega)
        refine ⟨b', off', rfl, World.block_lt_of_cell? W _ (hc' 0 (by omega)), fun i hi => ?_⟩
        rw [rowN_len r3 r1] at hi
        rw [hc' i (by omega), rowN_get, if_pos hi, Int.toNat_of_nonneg (hwf j hjl i).1]
    · rw [hget]
      split
      · rename_i hj
        intro i
        rw [rowN_get]
        have := hwf j hj i
        unfold B64
        split <;> omega
      · exact lim_nil (by have := B64_pos; omega)
    · rw [hget]
      split
      · rename_i hj
        obtain ⟨_, r1, _, r3, _⟩ := hrow j (by omega)
        rw [rowN_len r3 r1]; exact hLr j hj
      · simp
end Go.Proofs.YtckmpnfadpnaeaaDoor
