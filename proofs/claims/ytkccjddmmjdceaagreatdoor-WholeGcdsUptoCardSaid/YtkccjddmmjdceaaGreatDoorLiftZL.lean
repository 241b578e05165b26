/- A list of Ints among the arguments. -/
import Derived.Test.YtkccjddmmjdceaaGreatDoorLF
import Derived.Test.YtkccjddmmjdceaaGreatDoorZT
import Derived.Deep.Slices
set_option linter.unusedVariables false
set_option linter.unusedSimpArgs false
namespace Go.Proofs.YtkccjddmmjdceaaGreatDoor
open Go.ChangeShapes Go.WideShapes Go.ChangeAt Go.RowKit Mth Go.Joins Go.Deep

theorem bulk_many' {H : Type} (n : Nat) (D : Nat → DataW H) (h : ∀ j, j < n → 1 ≤ Rows.uptoBulk (D j)) : n ≤ Rows.uptoBulkAll ((List.range n).map D) := by
  have key : ∀ l : List Nat, (∀ j ∈ l, j < n) → l.length ≤ Rows.uptoBulkAll (l.map D) := by
    intro l
    induction l with
    | nil => exact fun _ => Nat.zero_le _
    | cons x r ih =>
      intro hl
      simp only [List.map_cons, Rows.uptoBulkAll, List.length_cons]
      have := h x (hl x (by simp))
      have := ih (fun j hj => hl j (by simp [hj]))
      omega
  have := key (List.range n) (fun j hj => List.mem_range.1 hj)
  rwa [List.length_range] at this
set_option maxRecDepth 100000 in
theorem ints_arg {H : Type} {enc : TypeId × Value → H} {W : World} {base : Nat} {v : Value} {d : DataW H} {p : List MemPlace} (hval : Value.okWide Tryz.prog W .any base 37 v)
    (h : DataW.Trod enc Tryz.prog W 0 (fun _ => true) true 37 v d p) (hk : Rows.uptoBulk d ≤ 1048576) : ∃ zs : List Int, IntL W v zs := by
  obtain ⟨a0, len, cap, rfl⟩ := okWide_slice Tryz.underlying37 hval
  obtain ⟨fuel, hf⟩ := h
  rcases open_slice Tryz.underlying37 hf with ⟨hcs, _⟩ | ⟨a, len', cap', m, n, D, Pl, hcs, _, hl, hm, hmm, hx, hi⟩
  · simp [Value.cells] at hcs
    obtain ⟨rfl, rfl, rfl⟩ := hcs
    exact ⟨[], none, 0, rfl, Nat.le_refl _, by unfold maxLen; omega, by simp, fun _ => rfl, fun h => by simp at h⟩
  · simp [Value.cells] at hcs
    obtain ⟨rfl, rfl, rfl⟩ := hcs
    simp only [Prod.mk.injEq] at hx
    obtain ⟨rfl, rfl⟩ := hx
    simp only [if_true] at hmm
    simp only [Rows.uptoBulk] at hk
    have part : ∀ i, i < cap → ∃ (b : Bool) (u : Value) (y : DataW H × List MemPlace) (n1 : Nat), W.cell? (a.add (i * 2)) = some (.bool b) ∧ W.cell? ((a.add (i * 2)).add 1) = some u ∧ 1 ≤ Rows.uptoBulk (D i) ∧ Rows.uptoBulk y.1 ≤ Rows.uptoBulk (D i) ∧ DataW.trod enc Tryz.prog W 0 (fun _ => true) true n1 23 [u] = some y := by
      intro i hic
      obtain ⟨cs', hc, ht⟩ := hi i (by omega)
      rw [cells_int] at hc
      obtain ⟨_, hcl, hat⟩ := World.cells?_some hc
      obtain ⟨y0, y1, n1, hy, _, t0, t1⟩ := trod_struct2 Tryz.underlying25 ht
      match cs', hcl with
      | [u0, u1], _ =>
        have e0 : ([u0, u1].drop 0).take (Tryz.prog.cellsOf 4) = [u0] := by rw [show Tryz.prog.cellsOf 4 = 1 by kernel_rfl]; rfl
        have e1 : ([u0, u1].drop 1).take (Tryz.prog.cellsOf 23) = [u1] := by rw [show Tryz.prog.cellsOf 23 = 1 by kernel_rfl]; rfl
        have t0' : DataW.trod enc Tryz.prog W 0 (fun _ => true) true n1 4 [u0] = some y0 := by rw [← e0]; exact t0
        have t1' : DataW.trod enc Tryz.prog W 0 (fun _ => true) true n1 23 [u1] = some y1 := by rw [← e1]; exact t1
        obtain ⟨b, hb, hy0⟩ := DataW.trod_bool Tryz.underlying4 t0'
        obtain rfl : u0 = .bool b := by simpa using hb
        simp only [Prod.mk.injEq] at hy
        refine ⟨b, u1, y1, n1, ?_, ?_, ?_, ?_, t1'⟩
        · have := hat 0 (by omega)
          simpa [Addr.add] using this
        · exact hat 1 (by omega)
        · rw [hy.1, hy0]; simp only [Rows.uptoBulk, Rows.uptoBulkAll]; omega
        · rw [hy.1]; simp only [Rows.uptoBulk, Rows.uptoBulkAll]; omega
    have hlen : len ≤ 1048576 := by
      have := bulk_many' len D (fun j hj => by obtain ⟨_, _, _, _, _, _, h, _⟩ := part j (by omega); exact h)
      omega
    by_cases h0 : len = 0
    · subst h0
      exact ⟨[], some a, cap, rfl, Nat.zero_le _, hm, by simp, fun e => by simp at e, fun h => by simp at h⟩
    · have hspot : a.spot = none := by
        obtain ⟨b, _, _, _, h, _⟩ := part 0 (by omega)
        simpa [Addr.add] using World.cell?_spot h
      obtain ⟨bb, off, spot⟩ := a
      subst hspot
      have key : ∀ i, ∃ z : Int, i < len → ∃ (n : Bool) (ao : Option Addr) (k c : Nat), W.cell? ⟨bb, off + i * 2, none⟩ = some (.bool n) ∧ W.cell? ⟨bb, off + i * 2 + 1, none⟩ = some (.slice ao k c) ∧ IntV W (.agg #[.bool n, .slice ao k c]) z := by
        intro i
        by_cases hil : i < len
        · obtain ⟨b, u, y, n1, q0, q1, _, hyb, ht⟩ := part i (by omega)
          have hb1 := bulk_at len D i hil
          simp only [Addr.add_lit] at q0 q1
          obtain ⟨xs, s, l, hxl⟩ := nat_cell ht (by omega)
          obtain ⟨ao, c, rfl⟩ := s.shape
          exact ⟨sg b (val B64 xs), fun _ => ⟨b, ao, _, c, q0, q1, b, _, xs, rfl, s, l, by omega, rfl⟩⟩
        · exact ⟨0, fun h => absurd h hil⟩
      have hL : ((List.range len).map fun i => Classical.choose (key i)).length = len := by simp
      refine ⟨(List.range len).map fun i => Classical.choose (key i), some ⟨bb, off, none⟩, cap, by rw [hL], by omega, hm, by omega, fun e => by simp at e, fun _ => ⟨bb, off, rfl, ?_, fun j hj => ?_⟩⟩
      · obtain ⟨b, _, _, _, h, _⟩ := part 0 (by omega)
        exact World.block_lt_of_cell? W _ h
      · rw [hL] at hj
        have := Classical.choose_spec (key j) hj
        have e : ((List.range len).map fun i => Classical.choose (key i)).getD j 0 = Classical.choose (key j) := by
          simp only [List.getD_eq_getElem?_getD, List.getElem?_map]
          rw [List.getElem?_eq_getElem (by simpa using hj)]; simp
        rw [e]; exact this
end Go.Proofs.YtkccjddmmjdceaaGreatDoor
