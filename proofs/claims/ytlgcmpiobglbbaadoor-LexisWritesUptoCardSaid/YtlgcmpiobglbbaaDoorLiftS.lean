/- Texts and a token by itself among the arguments of package lexis's laws. -/
import Derived.Test.YtlgcmpiobglbbaaDoorLiftT
import Derived.Test.YtlgcmpiobglbbaaDoorKR
import Derived.SliceStrings
set_option linter.unusedVariables false
set_option linter.unusedSimpArgs false
namespace Go.Proofs.YtlgcmpiobglbbaaDoor
open Go.ChangeShapes Go.WideShapes Go.ChangeAt Go.RowKit Mth Go.Joins Go.Deep

theorem bulk_len {H : Type} (l : List (DataW H)) (h : ∀ d ∈ l, 1 ≤ Rows.uptoBulk d) : l.length ≤ Rows.uptoBulkAll l := by
  induction l with
  | nil => exact Nat.zero_le _
  | cons x r ih =>
    simp only [Rows.uptoBulkAll, List.length_cons]
    have := h x (by simp)
    have := ih (fun d hd => h d (by simp [hd]))
    omega
theorem cells_str : Tryd.prog.cellsOf 9 = 1 := by kernel_rfl
set_option maxRecDepth 100000 in
theorem strs_arg {H : Type} {enc : TypeId × Value → H} {W : World} {base : Nat} {v : Value} {d : DataW H} {p : List MemPlace} (hval : Value.okWide Tryd.prog W .any base 46 v)
    (h : DataW.Trod enc Tryd.prog W 0 (fun _ => true) true 46 v d p) (hk : Rows.uptoBulk d ≤ 1048576) : ∃ S : List ByteArray, StL W v S ∧ S.length ≤ 1048576 ∧ ∀ x ∈ S, x.size ≤ 1048576 := by
  obtain ⟨a0, len, cap, rfl⟩ := okWide_slice Tryd.underlying46 hval
  obtain ⟨fuel, hf⟩ := h
  rcases open_strings Tryd.underlying46 Tryd.underlying9 cells_str hf with ⟨hcs, _⟩ | ⟨a, len', cap', ss, hcs, _, hl, hm, hz, hx, hcell, hws⟩
  · simp [Value.cells] at hcs
    obtain ⟨rfl, rfl, rfl⟩ := hcs
    exact ⟨[], ⟨none, 0, rfl, fun h => absurd rfl h⟩, by simp, fun x hx => by simp at hx⟩
  · simp [Value.cells] at hcs
    obtain ⟨rfl, rfl, rfl⟩ := hcs
    simp only [Prod.mk.injEq] at hx
    obtain ⟨rfl, rfl⟩ := hx
    simp only [if_true] at hz
    simp only [Rows.uptoBulk] at hk
    have hlit : ∀ d ∈ (strs (ss.take len) : List (DataW H)), 1 ≤ Rows.uptoBulk d := fun d hd => by
      obtain ⟨s, _, rfl⟩ := List.mem_map.1 hd
      simp only [Rows.uptoBulk]; omega
    have hlen := bulk_len _ hlit
    have hsl : (strs (ss.take len) : List (DataW H)).length = len := by
      unfold strs; rw [List.length_map, List.length_take]; omega
    refine ⟨ss.take len, ⟨some a, cap, by rw [List.length_take, Nat.min_eq_left (by omega)], fun hne => ?_⟩, by rw [List.length_take]; omega, fun x hx => ?_⟩
    · have h0 : 0 < len := by
        rcases Nat.eq_zero_or_pos len with h | h
        · subst h; simp at hne
        · exact h
      have c0 := hcell 0 (by omega)
      have hspot : a.spot = none := by simpa [Addr.add] using World.cell?_spot c0
      obtain ⟨bb, off, spot⟩ := a
      subst hspot
      refine ⟨bb, off, rfl, World.block_lt_of_cell? W _ c0, fun i x hi => ?_⟩
      have hil := (List.getElem?_eq_some_iff.1 hi).1
      rw [List.length_take] at hil
      have hc := hcell i (by omega)
      rw [Addr.add_lit] at hc
      rw [hc, List.getD_eq_getElem?_getD]
      rw [List.getElem?_take, if_pos (by omega)] at hi
      rw [hi]; rfl
    · have hm : (DataW.lit (.string x.data.toList) : DataW H) ∈ (strs (ss.take len) : List (DataW H)) := List.mem_map.2 ⟨x, hx, rfl⟩
      have := bulk_mem hm
      simp only [Rows.uptoBulk] at this
      have := len_data x
      omega
set_option maxRecDepth 100000 in
theorem tok_arg {H : Type} {enc : TypeId × Value → H} {W : World} {base : Nat} {v : Value} {d : DataW H} {p : List MemPlace} (hval : Value.okWide Tryd.prog W .any base 33 v)
    (h : DataW.Trod enc Tryd.prog W 0 (fun _ => true) true 33 v d p) (hk : Rows.uptoBulk d ≤ 1048576) : ∃ x : Tk, v = tkV x ∧ x.t.size ≤ 1048576 := by
  obtain ⟨cs, rfl, hsz⟩ := okWide_struct Tryd.underlying33 hval
  obtain ⟨fuel, hf⟩ := h
  obtain ⟨x, hx, hb⟩ := tok_cells hf
  refine ⟨x, ?_, by show x.t.size ≤ 1048576; simp only at hb; omega⟩
  have : cs.toList = tkCells x := by simpa [Value.cells] using hx
  unfold tkV
  congr 1
  exact Array.toList_inj.1 this
end Go.Proofs.YtlgcmpiobglbbaaDoor
