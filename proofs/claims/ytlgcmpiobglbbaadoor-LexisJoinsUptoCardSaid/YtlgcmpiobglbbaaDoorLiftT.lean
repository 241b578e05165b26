/- Tokens among the arguments of package lexis's laws. -/
import Derived.Test.YtlgcmpiobglbbaaDoorLiftX
import Derived.Test.YtlgcmpiobglbbaaDoorNH
import Derived.Test.YtlgcmpiobglbbaaDoorKC
import Derived.Deep.Slices
set_option linter.unusedVariables false
set_option linter.unusedSimpArgs false
namespace Go.Proofs.YtlgcmpiobglbbaaDoor
open Go.ChangeShapes Go.WideShapes Go.ChangeAt Go.RowKit Mth Go.Joins Go.Deep

theorem laidOut : laidOutB Tryd.prog = true := by kernel_rfl
/-- an argument reads behind the call as it read before -/
theorem arg_stays {H : Type} {enc : TypeId × Value → H} {t : TypeId} (hr : Tryd.prog.readableRec t = true) (hrow : t < Tryd.prog.types.size) {W W' : World} {v : Value} {d : DataW H} {p : List MemPlace}
    (h : DataW.Trod enc Tryd.prog W 0 (fun _ => true) true t v d p) (hb : Below W.heap.size W W') (hlt : ∀ x ∈ p, x.block < W.heap.size) : DataW.Trod enc Tryd.prog W' 0 (fun b => decide (b < W.heap.size)) true t v d p :=
  Below.trod laidOut hr hrow h hb hlt
theorem bulk_at {H : Type} (n : Nat) (D : Nat → DataW H) (j : Nat) (hj : j < n) : Rows.uptoBulk (D j) ≤ Rows.uptoBulkAll ((List.range n).map D) := bulk_mem (List.mem_map.2 ⟨j, List.mem_range.2 hj, rfl⟩)
theorem bulk_many' {H : Type} (n : Nat) (D : Nat → DataW H) (h : ∀ j, j < n → 1 ≤ Rows.uptoBulk (D j)) : n ≤ Rows.uptoBulkAll ((List.range n).map D) := by
  have key : ∀ l : List Nat, (∀ j ∈ l, j < n) → l.length ≤ Rows.uptoBulkAll (l.map D) := by
    intro l
    induction l with
    | nil => exact fun _ => Nat.zero_le _
    | cons x r ih =>
      intro hl
      simp only [List.map_cons, Rows.uptoBulkAll, List.length_cons]
      have := h x (hl x (by simp))
      have := ih (fun j hj => hl j (by simp [hj]))
      omega
  have := key (List.range n) (fun j hj => List.mem_range.1 hj)
  rwa [List.length_range] at this
theorem cells_tok : Tryd.prog.cellsOf 33 = 5 := by kernel_rfl
set_option maxRecDepth 100000 in
/-- a token's cells -/
theorem tok_cells {H : Type} {enc : TypeId × Value → H} {W : World} {n : Nat} {cs : List Value} {y : DataW H × List MemPlace}
    (hf : DataW.trod enc Tryd.prog W 0 (fun _ => true) true n 33 cs = some y) : ∃ x : Tk, cs = tkCells x ∧ x.t.size + 1 ≤ Rows.uptoBulk y.1 := by
  obtain ⟨xs, m, _, rfl, hl, hlen, hfs⟩ := DataW.trod_struct Tryd.underlying33 hf
  rw [cells_tok] at hl
  match xs, hlen with
  | [y0, y1, y2, y3, y4], _ =>
    match cs, hl with
    | [u0, u1, u2, u3, u4], _ =>
      have h0 := hfs 0 _ rfl
      have h1 := hfs 1 _ rfl
      have h2 := hfs 2 _ rfl
      have h3 := hfs 3 _ rfl
      have h4 := hfs 4 _ rfl
      have e0 : ([u0, u1, u2, u3, u4].drop 0).take (Tryd.prog.cellsOf 31) = [u0] := by rw [show Tryd.prog.cellsOf 31 = 1 by kernel_rfl]; rfl
      have e1 : ([u0, u1, u2, u3, u4].drop 1).take (Tryd.prog.cellsOf 9) = [u1] := by rw [show Tryd.prog.cellsOf 9 = 1 by kernel_rfl]; rfl
      have e2 : ([u0, u1, u2, u3, u4].drop 2).take (Tryd.prog.cellsOf 4) = [u2] := by rw [show Tryd.prog.cellsOf 4 = 1 by kernel_rfl]; rfl
      have e3 : ([u0, u1, u2, u3, u4].drop 3).take (Tryd.prog.cellsOf 3) = [u3] := by rw [show Tryd.prog.cellsOf 3 = 1 by kernel_rfl]; rfl
      have e4 : ([u0, u1, u2, u3, u4].drop 4).take (Tryd.prog.cellsOf 3) = [u4] := by rw [show Tryd.prog.cellsOf 3 = 1 by kernel_rfl]; rfl
      have t0 : DataW.trod enc Tryd.prog W 0 (fun _ => true) true m 31 [u0] = some y0 := by rw [← e0]; exact h0
      have t1 : DataW.trod enc Tryd.prog W 0 (fun _ => true) true m 9 [u1] = some y1 := by rw [← e1]; exact h1
      have t2 : DataW.trod enc Tryd.prog W 0 (fun _ => true) true m 4 [u2] = some y2 := by rw [← e2]; exact h2
      have t3 : DataW.trod enc Tryd.prog W 0 (fun _ => true) true m 3 [u3] = some y3 := by rw [← e3]; exact h3
      have t4 : DataW.trod enc Tryd.prog W 0 (fun _ => true) true m 3 [u4] = some y4 := by rw [← e4]; exact h4
      obtain ⟨k, hk, _⟩ := DataW.trod_int Tryd.underlying31 t0
      obtain ⟨s, hs, hy1, _⟩ := DataW.trod_string Tryd.underlying9 t1
      obtain ⟨b, hb, _⟩ := DataW.trod_bool Tryd.underlying4 t2
      obtain ⟨l, hl', _⟩ := DataW.trod_int Tryd.underlying3 t3
      obtain ⟨c, hc', _⟩ := DataW.trod_int Tryd.underlying3 t4
      injection hk with hk _; injection hs with hs _; injection hb with hb _; injection hl' with hl' _; injection hc' with hc' _
      subst hk hs hb hl' hc'
      refine ⟨⟨k, s, b, l, c⟩, rfl, ?_⟩
      simp only [List.map_cons, Rows.uptoBulk, Rows.uptoBulkAll, hy1]
      show s.size + 1 ≤ _
      have := len_data s
      omega
set_option maxRecDepth 100000 in
theorem toks_arg {H : Type} {enc : TypeId × Value → H} {W : World} {base : Nat} {v : Value} {d : DataW H} {p : List MemPlace} (hval : Value.okWide Tryd.prog W .any base 22 v)
    (h : DataW.Trod enc Tryd.prog W 0 (fun _ => true) true 22 v d p) (hk : Rows.uptoBulk d ≤ 1048576) : ∃ L : List Tk, TkL W v L ∧ L.length ≤ 1048576 ∧ ∀ x ∈ L, x.t.size ≤ 1048576 := by
  obtain ⟨a0, len, cap, rfl⟩ := okWide_slice Tryd.underlying22 hval
  obtain ⟨fuel, hf⟩ := h
  rcases open_slice Tryd.underlying22 hf with ⟨hcs, _⟩ | ⟨a, len', cap', m, n, D, Pl, hcs, _, hl, hm, hmm, hx, hi⟩
  · simp [Value.cells] at hcs
    obtain ⟨rfl, rfl, rfl⟩ := hcs
    exact ⟨[], TkL.nil W, by simp, fun x hx => by simp at hx⟩
  · simp [Value.cells] at hcs
    obtain ⟨rfl, rfl, rfl⟩ := hcs
    simp only [Prod.mk.injEq] at hx
    obtain ⟨rfl, rfl⟩ := hx
    simp only [if_true] at hmm
    simp only [Rows.uptoBulk] at hk
    have part : ∀ i, ∃ x : Tk, i < cap → (∀ j u, (tkCells x)[j]? = some u → W.cell? ((a.add (i * 5)).add j) = some u) ∧ x.t.size + 1 ≤ Rows.uptoBulk (D i) := by
      intro i
      by_cases hic : i < cap
      · obtain ⟨cs', hc, ht⟩ := hi i (by omega)
        rw [cells_tok] at hc
        obtain ⟨_, hcl, hat⟩ := World.cells?_some hc
        obtain ⟨x, hx, hb⟩ := tok_cells ht
        refine ⟨x, fun _ => ⟨fun j u hu => ?_, hb⟩⟩
        have hj : j < cs'.length := by rw [hx]; exact (List.getElem?_eq_some_iff.1 hu).1
        have := hat j (by omega)
        subst hx
        rw [this]
        exact hu
      · exact ⟨⟨0, ⟨#[]⟩, false, 0, 0⟩, fun h => absurd h hic⟩
    have hbulk : ∀ j, j < len → 1 ≤ Rows.uptoBulk (D j) := fun j hj => by
      have := (Classical.choose_spec (part j) (by omega)).2; omega
    have hlen : len ≤ 1048576 := by
      have := bulk_many' len D hbulk
      omega
    let X : Nat → Tk := fun i => Classical.choose (part i)
    have hX : ∀ i, i < cap → (∀ j u, (tkCells (X i))[j]? = some u → W.cell? ((a.add (i * 5)).add j) = some u) ∧ (X i).t.size + 1 ≤ Rows.uptoBulk (D i) := fun i hi => Classical.choose_spec (part i) hi
    refine ⟨(List.range len).map X, ?_, by simp; omega, fun x hx => ?_⟩
    · refine ⟨some a, cap, by simp, fun hne => ?_⟩
      have h0 : 0 < len := by
        rcases Nat.eq_zero_or_pos len with h | h
        · subst h; simp at hne
        · exact h
      have c0 := (hX 0 (by omega)).1 0 _ rfl
      have hspot : a.spot = none := by simpa [Addr.add] using World.cell?_spot c0
      obtain ⟨bb, off, spot⟩ := a
      subst hspot
      refine ⟨bb, off, rfl, ?_, fun j x hj => ?_⟩
      · exact World.block_lt_of_cell? W _ c0
      · have hjl := (List.getElem?_eq_some_iff.1 hj).1
        rw [tks_len, List.length_map, List.length_range] at hjl
        have hq : j / 5 < len := by omega
        have hXq : ((List.range len).map X)[j / 5]? = some (X (j / 5)) := by simp [hq]
        have h5 : j % 5 < (tkCells (X (j / 5))).length := by show j % 5 < 5; omega
        have hg := tks_get _ (j / 5) _ hXq (j % 5) _ (List.getElem?_eq_getElem h5)
        rw [show 5 * (j / 5) + j % 5 = j by omega] at hg
        rw [hg] at hj
        have hxe := Option.some.inj hj
        have := (hX (j / 5) (by omega)).1 (j % 5) _ (List.getElem?_eq_getElem h5)
        rw [Addr.add_lit, Addr.add_lit] at this
        rw [show off + j / 5 * 5 + j % 5 = off + j by omega] at this
        rw [this, hxe]
    · obtain ⟨i, hi1, rfl⟩ := List.mem_map.1 hx
      have hil := List.mem_range.1 hi1
      have h1 := (hX i (by omega)).2
      have h2 := bulk_at len D i hil
      omega
end Go.Proofs.YtlgcmpiobglbbaaDoor
