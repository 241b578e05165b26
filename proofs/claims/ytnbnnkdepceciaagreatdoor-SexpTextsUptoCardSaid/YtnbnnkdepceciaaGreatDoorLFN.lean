/- LiftN. -/
import Derived.Test.YtnbnnkdepceciaaGreatDoorLFX
import Derived.Test.YtnbnnkdepceciaaGreatDoorPG3
set_option linter.unusedVariables false
set_option linter.unusedSimpArgs false
/- Nodes (a table of s-expressions) among the arguments. -/
namespace Go.Proofs.YtnbnnkdepceciaaGreatDoor
open Go.ChangeShapes Go.WideShapes Go.ChangeAt Go.RowKit Mth Go.Joins Go.Deep

theorem bulk_int7 {H : Type} (k : IntKind) (zs : List Int) : Rows.uptoBulkAll (lits (H := H) k zs) = zs.length := by
  induction zs with
  | nil => simp [lits, Rows.uptoBulkAll]
  | cons z r ih =>
    simp only [lits, List.map_cons, Rows.uptoBulkAll, Rows.uptoBulk, List.length_cons] at ih ⊢
    omega
/-- a list of ints in a field -/
theorem ints_cell {H : Type} {enc : TypeId × Value → H} {W : World} {v : Value} {y : DataW H × List MemPlace} {fuel : Nat}
    (hf : DataW.trod enc Tryz.prog W 0 (fun _ => true) true fuel 24 [v] = some y) : ∃ l : List Int, InL W v l ∧ l.length + 1 ≤ Rows.uptoBulk y.1 := by
  obtain ⟨d, p⟩ := y
  rcases open_ints Tryz.underlying24 Tryz.underlying3 (by kernel_rfl) hf with ⟨hcs, hx⟩ | ⟨a, len, cap, zs, hcs, _, hl, hm, hz, hx, hcell, hwz⟩
  · obtain rfl : v = .slice none 0 0 := by simpa using hcs
    simp only [Prod.mk.injEq] at hx
    obtain ⟨rfl, rfl⟩ := hx
    exact ⟨[], InL.nil W, by simp [Rows.uptoBulk]⟩
  · obtain rfl : v = .slice (some a) len cap := by simpa using hcs
    simp only [Prod.mk.injEq] at hx
    obtain ⟨rfl, rfl⟩ := hx
    simp only [if_true] at hz
    have hxl : (zs.take len).length = len := by rw [List.length_take]; omega
    refine ⟨zs.take len, ⟨some a, cap, by rw [hxl], fun hne => ?_⟩, by simp only [Rows.uptoBulk, bulk_int7, hxl]; omega⟩
    have h0 : 0 < len := by
      rcases Nat.eq_zero_or_pos len with h | h
      · subst h; simp at hne
      · exact h
    have c0 := hcell 0 (by omega)
    have hspot : a.spot = none := by simpa [Addr.add] using World.cell?_spot c0
    obtain ⟨bb, off, spot⟩ := a
    subst hspot
    refine ⟨bb, off, rfl, World.block_lt_of_cell? W _ c0, fun j x hx => ?_⟩
    have hjl : j < len := by have := (List.getElem?_eq_some_iff.1 hx).1; omega
    have := hcell j (by omega)
    rw [Addr.add_lit] at this
    rw [this, List.getD_eq_getElem?_getD]
    rw [List.getElem?_take, if_pos hjl] at hx
    rw [hx]; rfl
/-- a node's cells in a row -/
def ndCl (nd : Nd) (kv : Value) : List Value := [.int .i64 nd.kind] ++ tkCells nd.tok ++ [kv]
theorem cells_sx : Tryz.prog.cellsOf 53 = 7 := by kernel_rfl
set_option maxRecDepth 100000 in
/-- a node's cells -/
theorem nd_cells {H : Type} {enc : TypeId × Value → H} {W : World} {n : Nat} {cs : List Value} {y : DataW H × List MemPlace}
    (hf : DataW.trod enc Tryz.prog W 0 (fun _ => true) true n 53 cs = some y) : ∃ (nd : Nd) (kv : Value), cs = [.int .i64 nd.kind] ++ tkCells nd.tok ++ [kv] ∧ InL W kv nd.kids ∧ nd.tok.t.size + nd.kids.length + 1 ≤ Rows.uptoBulk y.1 := by
  obtain ⟨xs, m, _, rfl, hl, hlen, hfs⟩ := DataW.trod_struct Tryz.underlying53 hf
  rw [cells_sx] at hl
  match xs, hlen with
  | [y0, y1, y2], _ =>
    match cs, hl with
    | [u0, u1, u2, u3, u4, u5, u6], _ =>
      have h0 := hfs 0 _ rfl
      have h1 := hfs 1 _ rfl
      have h2 := hfs 2 _ rfl
      have e0 : ([u0, u1, u2, u3, u4, u5, u6].drop 0).take (Tryz.prog.cellsOf 51) = [u0] := by rw [show Tryz.prog.cellsOf 51 = 1 by kernel_rfl]; rfl
      have e1 : ([u0, u1, u2, u3, u4, u5, u6].drop 1).take (Tryz.prog.cellsOf 49) = [u1, u2, u3, u4, u5] := by rw [cells_tok]; rfl
      have e2 : ([u0, u1, u2, u3, u4, u5, u6].drop 6).take (Tryz.prog.cellsOf 24) = [u6] := by rw [show Tryz.prog.cellsOf 24 = 1 by kernel_rfl]; rfl
      have t0 : DataW.trod enc Tryz.prog W 0 (fun _ => true) true m 51 [u0] = some y0 := by rw [← e0]; exact h0
      have t1 : DataW.trod enc Tryz.prog W 0 (fun _ => true) true m 49 [u1, u2, u3, u4, u5] = some y1 := by rw [← e1]; exact h1
      have t2 : DataW.trod enc Tryz.prog W 0 (fun _ => true) true m 24 [u6] = some y2 := by rw [← e2]; exact h2
      obtain ⟨k, hk, _⟩ := DataW.trod_int Tryz.underlying51 t0
      obtain ⟨x, hx, hb⟩ := tok_cells t1
      obtain ⟨l, hl, hbl⟩ := ints_cell t2
      injection hk with hk _
      subst hk
      refine ⟨⟨k, x, l⟩, u6, ?_, hl, ?_⟩
      · show [_, u1, u2, u3, u4, u5, u6] = _ :: (tkCells x ++ [u6])
        rw [← hx]; rfl
      · simp only [List.map_cons, Rows.uptoBulk, Rows.uptoBulkAll]
        show x.t.size + l.length + 1 ≤ _
        omega
set_option maxRecDepth 100000 in
theorem nodes_arg {H : Type} {enc : TypeId × Value → H} {W : World} {base : Nat} {v : Value} {d : DataW H} {p : List MemPlace} (hval : Value.okWide Tryz.prog W .any base 23 v)
    (h : DataW.Trod enc Tryz.prog W 0 (fun _ => true) true 23 v d p) (hk : Rows.uptoBulk d ≤ 1048576) : ∃ L : List Nd, SxL W v L ∧ TabC L := by
  obtain ⟨a0, len, cap, rfl⟩ := okWide_slice Tryz.underlying23 hval
  obtain ⟨fuel, hf⟩ := h
  rcases open_slice Tryz.underlying23 hf with ⟨hcs, _⟩ | ⟨a, len', cap', m, n, D, Pl, hcs, _, hl, hm, hmm, hx, hi⟩
  · simp [Value.cells] at hcs
    obtain ⟨rfl, rfl, rfl⟩ := hcs
    exact ⟨[], SxL.nil W, ⟨by simp, fun x hx => by simp at hx, fun x hx => by simp at hx⟩⟩
  · simp [Value.cells] at hcs
    obtain ⟨rfl, rfl, rfl⟩ := hcs
    simp only [Prod.mk.injEq] at hx
    obtain ⟨rfl, rfl⟩ := hx
    simp only [if_true] at hmm
    simp only [Rows.uptoBulk] at hk
    have part : ∀ i, ∃ q : Nd × Value, i < cap → (∀ j u, (ndCl q.1 q.2)[j]? = some u → W.cell? ((a.add (i * 7)).add j) = some u) ∧ InL W q.2 q.1.kids ∧ q.1.tok.t.size + q.1.kids.length + 1 ≤ Rows.uptoBulk (D i) := by
      intro i
      by_cases hic : i < cap
      · obtain ⟨cs', hc, ht⟩ := hi i (by omega)
        rw [cells_sx] at hc
        obtain ⟨_, hcl, hat⟩ := World.cells?_some hc
        obtain ⟨nd, kv, hx, hin, hb⟩ := nd_cells ht
        refine ⟨(nd, kv), fun _ => ⟨fun j u hu => ?_, hin, hb⟩⟩
        have hj : j < cs'.length := by rw [hx]; exact (List.getElem?_eq_some_iff.1 hu).1
        have := hat j (by omega)
        subst hx
        rw [this]
        exact hu
      · exact ⟨(⟨0, ⟨0, ⟨#[]⟩, false, 0, 0⟩, []⟩, .bool true), fun h => absurd h hic⟩
    have hbulk : ∀ j, j < len → 1 ≤ Rows.uptoBulk (D j) := fun j hj => by
      have := (Classical.choose_spec (part j) (by omega)).2.2; omega
    have hlen : len ≤ 1048576 := by
      have := bulk_many' len D hbulk
      omega
    let X : Nat → Nd × Value := fun i => Classical.choose (part i)
    have hX : ∀ i, i < cap → (∀ j u, (ndCl (X i).1 (X i).2)[j]? = some u → W.cell? ((a.add (i * 7)).add j) = some u) ∧ InL W (X i).2 (X i).1.kids ∧ (X i).1.tok.t.size + (X i).1.kids.length + 1 ≤ Rows.uptoBulk (D i) := fun i hi => Classical.choose_spec (part i) hi
    refine ⟨(List.range len).map fun i => (X i).1, ?_, ⟨by simp; omega, fun x hx => ?_, fun x hx => ?_⟩⟩
    · refine ⟨some a, cap, by simp, fun hne => ?_⟩
      have h0 : 0 < len := by
        rcases Nat.eq_zero_or_pos len with h | h
        · subst h; simp at hne
        · exact h
      have c0 := (hX 0 (by omega)).1 0 _ rfl
      have hspot : a.spot = none := by simpa [Addr.add] using World.cell?_spot c0
      obtain ⟨bb, off, spot⟩ := a
      subst hspot
      refine ⟨bb, off, rfl, World.block_lt_of_cell? W _ c0, fun i nd hi => ?_⟩
      have hil : i < len := by have := (List.getElem?_eq_some_iff.1 hi).1; simpa using this
      have e : nd = (X i).1 := by
        simp only [List.getElem?_map] at hi
        rw [List.getElem?_eq_getElem (by simpa using hil)] at hi
        simpa using hi.symm
      subst e
      obtain ⟨hc, hin, _⟩ := hX i (by omega)
      simp only [Addr.add_lit] at hc
      refine ⟨hc 0 _ rfl, fun j u hj => ?_, (X i).2, hc 6 _ rfl, hin⟩
      rw [show off + i * 7 + 1 + j = off + i * 7 + (1 + j) by omega]
      refine hc (1 + j) u ?_
      match j, hj with
      | 0, hj => exact hj
      | 1, hj => exact hj
      | 2, hj => exact hj
      | 3, hj => exact hj
      | 4, hj => exact hj
      | j + 5, hj => simp [tkCells] at hj
    · obtain ⟨i, hi1, rfl⟩ := List.mem_map.1 hx
      have hil := List.mem_range.1 hi1
      have h1 := (hX i (by omega)).2.2
      have h2 := bulk_at len D i hil
      omega
    · obtain ⟨i, hi1, rfl⟩ := List.mem_map.1 hx
      have hil := List.mem_range.1 hi1
      have h1 := (hX i (by omega)).2.2
      have h2 := bulk_at len D i hil
      omega
end Go.Proofs.YtnbnnkdepceciaaGreatDoor
