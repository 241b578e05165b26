/- A list of fractions among the arguments. -/
import Derived.Test.YthgmebnihpjnoaaGreatDoorLiftZL
import Derived.Test.YthgmebnihpjnoaaGreatDoorLiftQ
import Derived.Test.YthgmebnihpjnoaaGreatDoorQB3
set_option linter.unusedVariables false
set_option linter.unusedSimpArgs false
namespace Go.Proofs.YthgmebnihpjnoaaGreatDoor
open Go.ChangeShapes Go.WideShapes Go.ChangeAt Go.RowKit Mth Go.Joins Go.Deep

set_option maxRecDepth 100000 in
theorem rats_arg {H : Type} {enc : TypeId × Value → H} {W : World} {base : Nat} {v : Value} {d : DataW H} {p : List MemPlace} (hval : Value.okWide Tryz.prog W .any base 47 v)
    (h : DataW.Trod enc Tryz.prog W 0 (fun _ => true) true 47 v d p) (hk : Rows.uptoBulk d ≤ 1048576) : ∃ L : List (Value × Int × Nat), RaL W v L ∧ L.length ≤ 1048576 := by
  obtain ⟨a0, len, cap, rfl⟩ := okWide_slice Tryz.underlying47 hval
  obtain ⟨fuel, hf⟩ := h
  rcases open_slice Tryz.underlying47 hf with ⟨hcs, _⟩ | ⟨a, len', cap', m, n, D, Pl, hcs, _, hl, hm, hmm, hx, hi⟩
  · simp [Value.cells] at hcs
    obtain ⟨rfl, rfl, rfl⟩ := hcs
    exact ⟨[], ⟨none, 0, rfl, fun h => absurd rfl h⟩, by simp⟩
  · simp [Value.cells] at hcs
    obtain ⟨rfl, rfl, rfl⟩ := hcs
    simp only [Prod.mk.injEq] at hx
    obtain ⟨rfl, rfl⟩ := hx
    simp only [if_true] at hmm
    simp only [Rows.uptoBulk] at hk
    have part : ∀ i, i < cap → ∃ (u0 u1 u2 : Value), W.cell? (a.add (i * 3)) = some u0 ∧ W.cell? ((a.add (i * 3)).add 1) = some u1 ∧ W.cell? ((a.add (i * 3)).add 2) = some u2 ∧ 1 ≤ Rows.uptoBulk (D i) ∧ (Rows.uptoBulk (D i) ≤ 1048576 → ∃ (x : Int) (e : Nat), RatV W (.agg #[u0, u1, u2]) x e) := by
      intro i hic
      obtain ⟨cs', hc, ht⟩ := hi i (by omega)
      rw [cells_rat] at hc
      obtain ⟨_, hcl, hat⟩ := World.cells?_some hc
      obtain ⟨y0, y1, n1, hy, _, t0, t1⟩ := trod_struct2 Tryz.underlying27 ht
      match cs', hcl with
      | [u0, u1, u2], _ =>
        have e0 : ([u0, u1, u2].drop 0).take (Tryz.prog.cellsOf 25) = [u0, u1] := by rw [cells_int]; rfl
        have e1 : ([u0, u1, u2].drop 2).take (Tryz.prog.cellsOf 23) = [u2] := by rw [show Tryz.prog.cellsOf 23 = 1 by kernel_rfl]; rfl
        have t0' : DataW.trod enc Tryz.prog W 0 (fun _ => true) true n1 25 [u0, u1] = some y0 := by rw [← e0]; exact t0
        have t1' : DataW.trod enc Tryz.prog W 0 (fun _ => true) true n1 23 [u2] = some y1 := by rw [← e1]; exact t1
        simp only [Prod.mk.injEq] at hy
        refine ⟨u0, u1, u2, ?_, ?_, ?_, ?_, fun hb => ?_⟩
        · have := hat 0 (by omega)
          simpa [Addr.add] using this
        · exact hat 1 (by omega)
        · exact hat 2 (by omega)
        · have hp : 1 ≤ Rows.uptoBulk y0.1 := by
            obtain ⟨xs, m', _, e, _, hlen, _⟩ := DataW.trod_struct Tryz.underlying25 t0'
            rw [e]; simp only [Rows.uptoBulk]; omega
          rw [hy.1]; simp only [Rows.uptoBulk, Rows.uptoBulkAll]; omega
        · have hb0 := bulk_mem (d := y0.1) (ds := [y0.1, y1.1]) (by simp)
          have hb1 := bulk_mem (d := y1.1) (ds := [y0.1, y1.1]) (by simp)
          rw [hy.1] at hb
          simp only [Rows.uptoBulk] at hb
          obtain ⟨b, u, xs, e, s1, l1, n1'⟩ := int_cells t0' (by omega)
          obtain ⟨ys, s2, l2, n2⟩ := nat_cell t1' (by omega)
          simp only [List.cons.injEq, and_true] at e
          obtain ⟨rfl, rfl⟩ := e
          obtain ⟨a1, c1, rfl⟩ := s1.shape
          obtain ⟨a2, c2, rfl⟩ := s2.shape
          exact ⟨_, _, b, a1, _, c1, a2, _, c2, xs, ys, rfl, s1, l1, by omega, rfl, s2, l2, by omega, rfl⟩
    have hlen : len ≤ 1048576 := by
      have := bulk_many' len D (fun j hj => by obtain ⟨_, _, _, _, _, _, h, _⟩ := part j (by omega); exact h)
      omega
    by_cases h0 : len = 0
    · subst h0
      exact ⟨[], ⟨some a, cap, rfl, fun h => absurd rfl h⟩, by simp⟩
    · have hspot : a.spot = none := by
        obtain ⟨_, _, _, h, _⟩ := part 0 (by omega)
        simpa [Addr.add] using World.cell?_spot h
      obtain ⟨bb, off, spot⟩ := a
      subst hspot
      have key : ∀ i, ∃ y : Value × Int × Nat, i < len → RatV W y.1 y.2.1 y.2.2 ∧ ∃ s0 s1 s2, y.1 = .agg #[s0, s1, s2] ∧ W.cell? ⟨bb, off + i * 3, none⟩ = some s0 ∧ W.cell? ⟨bb, off + i * 3 + 1, none⟩ = some s1 ∧ W.cell? ⟨bb, off + i * 3 + 2, none⟩ = some s2 := by
        intro i
        by_cases hil : i < len
        · obtain ⟨u0, u1, u2, q0, q1, q2, _, hr⟩ := part i (by omega)
          have hb1 := bulk_at len D i hil
          simp only [Addr.add_lit] at q0 q1 q2
          obtain ⟨x, e, hx⟩ := hr (by omega)
          exact ⟨(.agg #[u0, u1, u2], x, e), fun _ => ⟨hx, u0, u1, u2, rfl, q0, q1, q2⟩⟩
        · exact ⟨(.bool true, 0, 0), fun h => absurd h hil⟩
      have hL : ((List.range len).map fun i => Classical.choose (key i)).length = len := by simp
      refine ⟨(List.range len).map fun i => Classical.choose (key i), ⟨some ⟨bb, off, none⟩, cap, by rw [hL], fun _ => ⟨bb, off, rfl, ?_, fun j y hj => ?_⟩⟩, by omega⟩
      · obtain ⟨_, _, _, h, _⟩ := part 0 (by omega)
        exact World.block_lt_of_cell? W _ h
      · have hjl : j < len := by have := (List.getElem?_eq_some_iff.1 hj).1; omega
        have e : y = Classical.choose (key j) := by
          simp only [List.getElem?_map] at hj
          rw [List.getElem?_eq_getElem (by simpa using hjl)] at hj
          simpa using hj.symm
        rw [e]
        exact Classical.choose_spec (key j) hjl
end Go.Proofs.YthgmebnihpjnoaaGreatDoor
