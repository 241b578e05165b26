/- Fractions among the arguments. -/
import Derived.Test.YthgmebnihpjnoaaGreatDoorLIF
import Derived.Test.YthgmebnihpjnoaaGreatDoorQB1
set_option linter.unusedVariables false
set_option linter.unusedSimpArgs false
namespace Go.Proofs.YthgmebnihpjnoaaGreatDoor
open Go.ChangeShapes Go.WideShapes Go.ChangeAt Go.RowKit Mth Go.Joins

theorem cells_rat : Tryz.prog.cellsOf 27 = 3 := by kernel_rfl
set_option maxRecDepth 100000 in
/-- an Int's cells -/
theorem int_cells {H : Type} {enc : TypeId × Value → H} {W : World} {n : Nat} {cs : List Value} {y : DataW H × List MemPlace}
    (hf : DataW.trod enc Tryz.prog W 0 (fun _ => true) true n 25 cs = some y) (hk : Rows.uptoBulk y.1 ≤ 1048576) : ∃ (b : Bool) (u : Value) (xs : List Nat), cs = [.bool b, u] ∧ Sl W .u64 u xs ∧ Lim B64 xs ∧ xs.length ≤ 1048576 := by
  obtain ⟨xs, m, _, rfl, hl, hlen, hfs⟩ := DataW.trod_struct Tryz.underlying25 hf
  rw [cells_int] at hl
  match xs, hlen with
  | [y0, y1], _ =>
    match cs, hl with
    | [u0, u1], _ =>
      have h0 := hfs 0 _ rfl
      have h1 := hfs 1 _ rfl
      have e0 : ([u0, u1].drop 0).take (Tryz.prog.cellsOf 4) = [u0] := by rw [show Tryz.prog.cellsOf 4 = 1 by kernel_rfl]; rfl
      have e1 : ([u0, u1].drop 1).take (Tryz.prog.cellsOf 23) = [u1] := by rw [show Tryz.prog.cellsOf 23 = 1 by kernel_rfl]; rfl
      have t0 : DataW.trod enc Tryz.prog W 0 (fun _ => true) true m 4 [u0] = some y0 := by rw [← e0]; exact h0
      have t1 : DataW.trod enc Tryz.prog W 0 (fun _ => true) true m 23 [u1] = some y1 := by rw [← e1]; exact h1
      obtain ⟨b, hb, _⟩ := DataW.trod_bool Tryz.underlying4 t0
      injection hb with hb _
      subst hb
      have hk1 : Rows.uptoBulk y1.1 ≤ 1048576 := by
        have := bulk_mem (d := y1.1) (ds := [y0.1, y1.1]) (by simp)
        simp only [List.map_cons, List.map_nil, Rows.uptoBulk] at hk
        omega
      obtain ⟨xs, s, l, hl⟩ := nat_cell t1 hk1
      exact ⟨b, u1, xs, rfl, s, l, hl⟩
set_option maxRecDepth 100000 in
/-- a Rat among the arguments -/
theorem rat_arg {H : Type} {enc : TypeId × Value → H} {W : World} {base : Nat} {v : Value} {d : DataW H} {p : List MemPlace} (hval : Value.okWide Tryz.prog W .any base 27 v)
    (h : DataW.Trod enc Tryz.prog W 0 (fun _ => true) true 27 v d p) (hk : Rows.uptoBulk d ≤ 1048576) : ∃ (x : Int) (e : Nat), RatV W v x e := by
  obtain ⟨cs, rfl, hsz⟩ := okWide_struct Tryz.underlying27 hval
  obtain ⟨fuel, hf⟩ := h
  obtain ⟨xs, m, _, hx, hl, hlen, hfs⟩ := DataW.trod_struct Tryz.underlying27 hf
  rw [cells_rat] at hl
  simp only [Prod.mk.injEq] at hx
  obtain ⟨rfl, rfl⟩ := hx
  match xs, hlen with
  | [y0, y1], _ =>
    obtain ⟨l⟩ := cs
    match l, hl with
    | [u0, u1, u2], _ =>
      have h0 := hfs 0 _ rfl
      have h1 := hfs 1 _ rfl
      have e0 : ([u0, u1, u2].drop 0).take (Tryz.prog.cellsOf 25) = [u0, u1] := by rw [cells_int]; rfl
      have e1 : ([u0, u1, u2].drop 2).take (Tryz.prog.cellsOf 23) = [u2] := by rw [show Tryz.prog.cellsOf 23 = 1 by kernel_rfl]; rfl
      have t0 : DataW.trod enc Tryz.prog W 0 (fun _ => true) true m 25 [u0, u1] = some y0 := by rw [← e0]; exact h0
      have t1 : DataW.trod enc Tryz.prog W 0 (fun _ => true) true m 23 [u2] = some y1 := by rw [← e1]; exact h1
      have hb0 := bulk_mem (d := y0.1) (ds := [y0.1, y1.1]) (by simp)
      have hb1 := bulk_mem (d := y1.1) (ds := [y0.1, y1.1]) (by simp)
      simp only [List.map_cons, List.map_nil, Rows.uptoBulk] at hk
      obtain ⟨b, u, xs, e, s1, l1, n1⟩ := int_cells t0 (by omega)
      obtain ⟨ys, s2, l2, n2⟩ := nat_cell t1 (by omega)
      simp only [List.cons.injEq, and_true] at e
      obtain ⟨rfl, rfl⟩ := e
      obtain ⟨a1, c1, rfl⟩ := s1.shape
      obtain ⟨a2, c2, rfl⟩ := s2.shape
      exact ⟨_, _, b, a1, _, c1, a2, _, c2, xs, ys, rfl, s1, l1, by omega, rfl, s2, l2, by omega, rfl⟩
end Go.Proofs.YthgmebnihpjnoaaGreatDoor
