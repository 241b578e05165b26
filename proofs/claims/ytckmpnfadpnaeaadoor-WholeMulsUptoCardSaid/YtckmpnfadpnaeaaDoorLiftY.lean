/- Whole numbers among the arguments, with the bound that the row gives. -/
import Derived.Test.YtckmpnfadpnaeaaDoorLiftZ
import Derived.Test.YtckmpnfadpnaeaaDoorYM
set_option linter.unusedVariables false
set_option linter.unusedSimpArgs false
namespace Go.Proofs.YtckmpnfadpnaeaaDoor
open Go.ChangeShapes Go.WideShapes Go.ChangeAt Go.RowKit Mth Go.Joins

set_option maxRecDepth 100000 in
/-- an Int among the arguments -/
theorem int_arg2 {H : Type} {enc : TypeId × Value → H} {W : World} {base : Nat} {v : Value} {d : DataW H} {p : List MemPlace} (hval : Value.okWide Tryd.prog W .any base 25 v)
    (h : DataW.Trod enc Tryd.prog W 0 (fun _ => true) true 25 v d p) (hk : Rows.uptoBulk d ≤ 1048576) : ∃ z : Int, IntV W v z ∧ z.natAbs < BkN := by
  obtain ⟨v0, v1, y0, y1, n, rfl, rfl, rfl, h0, h1⟩ := open_agg2 Tryd.underlying25 (by kernel_rfl) cells_int hval h
  obtain ⟨b, hb, _⟩ := DataW.trod_bool Tryd.underlying4 h0
  obtain rfl : v0 = .bool b := by simpa using hb
  have hk1 : Rows.uptoBulk y1.1 ≤ 1048576 := by
    have := bulk_mem (d := y1.1) (ds := [y0.1, y1.1]) (by simp)
    simp only [Rows.uptoBulk] at hk
    omega
  obtain ⟨xs, s, l, hl⟩ := nat_cell h1 hk1
  exact ⟨_, ⟨b, v1, xs, rfl, s, l, by omega, rfl⟩, by rw [natAbs_sg]; exact val_lt_pow (L := Bk) l (by unfold Bk; exact hl)⟩
end Go.Proofs.YtckmpnfadpnaeaaDoor
