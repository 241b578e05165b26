/- A list of Ints among the arguments. -/
import Derived.Test.YthgmebnihpjnoaaGreatDoorLIF
import Derived.Test.YthgmebnihpjnoaaGreatDoorZB4
import Derived.Deep.Slices
set_option linter.unusedVariables false
set_option linter.unusedSimpArgs false
namespace Go.Proofs.YthgmebnihpjnoaaGreatDoor
open Go.ChangeShapes Go.WideShapes Go.ChangeAt Go.RowKit Mth Go.Joins Go.Deep

theorem bulk_many' {H : Type} (n : Nat) (D : Nat → DataW H) (h : ∀ j, j < n → 1 ≤ Rows.uptoBulk (D j)) : n ≤ Rows.uptoBulkAll ((List.range n).map D) := by
  have key : ∀ l : List Nat, (∀ j ∈ l, j < n) → l.length ≤ Rows.uptoBulkAll (l.map D) := by
    intro l
    induction l with
    | nil => exact fun _ => Nat.zero_le _
    | cons x r ih =>
      intro hl
      simp only [List.map_cons, Rows.uptoBulkAll, List.length_cons]
      have := h x (hl x (by simp))
      have := ih (fun j hj => hl j (by simp [hj]))
      omega
  have := key (List.range n) (fun j hj => List.mem_range.1 hj)
  rwa [List.length_range] at this
end Go.Proofs.YthgmebnihpjnoaaGreatDoor
