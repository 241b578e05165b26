/- Package whole: Gcd. -/
import Derived.Test.YthgmebnihpjnoaaGreatDoorZB4
import Derived.Test.YthgmebnihpjnoaaGreatDoorGC
import Derived.Test.YthgmebnihpjnoaaGreatDoorZ3
set_option linter.unusedVariables false
set_option linter.unusedSimpArgs false
namespace Go.Proofs.YthgmebnihpjnoaaGreatDoor
open Go.RowKit Mth

theorem gcd_num {v1 v2 : Value} {m : Nat} {ys : List Nat} {w : World} (h1 : Num w v1 m) (h2 : Sl w .u64 v2 ys) (l2 : Lim B64 ys) (hm : m < Big) (hn : val B64 ys < Big) :
    Calls Tryz.prog 89 #[v1, v2] w fun e w' => ∃ v', e = .returned (.tuple #[v', .int .i64 0]) ∧ Num w' v' (Nat.gcd m (val B64 ys)) ∧ Below w.heap.size w w' := by
  obtain ⟨xs, s1, l1, _, rfl⟩ := h1
  have F := gcd_fine (show ¬ (Big ≤ val B64 xs ∨ Big ≤ val B64 ys) by omega)
  refine (gcd_any v1 v2 xs ys w s1 h2 l1 l2).mono ?_
  rintro e w' ⟨v', rfl, ho, hb⟩
  rw [F.1] at ho
  rw [F.2]
  exact ⟨v', rfl, ho.num, hb⟩
end Go.Proofs.YthgmebnihpjnoaaGreatDoor
