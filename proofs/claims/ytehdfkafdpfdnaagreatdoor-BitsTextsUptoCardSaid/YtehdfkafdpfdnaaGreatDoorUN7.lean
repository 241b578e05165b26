/- 9K 9LA 9LB. -/
import Derived.Test.YtehdfkafdpfdnaaGreatDoorUN3
import Derived.Lib.SmallJoins
import Derived.Test.YtehdfkafdpfdnaaGreatDoorUNI9
import Derived.Test.YtehdfkafdpfdnaaGreatDoorUN4
import Derived.Test.YtehdfkafdpfdnaaGreatDoorULiftV
set_option linter.unusedVariables false
set_option linter.unusedSimpArgs false
/- bits: Apply with a fault; what is no operator. -/
namespace Go.Proofs.YtehdfkafdpfdnaaGreatDoor
open Go.RowKit Mth

end Go.Proofs.YtehdfkafdpfdnaaGreatDoor

/- bits: comp; its Apply. -/
namespace Go.Proofs.YtehdfkafdpfdnaaGreatDoor
open Go.RowKit Mth

end Go.Proofs.YtehdfkafdpfdnaaGreatDoor

/- bits: Holds with a fault; Apply comp (gen9o.py). -/
namespace Go.Proofs.YtehdfkafdpfdnaaGreatDoor
open Go.RowKit Mth

theorem BvA.below {w w' : World} {v : Value} {x : Int} {xs : List Nat} (h : BvA w v x xs) (hb : Below w.heap.size w w') : BvA w' v x xs := by
  obtain ⟨u, h0, h1, h2⟩ := h; exact ⟨u, h0, h1.below hb, h2⟩
theorem BvA.right {w : World} {v : Value} {x : Int} {xs : List Nat} (h : BvA w v x xs) : Calls Tryz.prog 8 #[v] w fun e w' => e = .returned (.bool (rightF x (val B64 xs))) ∧ Below w.heap.size w w' := by
  obtain ⟨u, rfl, h1, h2, h3⟩ := h; exact right_any x u xs w h1 h2
theorem right_nat {x : Int} {n : Nat} (h : rightF x n = true) : ∃ wd : Nat, x = (wd : Int) ∧ 1 ≤ wd ∧ wd ≤ 4096 ∧ n < 2 ^ wd := by
  unfold rightF isW at h
  simp only [Bool.and_eq_true, decide_eq_true_eq] at h
  obtain ⟨⟨a, b⟩, c⟩ := h
  refine ⟨x.toNat, by omega, by omega, by omega, Nat.lt_of_lt_of_le (lt_bl _) (Nat.pow_le_pow_right (by omega) (by omega))⟩
theorem BvA.v {w : World} {v : Value} {wd : Nat} {xs : List Nat} (h : BvA w v (wd : Int) xs) : BvV w v wd (val B64 xs) := by
  obtain ⟨u, rfl, h1, h2, h3⟩ := h; exact ⟨u, xs, rfl, h1, h2, h3, rfl⟩
end Go.Proofs.YtehdfkafdpfdnaaGreatDoor
