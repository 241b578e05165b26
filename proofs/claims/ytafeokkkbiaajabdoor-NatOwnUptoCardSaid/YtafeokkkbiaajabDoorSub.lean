/- nat.takeFrom, nat.Sub, tribunalref01.Sub, NatSubs. -/
import Derived.Test.YtafeokkkbiaajabDoorRefB
import Derived.Test.YtafeokkkbiaajabDoorAlive
namespace Go.Proofs.YtafeokkkbiaajabDoor
open Go.RowKit Mth

/-- what takeFrom's loops hold -/
def TakeO (w wr : World) (g : Nat) (R b : List Nat) (c i : Value) (least most : Nat) : Prop := ∃ (k cc : Nat) (R' : List Nat), least ≤ k ∧ k ≤ most ∧ i = .int .i64 k ∧ c = .int .u64 (cc : Int) ∧ TakeT R R' b k cc ∧ Row wr 36 .u64 g R' ∧ w.grownBy wr (some g)

theorem num_settle {w : World} {v : Value} {R : List Nat} {n : Nat} (h : Sl w .u64 v (trimL R)) (hl : Lim B64 R) (hv : val B64 R = n) : Num w v n := by
  rw [← hv]; exact num_trim h hl

/-- what Sub answers -/
def subN (m n : Nat) : Nat := if Big ≤ m ∨ Big ≤ n then 0 else if m < n then 0 else m - n
def subE (m n : Nat) : Int := if Big ≤ m ∨ Big ≤ n then 5 else if m < n then 10 else 0
theorem sub_long {m n : Nat} (h : Big ≤ m ∨ Big ≤ n) : subN m n = 0 ∧ subE m n = 5 := ⟨if_pos h, if_pos h⟩
theorem sub_below {m n : Nat} (h : ¬ (Big ≤ m ∨ Big ≤ n)) (h2 : m < n) : subN m n = 0 ∧ subE m n = 10 := by
  unfold subN subE; rw [if_neg h, if_neg h, if_pos h2, if_pos h2]; exact ⟨rfl, rfl⟩
theorem sub_fine {m n : Nat} (h : ¬ (Big ≤ m ∨ Big ≤ n)) (h2 : ¬ m < n) : subN m n = m - n ∧ subE m n = 0 := by
  unfold subN subE; rw [if_neg h, if_neg h, if_neg h2, if_neg h2]; exact ⟨rfl, rfl⟩

theorem natList_pair {w : World} {v1 v2 : Value} {xs ys : List Nat} (h1 : Sl w .u64 v1 xs) (h2 : Sl w .u64 v2 ys) :
    NatList (w.alloc (Obj.cells #[v1, v2] 23)) (.slice (some ⟨w.heap.size, 0, none⟩) 2 2) [xs, ys] := by
  obtain ⟨a1, c1, rfl⟩ := h1.shape
  obtain ⟨a2, c2, rfl⟩ := h2.shape
  exact natList_two h1 h2
theorem longB_two (xs ys : List Nat) : longB [xs, ys] 2 = (decide (Big ≤ val B64 xs) || decide (Big ≤ val B64 ys)) := by
  simp [longB]

end Go.Proofs.YtafeokkkbiaajabDoor
