/- HMath HA HB HC HD HE HF. -/
import Derived.Test.YthgmebnihpjnoaaGreatDoorMA
import Derived.Test.YthgmebnihpjnoaaGreatDoorZ2
import Derived.Test.YthgmebnihpjnoaaGreatDoorSM
import Derived.Test.YthgmebnihpjnoaaGreatDoorQA
import Derived.Deep.RegionWith
import Derived.Test.YthgmebnihpjnoaaGreatDoorZ3
import Derived.Test.YthgmebnihpjnoaaGreatDoorZB4
set_option linter.unusedVariables false
set_option linter.unusedSimpArgs false
/- Division by hand of long numbers, in plain mathematics: carry and borrow apart; a guess by the two highest limbs. -/
namespace Go.Proofs.YthgmebnihpjnoaaGreatDoor.Mth

end Go.Proofs.YthgmebnihpjnoaaGreatDoor.Mth

/- Package whole: takeTimes. -/
namespace Go.Proofs.YthgmebnihpjnoaaGreatDoor
open Go.RowKit Mth

end Go.Proofs.YthgmebnihpjnoaaGreatDoor

/- Package whole: guessQuotient. -/
namespace Go.Proofs.YthgmebnihpjnoaaGreatDoor
open Go.RowKit Mth

theorem Sl.parts {w : World} {k : IntKind} {b off n cap : Nat} {xs : List Nat} (h : Sl w k (.slice (some ⟨b, off, none⟩) n cap) xs) : xs.length = n ∧ n ≤ cap ∧ cap ≤ maxLen ∧ n ≤ 16777216 := by
  obtain ⟨ao, cap', e, h1, h2, h3, _⟩ := h
  simp only [Value.slice.injEq] at e
  obtain ⟨rfl, rfl, rfl⟩ := e
  exact ⟨rfl, h1, h2, h3⟩
/-- what guessQuotient's division answers -/
def GQ (w : World) (u v : Value) (T E : Nat) : Prop := ∀ w1, Below w.heap.size w w1 → Calls Tryz.prog 101 #[u, v] w1 fun e w' => ∃ vq vr, e = .returned (.tuple #[vq, vr, .int .i64 0]) ∧ Num w' vq (T / E) ∧ Below w1.heap.size w1 w'
end Go.Proofs.YthgmebnihpjnoaaGreatDoor

/- Package whole: takeQuotient. -/
namespace Go.Proofs.YthgmebnihpjnoaaGreatDoor
open Go.RowKit Mth

theorem seg_all {xs : List Nat} {n : Nat} (h : xs.length = n) : seg xs 0 n = val B64 xs := by
  unfold seg
  rw [List.drop_zero, List.take_of_length_le (by omega)]

end Go.Proofs.YthgmebnihpjnoaaGreatDoor

/- Package whole: quoByHand; quo of any two amounts. -/
namespace Go.Proofs.YthgmebnihpjnoaaGreatDoor
open Go.RowKit Mth

theorem Mid.sl {w : World} {g off cap : Nat} {pre post : List Value} {xs : List Nat} (h : Mid w g pre xs post) (hoff : pre.length = off) (hc : xs.length ≤ cap) (hm : cap ≤ maxLen) (hl : xs.length ≤ 16777216) : Sl w .u64 (.slice (some ⟨g, off, none⟩) xs.length cap) xs :=
  ⟨_, cap, rfl, hc, hm, hl, (fun e => by cases e), fun _ => ⟨g, off, rfl, h.lt, fun _ hj => by rw [← hoff]; exact h.cell hj⟩⟩
end Go.Proofs.YthgmebnihpjnoaaGreatDoor

/- Package whole: quo of any two amounts. -/
namespace Go.Proofs.YthgmebnihpjnoaaGreatDoor
open Go.RowKit Mth

end Go.Proofs.YthgmebnihpjnoaaGreatDoor

/- Package whole: divide in general; a division's answers in general. -/
namespace Go.Proofs.YthgmebnihpjnoaaGreatDoor
open Go.RowKit Mth

/-- two answers: both, or too long -/
def twE (x y : Int) : Int := if zE x = 0 ∧ zE y = 0 then 0 else 5
def twZ (x y z : Int) : Int := if zE x = 0 ∧ zE y = 0 then z else 0
theorem tw_fine {x y : Int} (hx : zE x = 0) (hy : zE y = 0) (z : Int) : twE x y = 0 ∧ twZ x y z = z := ⟨if_pos ⟨hx, hy⟩, if_pos ⟨hx, hy⟩⟩
theorem tw_big {x y : Int} (h : zE x = 5 ∨ zE y = 5) (z : Int) : twE x y = 5 ∧ twZ x y z = 0 := by
  have hn : ¬ (zE x = 0 ∧ zE y = 0) := by omega
  exact ⟨if_neg hn, if_neg hn⟩

end Go.Proofs.YthgmebnihpjnoaaGreatDoor
