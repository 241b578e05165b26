/- HMath HA HB HC HD HE HF. -/
import Derived.Test.YtehdfkafdpfdnaaGreatDoorUMA
import Derived.Test.YtehdfkafdpfdnaaGreatDoorUZ2
import Derived.Test.YtehdfkafdpfdnaaGreatDoorUSM
import Derived.Test.YtehdfkafdpfdnaaGreatDoorUQA
import Derived.Deep.RegionWith
import Derived.Test.YtehdfkafdpfdnaaGreatDoorUZ3
import Derived.Test.YtehdfkafdpfdnaaGreatDoorUZB4
set_option linter.unusedVariables false
set_option linter.unusedSimpArgs false
/- Division by hand of long numbers, in plain mathematics: carry and borrow apart; a guess by the two highest limbs. -/
namespace Go.Proofs.YtehdfkafdpfdnaaGreatDoor.Mth

end Go.Proofs.YtehdfkafdpfdnaaGreatDoor.Mth

/- Package whole: takeTimes. -/
namespace Go.Proofs.YtehdfkafdpfdnaaGreatDoor
open Go.RowKit Mth

end Go.Proofs.YtehdfkafdpfdnaaGreatDoor

/- Package whole: guessQuotient. -/
namespace Go.Proofs.YtehdfkafdpfdnaaGreatDoor
open Go.RowKit Mth

theorem Sl.parts {w : World} {k : IntKind} {b off n cap : Nat} {xs : List Nat} (h : Sl w k (.slice (some ⟨b, off, none⟩) n cap) xs) : xs.length = n ∧ n ≤ cap ∧ cap ≤ maxLen ∧ n ≤ 16777216 := by
  obtain ⟨ao, cap', e, h1, h2, h3, _⟩ := h
  simp only [Value.slice.injEq] at e
  obtain ⟨rfl, rfl, rfl⟩ := e
  exact ⟨rfl, h1, h2, h3⟩
end Go.Proofs.YtehdfkafdpfdnaaGreatDoor

/- Package whole: takeQuotient. -/
namespace Go.Proofs.YtehdfkafdpfdnaaGreatDoor
open Go.RowKit Mth

theorem seg_all {xs : List Nat} {n : Nat} (h : xs.length = n) : seg xs 0 n = val B64 xs := by
  unfold seg
  rw [List.drop_zero, List.take_of_length_le (by omega)]

end Go.Proofs.YtehdfkafdpfdnaaGreatDoor

/- Package whole: quoByHand; quo of any two amounts. -/
namespace Go.Proofs.YtehdfkafdpfdnaaGreatDoor
open Go.RowKit Mth

theorem Mid.sl {w : World} {g off cap : Nat} {pre post : List Value} {xs : List Nat} (h : Mid w g pre xs post) (hoff : pre.length = off) (hc : xs.length ≤ cap) (hm : cap ≤ maxLen) (hl : xs.length ≤ 16777216) : Sl w .u64 (.slice (some ⟨g, off, none⟩) xs.length cap) xs :=
  ⟨_, cap, rfl, hc, hm, hl, (fun e => by cases e), fun _ => ⟨g, off, rfl, h.lt, fun _ hj => by rw [← hoff]; exact h.cell hj⟩⟩
end Go.Proofs.YtehdfkafdpfdnaaGreatDoor

/- Package whole: quo of any two amounts. -/
namespace Go.Proofs.YtehdfkafdpfdnaaGreatDoor
open Go.RowKit Mth

end Go.Proofs.YtehdfkafdpfdnaaGreatDoor

/- Package whole: divide in general; a division's answers in general. -/
namespace Go.Proofs.YtehdfkafdpfdnaaGreatDoor
open Go.RowKit Mth

end Go.Proofs.YtehdfkafdpfdnaaGreatDoor
