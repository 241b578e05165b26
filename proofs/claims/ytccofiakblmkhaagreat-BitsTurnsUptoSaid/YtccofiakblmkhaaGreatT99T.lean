/- BitsTurns: all vectors. -/
import Derived.Test.YtccofiakblmkhaaGreatT99TG
import Derived.Test.YtccofiakblmkhaaGreatT99TK
import Derived.Test.YtccofiakblmkhaaGreatT99TI
set_option linter.unusedVariables false
set_option linter.unusedSimpArgs false
namespace Go.Proofs.YtccofiakblmkhaaGreat
open Go.RowKit Mth

set_option maxHeartbeats 4000000 in
set_option maxRecDepth 100000 in
theorem turns_bad (v : Value) (x : Int) (xs : List Nat) (cut k : Int) (hr : rightF x (val B64 xs) = false) (w : World) (s0 : BvA w v x xs) :
    Calls Tryz.prog 9 #[v, .int .i64 cut, .int .i64 k] w fun e w' => e = .returned (.bool true) ∧ Below w.heap.size w w' := by
  have RT : Hid (∀ w1, Below w.heap.size w w1 → Calls Tryz.prog 22 #[v] w1 fun e w' => e = .returned (.bool false) ∧ Below w1.heap.size w1 w') := Lib.hid (fun w1 hw => by
    have h := (s0.below hw).right
    rw [hr] at h
    exact h)
  obtain ⟨u, rfl, t1, -, -⟩ := s0
  obtain ⟨a1, c1, rfl⟩ := t1.shape
  generalize xs.length = k1 at *
  obtain ⟨W, eW, g1, bel, -⟩ := alloc1n w (Obj.cells #[.int .i64 x, .slice a1 k1 c1] 28)
  have BL := Lib.hid bel
  have EW := Lib.hid eW
  obtain ⟨p0, p1, -, -, _⟩ := blk2 g1
  clear t1 g1 bel hr eW
  go_enter Tryz.func9, Tryz.ntmps9
  go_wp2_with fail
  try rw [EW.out]
  refine (RT.out _ BL.out).mono ?_
  rintro e w2 ⟨rfl, hb⟩
  have B2 := Lib.hid (below_of BL.out hb)
  clear hb p0 p1
  go_wp2_with fail
  refine (alive9 _).mono ?_
  rintro e w3 ⟨rfl, hb⟩
  have B3 := Lib.hid (below_of B2.out hb)
  clear hb
  go_wp2
  go_ret
  exact ⟨rfl, B3.out⟩
theorem cut_any9 (wd : Nat) (h1 : 1 ≤ wd) (cut : Int) : ∃ c : Nat, c < wd ∧ ((cut < 1 ∨ (wd : Int) ≤ cut) ∧ (c : Int) = (wd : Int).tdiv 2 ∨ ¬ (cut < 1 ∨ (wd : Int) ≤ cut) ∧ (c : Int) = cut) := by
  by_cases z : cut < 1 ∨ (wd : Int) ≤ cut
  · refine ⟨wd / 2, by omega, Or.inl ⟨z, ?_⟩⟩
    rw [Int.tdiv_eq_ediv_of_nonneg (by omega)]
    omega
  · exact ⟨cut.toNat, by omega, Or.inr ⟨z, by omega⟩⟩
theorem count_any9 (k : Int) : ∃ p : Nat, p ≤ 4096 ∧ ((k < 0 ∨ 4096 < k) ∧ (p : Int) = 3 ∨ ¬ (k < 0 ∨ 4096 < k) ∧ (p : Int) = k) := by
  by_cases z : k < 0 ∨ 4096 < k
  · exact ⟨3, by omega, Or.inl ⟨z, rfl⟩⟩
  · exact ⟨k.toNat, by omega, Or.inr ⟨z, by omega⟩⟩
theorem turns9_walk (v0 : Value) (x : Int) (xs : List Nat) (cut k : Int) (w : World) (s0 : BvA w v0 x xs) :
    Calls Tryz.prog 9 #[v0, .int .i64 cut, .int .i64 k] w fun e w' => e = .returned (.bool true) ∧ Below w.heap.size w w' := by
  cases hr : rightF x (val B64 xs)
  · exact turns_bad v0 x xs cut k hr w s0
  · obtain ⟨wd, rfl, h1, h2, hm⟩ := right_nat hr
    obtain ⟨c, hc, hcut⟩ := cut_any9 wd h1 cut
    obtain ⟨p, hp, hkp⟩ := count_any9 k
    by_cases hc1 : 1 ≤ c
    · by_cases hf : (wd : Int) + (p : Int) ≤ 4096
      · exact turns_two wd _ c p h1 h2 hm v0 xs rfl cut k w s0 hc hc1 hcut hp hf hkp
      · exact turns_twoE wd _ c p h1 h2 hm v0 xs rfl cut k w s0 hc hc1 hcut hp hf hkp
    · exact turns_one wd _ c p h1 h2 hm v0 xs rfl cut k w s0 hc (by omega) hcut hp hkp
end Go.Proofs.YtccofiakblmkhaaGreat
