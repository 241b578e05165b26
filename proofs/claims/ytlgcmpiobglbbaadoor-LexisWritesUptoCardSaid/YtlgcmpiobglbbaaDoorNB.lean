/- lexis's reference: Decimal, small, bare. -/
import Derived.Test.YtlgcmpiobglbbaaDoorNA
set_option linter.unusedVariables false
set_option linter.unusedSimpArgs false
namespace Go.Proofs.YtlgcmpiobglbbaaDoor
open Go.RowKit Mth

theorem cb_ext {s : ByteArray} {a b j : Nat} (hj : j < b - a) (hb : b ≤ s.size) : cb (s.extract a b) j = cb s (a + j) := by
  unfold cb
  rw [dif_pos (show j < (s.extract a b).size by rw [ByteArray.size_extract]; omega), dif_pos (show a + j < s.size by omega), ByteArray.getElem_extract]
theorem size_ext {s : ByteArray} {a b : Nat} (hb : b ≤ s.size) : (s.extract a b).size = b - a := by rw [ByteArray.size_extract]; omega
theorem num_ext {s : ByteArray} {a b : Nat} (hab : a ≤ b) (hb : b ≤ s.size) : isNum (s.extract a b) 0 (b - a) ↔ isNum s a b := by
  constructor
  · intro h
    have := isNum_move (s := s.extract a b) (s' := s) (p := 0) (p' := a) (n := b - a) h (fun j hj => by rw [Nat.zero_add]; exact (cb_ext (by omega) hb).symm)
    rwa [show a + (b - a - 0) = b by omega] at this
  · intro h
    have := isNum_move (s := s) (s' := s.extract a b) (p := a) (p' := 0) (n := b) h (fun j hj => by rw [Nat.zero_add]; exact cb_ext hj hb)
    rwa [Nat.zero_add] at this
theorem all_ext {s : ByteArray} {P : Nat → Bool} {a b : Nat} (hab : a ≤ b) (hb : b ≤ s.size) : allP (s.extract a b) P 0 (b - a) ↔ allP s P a b := by
  constructor
  · intro h i i1 i2
    have := h (i - a) (by omega) (by omega)
    rwa [cb_ext (by omega) hb, show a + (i - a) = i by omega] at this
  · intro h i i1 i2
    rw [cb_ext i2 hb]; exact h _ (by omega) (by omega)
def DotR (s : ByteArray) (i : Value) : Prop := ∃ k : Nat, k ≤ s.size ∧ i = .int .i64 (k : Int) ∧ ∀ j, j < k → cb s j ≠ 46
theorem dec_at {s : ByteArray} {k : Nat} (h : ∀ j, j < k → cb s j ≠ 46) (hk : cb s k = 46) (hd : isDec s 0 s.size) : isNum s 0 k ∧ allP s bDig (k + 1) s.size ∧ k + 1 < s.size := by
  obtain ⟨i, i1, i2, i3, i4, i5⟩ := hd
  rcases (show i < k ∨ i = k ∨ k < i by omega) with h9 | h9 | h9
  · exact absurd i2 (h i h9)
  · subst h9; exact ⟨i3, i4, i5⟩
  · have := i3.2.1 k (by omega) h9; rw [hk] at this; cases this
set_option maxHeartbeats 1000000 in
set_option maxRecDepth 100000 in
theorem decimal_any (s : ByteArray) (hs : s.size ≤ 1048576) (w : World) : Calls Tryd.prog 62 #[.string s] w fun e w' => Says w w' (isDec s 0 s.size) e := by
  go_enter Tryd.func62, Tryd.ntmps62
  go_wp2
  go_loop [3] (fun i => DotR s i) (fun i => s.size - (intOf i).toNat)
  case atStart => exact ⟨0, by omega, rfl, fun j hj => by omega⟩
  case round =>
    obtain ⟨k, hk, rfl, hall⟩ := hrel
    have HA := Lib.hid hall
    clear hall
    by_cases hlt : k < s.size
    · have hbk := cb_at hlt
      by_cases hb : cb s k = 46
      · have HD := Lib.hid (dec_at HA.out hb)
        have HB := Lib.hid hb
        rw [hb] at hbk
        clear hb
        have N1 : Hid (∀ W, Calls Tryd.prog 61 #[.string (s.extract 0 k)] W fun e w' => Says W w' (isNum s 0 k) e) := Lib.hid (fun W => by
          have h := numeral_any (s.extract 0 k) (by rw [size_ext (by omega)]; omega) W
          rw [size_ext (by omega), num_ext (by omega) (by omega)] at h
          exact h)
        have N2 : Hid (∀ W, Calls Tryd.prog 63 #[.string (s.extract (k + 1) s.size), .int .i64 10] W fun e w' => Says W w' (0 < s.size - (k + 1) ∧ allP s bDig (k + 1) s.size) e) := Lib.hid (fun W => by
          have h := all10_any (s.extract (k + 1) s.size) (by rw [size_ext (by omega)]; omega) W
          rw [size_ext (by omega), all_ext (by omega) (by omega)] at h
          exact h)
        by_cases hn : isNum s 0 k
        · have HN := Lib.hid hn
          have M1 : Hid (∀ W, Calls Tryd.prog 61 #[.string (s.extract 0 k)] W fun e w' => e = .returned (.bool true) ∧ W = w') := Lib.hid (fun W => (N1.out W).mono fun e w' ⟨b, h1, h2, h3⟩ => ⟨by rw [h1, h2.2 HN.out], h3⟩)
          clear hn
          by_cases h2 : 0 < s.size - (k + 1) ∧ allP s bDig (k + 1) s.size
          · have HY : Hid (isDec s 0 s.size) := Lib.hid ⟨k, hlt, HB.out, HN.out, h2.2, by omega⟩
            have M2 : Hid (∀ W, Calls Tryd.prog 63 #[.string (s.extract (k + 1) s.size), .int .i64 10] W fun e w' => e = .returned (.bool true) ∧ W = w') := Lib.hid (fun W => (N2.out W).mono fun e w' ⟨b, h1, h3, h4⟩ => ⟨by rw [h1, h3.2 h2], h4⟩)
            clear h2
            go_wp2_with (first | (go_at_call 61; refine (M1.out _).mono ?_; rintro e w1 ⟨rfl, rfl⟩) | (go_at_call 63; refine (M2.out _).mono ?_; rintro e w1 ⟨rfl, rfl⟩))
            go_ret
            exact says_yes HY.out
          · have HY : Hid (¬ isDec s 0 s.size) := Lib.hid (fun h => by have := HD.out h; exact h2 ⟨by omega, this.2.1⟩)
            have M2 : Hid (∀ W, Calls Tryd.prog 63 #[.string (s.extract (k + 1) s.size), .int .i64 10] W fun e w' => e = .returned (.bool false) ∧ W = w') := Lib.hid (fun W => (N2.out W).mono fun e w' ⟨b, h1, h3, h4⟩ => ⟨by
              rw [h1]; cases b with
              | true => exact absurd (h3.1 rfl) h2
              | false => rfl, h4⟩)
            clear h2
            go_wp2_with (first | (go_at_call 61; refine (M1.out _).mono ?_; rintro e w1 ⟨rfl, rfl⟩) | (go_at_call 63; refine (M2.out _).mono ?_; rintro e w1 ⟨rfl, rfl⟩))
            go_ret
            exact says_no HY.out
        · have HY : Hid (¬ isDec s 0 s.size) := Lib.hid (fun h => hn (HD.out h).1)
          have M1 : Hid (∀ W, Calls Tryd.prog 61 #[.string (s.extract 0 k)] W fun e w' => e = .returned (.bool false) ∧ W = w') := Lib.hid (fun W => (N1.out W).mono fun e w' ⟨b, h1, h3, h4⟩ => ⟨by
            rw [h1]; cases b with
            | true => exact absurd (h3.1 rfl) hn
            | false => rfl, h4⟩)
          clear hn
          go_wp2_with (go_at_call 61; refine (M1.out _).mono ?_; rintro e w1 ⟨rfl, rfl⟩)
          go_ret
          exact says_no HY.out
      · have e1 : ((cb s k : Int) == 46) = false := ne_i (k := 46) hb
        have HS : Hid (∀ j, j < k + 1 → cb s j ≠ 46) := Lib.hid (fun j hj => by
          by_cases e : j = k
          · subst e; exact hb
          · exact HA.out j (by omega))
        clear hb
        go_wp2
        go_round
        case rel => exact ⟨k + 1, by omega, rfl, HS.out⟩
        case measure => simp [intOf]; omega
    · obtain rfl : k = s.size := by omega
      have HN : Hid (¬ isDec s 0 s.size) := Lib.hid (fun ⟨i, i1, i2, _⟩ => HA.out i i1 i2)
      go_wp2
      go_ret
      exact says_no HN.out
end Go.Proofs.YtlgcmpiobglbbaaDoor
