/- NA NB NC ND NE NF NG NH NI. -/
import Derived.Test.YtpkdiciinhjfjaaGreatDoorLG2
import Derived.Lib.ReplaceLaws
import Derived.MapKept
import Derived.Test.YtpkdiciinhjfjaaGreatDoorLG3
import Derived.Laws.AppendOwnNone
import Derived.LoopTactic
set_option linter.unusedVariables false
set_option linter.unusedSimpArgs false
/- lexis's reference: what pieces are: Numeral, all, Decimal, Bytes. -/
namespace Go.Proofs.YtpkdiciinhjfjaaGreatDoor
open Go.RowKit Mth

theorem all_step {s : ByteArray} {P : Nat → Bool} {k : Nat} (h : allP s P 0 k) (hk : P (cb s k) = true) : allP s P 0 (k + 1) := fun i i1 i2 => by
  by_cases e : i = k
  · subst e; exact hk
  · exact h i i1 (by omega)
def AllR (s : ByteArray) (P : Nat → Bool) (i : Value) : Prop := ∃ k : Nat, k ≤ s.size ∧ i = .int .i64 (k : Int) ∧ allP s P 0 k
/-- a yes or no, and the world stays -/
def Says (w w' : World) (Q : Prop) (e : Ending) : Prop := ∃ b : Bool, e = .returned (.bool b) ∧ (b = true ↔ Q) ∧ w = w'
theorem lst_ne {s : ByteArray} {l : List UInt8} (h : s ≠ ⟨l.toArray⟩) : ¬ s.toList = l := fun e => h (by
  rw [ByteArray.toList_eq] at e
  cases s with | mk d => rw [← e])
theorem says_no {w : World} {Q : Prop} (h : ¬ Q) : Says w w Q (.returned (.bool false)) := ⟨false, rfl, ⟨fun x => Bool.noConfusion x, fun x => absurd x h⟩, rfl⟩
theorem says_no' {w : World} {Q : Prop} {b : Bool} (hb : b = false) (h : ¬ Q) : Says w w Q (.returned (.bool b)) := by subst hb; exact says_no h
theorem says_yes' {w : World} {Q : Prop} {b : Bool} (hb : b = true) (h : Q) : Says w w Q (.returned (.bool b)) := by subst hb; exact ⟨true, rfl, ⟨fun _ => h, fun _ => rfl⟩, rfl⟩
theorem says_yes {w : World} {Q : Prop} (h : Q) : Says w w Q (.returned (.bool true)) := ⟨true, rfl, ⟨fun _ => h, fun _ => rfl⟩, rfl⟩
set_option maxRecDepth 100000 in
theorem numeral_any (s : ByteArray) (hs : s.size ≤ 1048576) (w : World) : Calls Tryz.prog 72 #[.string s] w fun e w' => Says w w' (isNum s 0 s.size) e := by
  go_enter Tryz.func72, Tryz.ntmps72
  go_wp2
  go_loop [3] (fun i => AllR s bDig i) (fun i => s.size - (intOf i).toNat)
  case atStart => exact ⟨0, by omega, rfl, fun j _ hj => by omega⟩
  case round =>
    obtain ⟨k, hk, rfl, hall⟩ := hrel
    have HA := Lib.hid hall
    clear hall
    by_cases hlt : k < s.size
    · have hbk := cb_at hlt
      have DG : Hid (∀ W, Calls Tryz.prog 77 #[.int .u8 ((cb s k : Nat) : Int)] W fun e w' => e = .returned (.bool (bDig (cb s k))) ∧ W = w') := Lib.hid (fun W => digit6_any _ (cb_lt s k) W)
      rcases Bool.eq_false_or_eq_true (bDig (cb s k)) with hb | hb
      · have HS := Lib.hid (all_step HA.out hb)
        rw [hb] at DG
        clear hb
        go_wp2_with (go_at_call 77; refine (DG.out _).mono ?_; rintro e w1 ⟨rfl, rfl⟩)
        go_round
        case rel => exact ⟨k + 1, by omega, rfl, HS.out⟩
        case measure => simp [intOf]; omega
      · have HN : Hid (¬ isNum s 0 s.size) := Lib.hid (fun h => by have := h.2.1 k (by omega) hlt; rw [hb] at this; cases this)
        rw [hb] at DG
        clear hb
        go_wp2_with (go_at_call 77; refine (DG.out _).mono ?_; rintro e w1 ⟨rfl, rfl⟩)
        go_ret
        exact says_no HN.out
    · obtain rfl : k = s.size := by omega
      by_cases h0 : s.size = 0
      · have e : s = ⟨#[]⟩ := by
          apply ByteArray.ext_getElem
          · exact h0
          · intro i hi hi'; omega
        subst e
        go_wp2
        go_ret
        exact says_no (fun h => absurd h.1 (by decide))
      · have hlt0 : 0 < s.size := by omega
        have hb0 := cb_at hlt0
        by_cases hz : cb s 0 = 48
        · by_cases h1 : s.size = 1
          · have e : s = ⟨#[48]⟩ := by
              apply ByteArray.ext_getElem
              · rw [h1]; rfl
              · intro i hi hi'
                obtain rfl : i = 0 := by omega
                exact UInt8.toNat_inj.1 (by rw [hb0, hz]; rfl)
            have HY : Hid (isNum s 0 s.size) := Lib.hid ⟨hlt0, HA.out, .inr h1⟩
            subst e
            go_wp2
            go_ret
            exact says_yes HY.out
          · have en : ¬ s.toList = [48] := lst_ne (fun e => h1 (by rw [e]; rfl))
            have HY : Hid (¬ isNum s 0 s.size) := Lib.hid (fun h => h.2.2.elim (fun x => x hz) (fun x => h1 x))
            have EN := Lib.hid en
            rw [hz] at hb0
            clear h0 h1 hz
            go_wp2
            go_ret
            exact says_no' (by simpa using EN.out) HY.out
        · have en : ¬ s.toList = [48] := lst_ne (fun e => hz (by rw [e]; rfl))
          have HY : Hid (isNum s 0 s.size) := Lib.hid ⟨hlt0, HA.out, .inl hz⟩
          have e1 : ((cb s 0 : Int) != 48) = true := by rw [bne_iff_ne]; omega
          clear h0 hz
          go_wp2
          go_ret
          exact says_yes HY.out
set_option maxRecDepth 100000 in
theorem bytes_any (s : ByteArray) (hs : s.size ≤ 1048576) (w : World) : Calls Tryz.prog 76 #[.string s] w fun e w' => Says w w' (0 < s.size ∧ allP s bSimple 0 s.size) e := by
  go_enter Tryz.func76, Tryz.ntmps76
  go_wp2
  go_loop [3] (fun i => AllR s bSimple i) (fun i => s.size - (intOf i).toNat)
  case atStart => exact ⟨0, by omega, rfl, fun j _ hj => by omega⟩
  case round =>
    obtain ⟨k, hk, rfl, hall⟩ := hrel
    have HA := Lib.hid hall
    clear hall
    by_cases hlt : k < s.size
    · have hbk := cb_at hlt
      have DG : Hid (∀ W, Calls Tryz.prog 57 #[.int .u8 ((cb s k : Nat) : Int)] W fun e w' => e = .returned (.bool (bSimple (cb s k))) ∧ W = w') := Lib.hid (fun W => simple4_any _ (cb_lt s k) W)
      rcases Bool.eq_false_or_eq_true (bSimple (cb s k)) with hb | hb
      · have HS := Lib.hid (all_step HA.out hb)
        rw [hb] at DG
        clear hb
        go_wp2_with (go_at_call 57; refine (DG.out _).mono ?_; rintro e w1 ⟨rfl, rfl⟩)
        go_round
        case rel => exact ⟨k + 1, by omega, rfl, HS.out⟩
        case measure => simp [intOf]; omega
      · have HN : Hid (¬ (0 < s.size ∧ allP s bSimple 0 s.size)) := Lib.hid (fun h => by have := h.2 k (by omega) hlt; rw [hb] at this; cases this)
        rw [hb] at DG
        clear hb
        go_wp2_with (go_at_call 57; refine (DG.out _).mono ?_; rintro e w1 ⟨rfl, rfl⟩)
        go_ret
        exact says_no HN.out
    · obtain rfl : k = s.size := by omega
      go_wp2
      all_goals (
        go_ret
        exact ⟨_, rfl, ⟨fun h => ⟨by simp at h; omega, HA.out⟩, fun h => by have := h.1; simp; omega⟩, rfl⟩)
set_option maxHeartbeats 1000000 in
set_option maxRecDepth 100000 in
theorem all10_any (s : ByteArray) (hs : s.size ≤ 1048576) (w : World) : Calls Tryz.prog 74 #[.string s, .int .i64 10] w fun e w' => Says w w' (0 < s.size ∧ allP s bDig 0 s.size) e := by
  go_enter Tryz.func74, Tryz.ntmps74
  go_wp2
  go_loop [5] (fun i => AllR s bDig i) (fun i => s.size - (intOf i).toNat)
  case atStart => exact ⟨0, by omega, rfl, fun j _ hj => by omega⟩
  case round =>
    obtain ⟨k, hk, rfl, hall⟩ := hrel
    have HA := Lib.hid hall
    clear hall
    by_cases hlt : k < s.size
    · have hbk := cb_at hlt
      have DG : Hid (∀ W, Calls Tryz.prog 77 #[.int .u8 ((cb s k : Nat) : Int)] W fun e w' => e = .returned (.bool (bDig (cb s k))) ∧ W = w') := Lib.hid (fun W => digit6_any _ (cb_lt s k) W)
      rcases Bool.eq_false_or_eq_true (bDig (cb s k)) with hb | hb
      · have HS := Lib.hid (all_step HA.out hb)
        rw [hb] at DG
        clear hb
        go_wp2_with (go_at_call 77; refine (DG.out _).mono ?_; rintro e w1 ⟨rfl, rfl⟩)
        go_round
        case rel => exact ⟨k + 1, by omega, rfl, HS.out⟩
        case measure => simp [intOf]; omega
      · have HN : Hid (¬ (0 < s.size ∧ allP s bDig 0 s.size)) := Lib.hid (fun h => by have := h.2 k (by omega) hlt; rw [hb] at this; cases this)
        rw [hb] at DG
        clear hb
        go_wp2_with (go_at_call 77; refine (DG.out _).mono ?_; rintro e w1 ⟨rfl, rfl⟩)
        go_ret
        exact says_no HN.out
    · obtain rfl : k = s.size := by omega
      go_wp2
      all_goals (
        go_ret
        exact ⟨_, rfl, ⟨fun h => ⟨by simp at h; omega, HA.out⟩, fun h => by have := h.1; simp; omega⟩, rfl⟩)
set_option maxHeartbeats 1000000 in
set_option maxRecDepth 100000 in
theorem all16_any (s : ByteArray) (hs : s.size ≤ 1048576) (w : World) : Calls Tryz.prog 74 #[.string s, .int .i64 16] w fun e w' => Says w w' (0 < s.size ∧ allP s bHex 0 s.size) e := by
  go_enter Tryz.func74, Tryz.ntmps74
  go_wp2
  go_loop [5] (fun i => AllR s bHex i) (fun i => s.size - (intOf i).toNat)
  case atStart => exact ⟨0, by omega, rfl, fun j _ hj => by omega⟩
  case round =>
    obtain ⟨k, hk, rfl, hall⟩ := hrel
    have HA := Lib.hid hall
    clear hall
    by_cases hlt : k < s.size
    · have hbk := cb_at hlt
      have DG : Hid (∀ W, Calls Tryz.prog 85 #[.int .u8 ((cb s k : Nat) : Int)] W fun e w' => e = .returned (.bool (bHex (cb s k))) ∧ W = w') := Lib.hid (fun W => hex6_any _ (cb_lt s k) W)
      rcases Bool.eq_false_or_eq_true (bHex (cb s k)) with hb | hb
      · have HS := Lib.hid (all_step HA.out hb)
        rw [hb] at DG
        clear hb
        go_wp2_with (go_at_call 85; refine (DG.out _).mono ?_; rintro e w1 ⟨rfl, rfl⟩)
        go_round
        case rel => exact ⟨k + 1, by omega, rfl, HS.out⟩
        case measure => simp [intOf]; omega
      · have HN : Hid (¬ (0 < s.size ∧ allP s bHex 0 s.size)) := Lib.hid (fun h => by have := h.2 k (by omega) hlt; rw [hb] at this; cases this)
        rw [hb] at DG
        clear hb
        go_wp2_with (go_at_call 85; refine (DG.out _).mono ?_; rintro e w1 ⟨rfl, rfl⟩)
        go_ret
        exact says_no HN.out
    · obtain rfl : k = s.size := by omega
      go_wp2
      all_goals (
        go_ret
        exact ⟨_, rfl, ⟨fun h => ⟨by simp at h; omega, HA.out⟩, fun h => by have := h.1; simp; omega⟩, rfl⟩)
set_option maxHeartbeats 1000000 in
set_option maxRecDepth 100000 in
theorem all2_any (s : ByteArray) (hs : s.size ≤ 1048576) (w : World) : Calls Tryz.prog 74 #[.string s, .int .i64 2] w fun e w' => Says w w' (0 < s.size ∧ allP s bBin 0 s.size) e := by
  go_enter Tryz.func74, Tryz.ntmps74
  go_wp2
  go_loop [5] (fun i => AllR s bBin i) (fun i => s.size - (intOf i).toNat)
  case atStart => exact ⟨0, by omega, rfl, fun j _ hj => by omega⟩
  case round =>
    obtain ⟨k, hk, rfl, hall⟩ := hrel
    have HA := Lib.hid hall
    clear hall
    by_cases hlt : k < s.size
    · have hbk := cb_at hlt
      by_cases hb : cb s k = 48 ∨ cb s k = 49
      · have HS := Lib.hid (all_step HA.out (bBin_iff.2 hb))
        rcases hb with hb | hb
        all_goals (
          rw [hb] at hbk
          clear hb
          go_wp2
          go_round
          case rel => exact ⟨k + 1, by omega, rfl, HS.out⟩
          case measure => simp [intOf]; omega)
      · have HN : Hid (¬ (0 < s.size ∧ allP s bBin 0 s.size)) := Lib.hid (fun h => hb (bBin_iff.1 (h.2 k (by omega) hlt)))
        have n48 : cb s k ≠ 48 := fun e => hb (.inl e)
        have n49 : cb s k ≠ 49 := fun e => hb (.inr e)
        have e48 : ((cb s k : Int) != 48) = true := by rw [bne_iff_ne]; omega
        have e49 : ((cb s k : Int) != 49) = true := by rw [bne_iff_ne]; omega
        clear hb n48 n49
        go_wp2
        go_ret
        exact says_no HN.out
    · obtain rfl : k = s.size := by omega
      go_wp2
      all_goals (
        go_ret
        exact ⟨_, rfl, ⟨fun h => ⟨by simp at h; omega, HA.out⟩, fun h => by have := h.1; simp; omega⟩, rfl⟩)
end Go.Proofs.YtpkdiciinhjfjaaGreatDoor

/- lexis's reference: Decimal, small, bare. -/
namespace Go.Proofs.YtpkdiciinhjfjaaGreatDoor
open Go.RowKit Mth

theorem cb_ext {s : ByteArray} {a b j : Nat} (hj : j < b - a) (hb : b ≤ s.size) : cb (s.extract a b) j = cb s (a + j) := by
  unfold cb
  rw [dif_pos (show j < (s.extract a b).size by rw [ByteArray.size_extract]; omega), dif_pos (show a + j < s.size by omega), ByteArray.getElem_extract]
theorem size_ext {s : ByteArray} {a b : Nat} (hb : b ≤ s.size) : (s.extract a b).size = b - a := by rw [ByteArray.size_extract]; omega
theorem num_ext {s : ByteArray} {a b : Nat} (hab : a ≤ b) (hb : b ≤ s.size) : isNum (s.extract a b) 0 (b - a) ↔ isNum s a b := by
  constructor
  · intro h
    have := isNum_move (s := s.extract a b) (s' := s) (p := 0) (p' := a) (n := b - a) h (fun j hj => by rw [Nat.zero_add]; exact (cb_ext (by omega) hb).symm)
    rwa [show a + (b - a - 0) = b by omega] at this
  · intro h
    have := isNum_move (s := s) (s' := s.extract a b) (p := a) (p' := 0) (n := b) h (fun j hj => by rw [Nat.zero_add]; exact cb_ext hj hb)
    rwa [Nat.zero_add] at this
theorem all_ext {s : ByteArray} {P : Nat → Bool} {a b : Nat} (hab : a ≤ b) (hb : b ≤ s.size) : allP (s.extract a b) P 0 (b - a) ↔ allP s P a b := by
  constructor
  · intro h i i1 i2
    have := h (i - a) (by omega) (by omega)
    rwa [cb_ext (by omega) hb, show a + (i - a) = i by omega] at this
  · intro h i i1 i2
    rw [cb_ext i2 hb]; exact h _ (by omega) (by omega)
def DotR (s : ByteArray) (i : Value) : Prop := ∃ k : Nat, k ≤ s.size ∧ i = .int .i64 (k : Int) ∧ ∀ j, j < k → cb s j ≠ 46
theorem dec_at {s : ByteArray} {k : Nat} (h : ∀ j, j < k → cb s j ≠ 46) (hk : cb s k = 46) (hd : isDec s 0 s.size) : isNum s 0 k ∧ allP s bDig (k + 1) s.size ∧ k + 1 < s.size := by
  obtain ⟨i, i1, i2, i3, i4, i5⟩ := hd
  rcases (show i < k ∨ i = k ∨ k < i by omega) with h9 | h9 | h9
  · exact absurd i2 (h i h9)
  · subst h9; exact ⟨i3, i4, i5⟩
  · have := i3.2.1 k (by omega) h9; rw [hk] at this; cases this
set_option maxHeartbeats 1000000 in
set_option maxRecDepth 100000 in
theorem decimal_any (s : ByteArray) (hs : s.size ≤ 1048576) (w : World) : Calls Tryz.prog 73 #[.string s] w fun e w' => Says w w' (isDec s 0 s.size) e := by
  go_enter Tryz.func73, Tryz.ntmps73
  go_wp2
  go_loop [3] (fun i => DotR s i) (fun i => s.size - (intOf i).toNat)
  case atStart => exact ⟨0, by omega, rfl, fun j hj => by omega⟩
  case round =>
    obtain ⟨k, hk, rfl, hall⟩ := hrel
    have HA := Lib.hid hall
    clear hall
    by_cases hlt : k < s.size
    · have hbk := cb_at hlt
      by_cases hb : cb s k = 46
      · have HD := Lib.hid (dec_at HA.out hb)
        have HB := Lib.hid hb
        rw [hb] at hbk
        clear hb
        have N1 : Hid (∀ W, Calls Tryz.prog 72 #[.string (s.extract 0 k)] W fun e w' => Says W w' (isNum s 0 k) e) := Lib.hid (fun W => by
          have h := numeral_any (s.extract 0 k) (by rw [size_ext (by omega)]; omega) W
          rw [size_ext (by omega), num_ext (by omega) (by omega)] at h
          exact h)
        have N2 : Hid (∀ W, Calls Tryz.prog 74 #[.string (s.extract (k + 1) s.size), .int .i64 10] W fun e w' => Says W w' (0 < s.size - (k + 1) ∧ allP s bDig (k + 1) s.size) e) := Lib.hid (fun W => by
          have h := all10_any (s.extract (k + 1) s.size) (by rw [size_ext (by omega)]; omega) W
          rw [size_ext (by omega), all_ext (by omega) (by omega)] at h
          exact h)
        by_cases hn : isNum s 0 k
        · have HN := Lib.hid hn
          have M1 : Hid (∀ W, Calls Tryz.prog 72 #[.string (s.extract 0 k)] W fun e w' => e = .returned (.bool true) ∧ W = w') := Lib.hid (fun W => (N1.out W).mono fun e w' ⟨b, h1, h2, h3⟩ => ⟨by rw [h1, h2.2 HN.out], h3⟩)
          clear hn
          by_cases h2 : 0 < s.size - (k + 1) ∧ allP s bDig (k + 1) s.size
          · have HY : Hid (isDec s 0 s.size) := Lib.hid ⟨k, hlt, HB.out, HN.out, h2.2, by omega⟩
            have M2 : Hid (∀ W, Calls Tryz.prog 74 #[.string (s.extract (k + 1) s.size), .int .i64 10] W fun e w' => e = .returned (.bool true) ∧ W = w') := Lib.hid (fun W => (N2.out W).mono fun e w' ⟨b, h1, h3, h4⟩ => ⟨by rw [h1, h3.2 h2], h4⟩)
            clear h2
            go_wp2_with (first | (go_at_call 72; refine (M1.out _).mono ?_; rintro e w1 ⟨rfl, rfl⟩) | (go_at_call 74; refine (M2.out _).mono ?_; rintro e w1 ⟨rfl, rfl⟩))
            go_ret
            exact says_yes HY.out
          · have HY : Hid (¬ isDec s 0 s.size) := Lib.hid (fun h => by have := HD.out h; exact h2 ⟨by omega, this.2.1⟩)
            have M2 : Hid (∀ W, Calls Tryz.prog 74 #[.string (s.extract (k + 1) s.size), .int .i64 10] W fun e w' => e = .returned (.bool false) ∧ W = w') := Lib.hid (fun W => (N2.out W).mono fun e w' ⟨b, h1, h3, h4⟩ => ⟨by
              rw [h1]; cases b with
              | true => exact absurd (h3.1 rfl) h2
              | false => rfl, h4⟩)
            clear h2
            go_wp2_with (first | (go_at_call 72; refine (M1.out _).mono ?_; rintro e w1 ⟨rfl, rfl⟩) | (go_at_call 74; refine (M2.out _).mono ?_; rintro e w1 ⟨rfl, rfl⟩))
            go_ret
            exact says_no HY.out
        · have HY : Hid (¬ isDec s 0 s.size) := Lib.hid (fun h => hn (HD.out h).1)
          have M1 : Hid (∀ W, Calls Tryz.prog 72 #[.string (s.extract 0 k)] W fun e w' => e = .returned (.bool false) ∧ W = w') := Lib.hid (fun W => (N1.out W).mono fun e w' ⟨b, h1, h3, h4⟩ => ⟨by
            rw [h1]; cases b with
            | true => exact absurd (h3.1 rfl) hn
            | false => rfl, h4⟩)
          clear hn
          go_wp2_with (go_at_call 72; refine (M1.out _).mono ?_; rintro e w1 ⟨rfl, rfl⟩)
          go_ret
          exact says_no HY.out
      · have e1 : ((cb s k : Int) == 46) = false := ne_i (k := 46) hb
        have HS : Hid (∀ j, j < k + 1 → cb s j ≠ 46) := Lib.hid (fun j hj => by
          by_cases e : j = k
          · subst e; exact hb
          · exact HA.out j (by omega))
        clear hb
        go_wp2
        go_round
        case rel => exact ⟨k + 1, by omega, rfl, HS.out⟩
        case measure => simp [intOf]; omega
    · obtain rfl : k = s.size := by omega
      have HN : Hid (¬ isDec s 0 s.size) := Lib.hid (fun ⟨i, i1, i2, _⟩ => HA.out i i1 i2)
      go_wp2
      go_ret
      exact says_no HN.out
end Go.Proofs.YtpkdiciinhjfjaaGreatDoor

/- lexis's reference: small. -/
namespace Go.Proofs.YtpkdiciinhjfjaaGreatDoor
open Go.RowKit Mth

theorem one_string (w : World) (z : Int) (d : UInt8) (e : z = (d.toNat : Int)) :
    (convert 99 9 (.slice (some ⟨w.heap.size, 0, none⟩) 1 1)).run Tryz.prog (w.alloc (Obj.cells #[Value.int .u8 z] 5)) = .ok (.string ⟨#[d]⟩) (w.alloc (Obj.cells #[Value.int .u8 z] 5)) := by
  subst e
  refine run_convert_bytes_back _ 99 9 5 ⟨w.heap.size, 0, none⟩ 1 [d] Tryz.underlying99 Tryz.underlying5 Tryz.underlying9 ?_
  have hw := heap_alloc_new w (Obj.cells #[Value.int .u8 (d.toNat : Int)] 5)
  intro j hj
  match j, hj with
  | 0, _ => rw [Addr.add_lit, Nat.zero_add, cell_of_row _ _ 0 _ _ (0, 0) hw]; rfl
  | j + 1, hj => exact absurd hj (by simp)
theorem low_app (a b : ByteArray) : lowB (a ++ b) = lowB a ++ lowB b := by
  apply ByteArray.ext
  simp [lowB, lower]
theorem low_next {s : ByteArray} {k : Nat} (h : k < s.size) : lowB (s.extract 0 (k + 1)) = lowB (s.extract 0 k) ++ ⟨#[Lib.lowerB (s[k]'h)]⟩ := by
  have e : s.extract k (k + 1) = ⟨#[s[k]'h]⟩ := byt_ext (l := [s[k]'h]) ⟨(cb_at h).symm, True.intro⟩ (by simp; omega)
  have e2 : s.extract 0 (k + 1) = s.extract 0 k ++ s.extract k (k + 1) := by rw [ByteArray.extract_append_extract, Nat.min_eq_left (by omega), Nat.max_eq_right (by omega)]
  rw [e2, low_app, e]
  rfl
theorem low_size (s : ByteArray) : (lowB s).size = s.size := by
  unfold lowB lower
  rw [size_list, List.length_map]
  exact Array.length_toList
def SmR (w : World) (s : ByteArray) (o i : Value) (wr : World) : Prop := ∃ k : Nat, k ≤ s.size ∧ i = .int .i64 (k : Int) ∧ o = .string (lowB (s.extract 0 k)) ∧ Below w.heap.size w wr
set_option maxHeartbeats 1000000 in
set_option maxRecDepth 100000 in
theorem small_any (s : ByteArray) (hs : s.size ≤ 1048576) (w : World) : Calls Tryz.prog 75 #[.string s] w fun e w' => e = .returned (.string (lowB s)) ∧ Below w.heap.size w w' := by
  go_enter Tryz.func75, Tryz.ntmps75
  go_wp2
  go_loopw [3, 4] (fun o i wr => SmR w s o i wr) (fun _ i _ => s.size - (intOf i).toNat)
  case atStart => exact ⟨0, by omega, rfl, by rw [show s.extract 0 0 = ⟨#[]⟩ from by apply ByteArray.ext_getElem <;> (try intro i h1 h2; rw [ByteArray.size_extract] at h1; omega); rw [ByteArray.size_extract]; show _ = 0; omega]; rfl, Below.refl _ _⟩
  case round =>
    obtain ⟨k, hk, rfl, rfl, hbel⟩ := hrel
    have HB := Lib.hid hbel
    clear hbel
    by_cases hlt : k < s.size
    · have hbk := cb_at hlt
      have hb255 := cb_lt s k
      have HN := Lib.hid (low_next hlt)
      have hsz : (lowB (s.extract 0 k)).size = k := by rw [low_size, size_ext (by omega)]; omega
      generalize lowB (s.extract 0 k) = o at *
      generalize hd : s[k] = d at *
      by_cases hu : 65 ≤ cb s k ∧ cb s k ≤ 90
      · have e1 : ((cb s k : Int) + 32) = ((Lib.lowerB d).toNat : Int) := by
          have h := Lib.lowerB_int d (by
            rw [Lib.isUpperB]; simp; constructor
            · exact UInt8.le_iff_toNat_le.2 (by rw [hbk]; exact hu.1)
            · exact UInt8.le_iff_toNat_le.2 (by rw [hbk]; exact hu.2))
          rw [h, hbk]
        have hcv : (convert 99 9 (.slice (some ⟨wr.heap.size, 0, none⟩) 1 1)).run Tryz.prog (wr.alloc (Obj.cells #[Value.int .u8 ((cb s k : Int) + 32)] 5)) = .ok (.string ⟨#[Lib.lowerB d]⟩) (wr.alloc (Obj.cells #[Value.int .u8 ((cb s k : Int) + 32)] 5)) := one_string wr _ _ e1
        have E1 := Lib.hid e1
        obtain ⟨h1, h2⟩ := hu
        clear e1
        go_wp2
        go_roundw
        case rel => exact ⟨k + 1, by omega, rfl, by rw [HN.out], HB.out.alloc HB.out.size _⟩
        case measure => simp [intOf]; omega
      · have e1 : (cb s k : Int) = ((Lib.lowerB d).toNat : Int) := by
          have h := Lib.lowerB_of_not d (by
            rw [Lib.isUpperB, Bool.and_eq_false_iff]
            simp only [decide_eq_false_iff_not]
            by_cases h65 : 65 ≤ cb s k
            · right; intro h9; have := UInt8.le_iff_toNat_le.1 h9; rw [hbk] at this; exact hu ⟨h65, this⟩
            · left; intro h9; have := UInt8.le_iff_toNat_le.1 h9; rw [hbk] at this; exact h65 this)
          rw [h, hbk]
        have hcv : (convert 99 9 (.slice (some ⟨wr.heap.size, 0, none⟩) 1 1)).run Tryz.prog (wr.alloc (Obj.cells #[Value.int .u8 (cb s k : Int)] 5)) = .ok (.string ⟨#[Lib.lowerB d]⟩) (wr.alloc (Obj.cells #[Value.int .u8 (cb s k : Int)] 5)) := one_string wr _ _ e1
        have E1 := Lib.hid e1
        clear e1
        rcases (show cb s k < 65 ∨ (65 ≤ cb s k ∧ 90 < cb s k) by omega) with h1 | ⟨h1, h2⟩
        all_goals (
          clear hu
          go_wp2
          go_roundw
          case rel => exact ⟨k + 1, by omega, rfl, by rw [HN.out], HB.out.alloc HB.out.size _⟩
          case measure => simp [intOf]; omega)
    · obtain rfl : k = s.size := by omega
      go_wp2
      go_ret
      exact ⟨ret_s (by rw [ByteArray.extract_zero_size]), HB.out⟩
end Go.Proofs.YtpkdiciinhjfjaaGreatDoor

/- lexis's reference: bare (written by gennd.py). -/
namespace Go.Proofs.YtpkdiciinhjfjaaGreatDoor
open Go.RowKit Mth

theorem says_t {w w' : World} {Q : Prop} {e : Ending} (h : Says w w' Q e) (q : Q) : e = .returned (.bool true) ∧ w = w' := by
  obtain ⟨b, h1, h2, h3⟩ := h
  exact ⟨by rw [h1, h2.2 q], h3⟩
theorem says_f {w w' : World} {Q : Prop} {e : Ending} (h : Says w w' Q e) (q : ¬ Q) : e = .returned (.bool false) ∧ w = w' := by
  obtain ⟨b, h1, h2, h3⟩ := h
  refine ⟨?_, h3⟩
  cases b with
  | true => exact absurd (h2.1 rfl) q
  | false => exact h1
set_option maxRecDepth 100000 in
/-- a token comes back: out of a block -/
theorem results_tok1 {fn : Func} {t : Tmp} {tmps : Array Value} {b : Nat} {v0 v1 v2 v3 v4 : Value} {T : TypeId} {W : World} (h : fn.results = #[.cell t 37])
    (h1 : tmps.getD t undef = .pointer (some ⟨b, 0, none⟩)) (h3 : W.heap[b]? = some (.cells #[v0, v1, v2, v3, v4] T (0, 0))) :
    (results fn tmps).run Tryz.prog W = .ok (.agg #[v0, v1, v2, v3, v4]) W := by
  obtain ⟨c0, c1, c2, c3, c4⟩ := blk5 h3
  rw [Array.getD_eq_getD_getElem?] at h1
  simp [results, h, h1, go_sem, c0, c1, c2, c3, c4]
theorem noTok_eq : noTok = tokV 0 ⟨#[]⟩ false 0 0 := rfl
set_option maxHeartbeats 2000000 in
set_option maxRecDepth 100000 in
theorem bare_num (s : ByteArray) (hs : s.size ≤ 1048576) (w : World) (n1 : isNum s 0 s.size) : Calls Tryz.prog 59 #[.string s] w fun e w' => e = .returned (tokV 3 s false 0 0) ∧ Below w.heap.size w w' := by
  have M1 : Hid (∀ W, Calls Tryz.prog 72 #[.string s] W fun e w' => e = .returned (.bool true) ∧ W = w') := Lib.hid (fun W => (numeral_any s hs W).mono fun e w' h => says_t h n1)
  have BE := Lib.hid (Below.refl w.heap.size w)
  clear n1
  go_enter Tryz.func59, Tryz.ntmps59
  go_wp2_with (first | (go_at_call 72; refine (M1.out _).mono ?_; rintro e w1 ⟨rfl, rfl⟩) | (go_at_call 73; refine (M2.out _).mono ?_; rintro e w1 ⟨rfl, rfl⟩) | (go_at_call 74; refine (M3.out _).mono ?_; rintro e w1 ⟨rfl, rfl⟩) | (go_at_call 74; refine (M4.out _).mono ?_; rintro e w1 ⟨rfl, rfl⟩) | (go_at_call 76; refine (M5.out _).mono ?_; rintro e w1 ⟨rfl, rfl⟩) | (go_at_call 76; refine (M6.out _).mono ?_; rintro e w1 ⟨rfl, rfl⟩) | (go_at_call 77; refine (M7.out _).mono ?_; rintro e w1 ⟨rfl, rfl⟩; try clear M5))
  all_goals (
    refine bodyPost_ret (results_tok1 rfl rfl (heap_alloc_new _ _)) rfl ?_
    exact ⟨rfl, BE.out.alloc (Nat.le_refl _) _⟩)
set_option maxHeartbeats 2000000 in
set_option maxRecDepth 100000 in
theorem bare_dec (s : ByteArray) (hs : s.size ≤ 1048576) (w : World) (n1 : ¬ isNum s 0 s.size) (n2 : isDec s 0 s.size) : Calls Tryz.prog 59 #[.string s] w fun e w' => e = .returned (tokV 4 s false 0 0) ∧ Below w.heap.size w w' := by
  have M1 : Hid (∀ W, Calls Tryz.prog 72 #[.string s] W fun e w' => e = .returned (.bool false) ∧ W = w') := Lib.hid (fun W => (numeral_any s hs W).mono fun e w' h => says_f h n1)
  have M2 : Hid (∀ W, Calls Tryz.prog 73 #[.string s] W fun e w' => e = .returned (.bool true) ∧ W = w') := Lib.hid (fun W => (decimal_any s hs W).mono fun e w' h => says_t h n2)
  have BE := Lib.hid (Below.refl w.heap.size w)
  clear n1 n2
  go_enter Tryz.func59, Tryz.ntmps59
  go_wp2_with (first | (go_at_call 72; refine (M1.out _).mono ?_; rintro e w1 ⟨rfl, rfl⟩) | (go_at_call 73; refine (M2.out _).mono ?_; rintro e w1 ⟨rfl, rfl⟩) | (go_at_call 74; refine (M3.out _).mono ?_; rintro e w1 ⟨rfl, rfl⟩) | (go_at_call 74; refine (M4.out _).mono ?_; rintro e w1 ⟨rfl, rfl⟩) | (go_at_call 76; refine (M5.out _).mono ?_; rintro e w1 ⟨rfl, rfl⟩) | (go_at_call 76; refine (M6.out _).mono ?_; rintro e w1 ⟨rfl, rfl⟩) | (go_at_call 77; refine (M7.out _).mono ?_; rintro e w1 ⟨rfl, rfl⟩; try clear M5))
  all_goals (
    refine bodyPost_ret (results_tok1 rfl rfl (heap_alloc_new _ _)) rfl ?_
    exact ⟨rfl, BE.out.alloc (Nat.le_refl _) _⟩)
set_option maxHeartbeats 2000000 in
set_option maxRecDepth 100000 in
theorem bare_bin (s : ByteArray) (hs : s.size ≤ 1048576) (w : World) (h0 : 0 < s.size) (hc : cb s 0 = 35) (h2 : 2 < s.size) (e0 : s.extract 0 2 = ⟨#[35, 98]⟩) (n4 : (0 < (s.extract 2 s.size).size ∧ allP (s.extract 2 s.size) bBin 0 (s.extract 2 s.size).size)) : Calls Tryz.prog 59 #[.string s] w fun e w' => e = .returned (tokV 6 (s.extract 2 s.size) false 0 0) ∧ Below w.heap.size w w' := by
  have hd : bDig (cb s 0) = false := by rw [hc]; rfl
  have n1 : ¬ isNum s 0 s.size := (no_num (s := s) (p := 0) (e := s.size) hd).1
  have n2 : ¬ isDec s 0 s.size := (no_num (s := s) (p := 0) (e := s.size) hd).2
  have M1 : Hid (∀ W, Calls Tryz.prog 72 #[.string s] W fun e w' => e = .returned (.bool false) ∧ W = w') := Lib.hid (fun W => (numeral_any s hs W).mono fun e w' h => says_f h n1)
  have M2 : Hid (∀ W, Calls Tryz.prog 73 #[.string s] W fun e w' => e = .returned (.bool false) ∧ W = w') := Lib.hid (fun W => (decimal_any s hs W).mono fun e w' h => says_f h n2)
  clear n1 n2
  have M4 : Hid (∀ W, Calls Tryz.prog 74 #[.string (s.extract 2 s.size), .int .i64 2] W fun e w' => e = .returned (.bool true) ∧ W = w') := Lib.hid (fun W => (all2_any (s.extract 2 s.size) (by rw [size_ext (Nat.le_refl _)]; omega) W).mono fun e w' h => says_t h n4)
  have BE := Lib.hid (Below.refl w.heap.size w)
  clear n4 hd hc
  go_enter Tryz.func59, Tryz.ntmps59
  go_wp2_with (first | (go_at_call 72; refine (M1.out _).mono ?_; rintro e w1 ⟨rfl, rfl⟩) | (go_at_call 73; refine (M2.out _).mono ?_; rintro e w1 ⟨rfl, rfl⟩) | (go_at_call 74; refine (M3.out _).mono ?_; rintro e w1 ⟨rfl, rfl⟩) | (go_at_call 74; refine (M4.out _).mono ?_; rintro e w1 ⟨rfl, rfl⟩) | (go_at_call 76; refine (M5.out _).mono ?_; rintro e w1 ⟨rfl, rfl⟩) | (go_at_call 76; refine (M6.out _).mono ?_; rintro e w1 ⟨rfl, rfl⟩) | (go_at_call 77; refine (M7.out _).mono ?_; rintro e w1 ⟨rfl, rfl⟩; try clear M5))
  all_goals (
    refine bodyPost_ret (results_tok1 rfl rfl (heap_alloc_new _ _)) rfl ?_
    exact ⟨rfl, BE.out.alloc (Nat.le_refl _) _⟩)
set_option maxHeartbeats 2000000 in
set_option maxRecDepth 100000 in
theorem bare_binbad (s : ByteArray) (hs : s.size ≤ 1048576) (w : World) (h0 : 0 < s.size) (hc : cb s 0 = 35) (h2 : 2 < s.size) (e0 : s.extract 0 2 = ⟨#[35, 98]⟩) (n4 : ¬ (0 < (s.extract 2 s.size).size ∧ allP (s.extract 2 s.size) bBin 0 (s.extract 2 s.size).size)) : Calls Tryz.prog 59 #[.string s] w fun e w' => e = .returned (noTok) ∧ Below w.heap.size w w' := by
  have hd : bDig (cb s 0) = false := by rw [hc]; rfl
  have n1 : ¬ isNum s 0 s.size := (no_num (s := s) (p := 0) (e := s.size) hd).1
  have n2 : ¬ isDec s 0 s.size := (no_num (s := s) (p := 0) (e := s.size) hd).2
  have M1 : Hid (∀ W, Calls Tryz.prog 72 #[.string s] W fun e w' => e = .returned (.bool false) ∧ W = w') := Lib.hid (fun W => (numeral_any s hs W).mono fun e w' h => says_f h n1)
  have M2 : Hid (∀ W, Calls Tryz.prog 73 #[.string s] W fun e w' => e = .returned (.bool false) ∧ W = w') := Lib.hid (fun W => (decimal_any s hs W).mono fun e w' h => says_f h n2)
  clear n1 n2
  have M4 : Hid (∀ W, Calls Tryz.prog 74 #[.string (s.extract 2 s.size), .int .i64 2] W fun e w' => e = .returned (.bool false) ∧ W = w') := Lib.hid (fun W => (all2_any (s.extract 2 s.size) (by rw [size_ext (Nat.le_refl _)]; omega) W).mono fun e w' h => says_f h n4)
  have hb0 := cb_at h0
  have M7 : Hid (∀ W, Calls Tryz.prog 77 #[.int .u8 ((cb s 0 : Nat) : Int)] W fun e w' => e = .returned (.bool false) ∧ W = w') := Lib.hid (fun W => (digit6_any _ (cb_lt s 0) W).mono fun e w' h => ⟨by rw [h.1, hd], h.2⟩)
  have M6 : Hid (∀ W, Calls Tryz.prog 76 #[.string s] W fun e w' => e = .returned (.bool false) ∧ W = w') := Lib.hid (fun W => (bytes_any s hs W).mono fun e w' h => says_f h (fun h => by have := h.2 0 (Nat.le_refl _) h0; rw [hc] at this; cases this))
  rw [hc] at M7 hb0
  have BE := Lib.hid (Below.refl w.heap.size w)
  clear n4 hd hc
  go_enter Tryz.func59, Tryz.ntmps59
  go_wp2_with (first | (go_at_call 72; refine (M1.out _).mono ?_; rintro e w1 ⟨rfl, rfl⟩) | (go_at_call 73; refine (M2.out _).mono ?_; rintro e w1 ⟨rfl, rfl⟩) | (go_at_call 74; refine (M3.out _).mono ?_; rintro e w1 ⟨rfl, rfl⟩) | (go_at_call 74; refine (M4.out _).mono ?_; rintro e w1 ⟨rfl, rfl⟩) | (go_at_call 76; refine (M5.out _).mono ?_; rintro e w1 ⟨rfl, rfl⟩) | (go_at_call 76; refine (M6.out _).mono ?_; rintro e w1 ⟨rfl, rfl⟩) | (go_at_call 77; refine (M7.out _).mono ?_; rintro e w1 ⟨rfl, rfl⟩; try clear M5))
  all_goals (
    refine bodyPost_ret (results_tok1 rfl rfl (heap_alloc_new _ _)) rfl ?_
    exact ⟨rfl, BE.out.alloc (Nat.le_refl _) _⟩)
set_option maxHeartbeats 2000000 in
set_option maxRecDepth 100000 in
theorem bare_hexbad (s : ByteArray) (hs : s.size ≤ 1048576) (w : World) (h0 : 0 < s.size) (hc : cb s 0 = 35) (h2 : 2 < s.size) (e0 : s.extract 0 2 = ⟨#[35, 120]⟩) (n3 : ¬ (0 < (s.extract 2 s.size).size ∧ allP (s.extract 2 s.size) bHex 0 (s.extract 2 s.size).size)) : Calls Tryz.prog 59 #[.string s] w fun e w' => e = .returned (noTok) ∧ Below w.heap.size w w' := by
  have hd : bDig (cb s 0) = false := by rw [hc]; rfl
  have n1 : ¬ isNum s 0 s.size := (no_num (s := s) (p := 0) (e := s.size) hd).1
  have n2 : ¬ isDec s 0 s.size := (no_num (s := s) (p := 0) (e := s.size) hd).2
  have M1 : Hid (∀ W, Calls Tryz.prog 72 #[.string s] W fun e w' => e = .returned (.bool false) ∧ W = w') := Lib.hid (fun W => (numeral_any s hs W).mono fun e w' h => says_f h n1)
  have M2 : Hid (∀ W, Calls Tryz.prog 73 #[.string s] W fun e w' => e = .returned (.bool false) ∧ W = w') := Lib.hid (fun W => (decimal_any s hs W).mono fun e w' h => says_f h n2)
  clear n1 n2
  have M3 : Hid (∀ W, Calls Tryz.prog 74 #[.string (s.extract 2 s.size), .int .i64 16] W fun e w' => e = .returned (.bool false) ∧ W = w') := Lib.hid (fun W => (all16_any (s.extract 2 s.size) (by rw [size_ext (Nat.le_refl _)]; omega) W).mono fun e w' h => says_f h n3)
  have hb0 := cb_at h0
  have M7 : Hid (∀ W, Calls Tryz.prog 77 #[.int .u8 ((cb s 0 : Nat) : Int)] W fun e w' => e = .returned (.bool false) ∧ W = w') := Lib.hid (fun W => (digit6_any _ (cb_lt s 0) W).mono fun e w' h => ⟨by rw [h.1, hd], h.2⟩)
  have M6 : Hid (∀ W, Calls Tryz.prog 76 #[.string s] W fun e w' => e = .returned (.bool false) ∧ W = w') := Lib.hid (fun W => (bytes_any s hs W).mono fun e w' h => says_f h (fun h => by have := h.2 0 (Nat.le_refl _) h0; rw [hc] at this; cases this))
  rw [hc] at M7 hb0
  have BE := Lib.hid (Below.refl w.heap.size w)
  clear n3 hd hc
  go_enter Tryz.func59, Tryz.ntmps59
  go_wp2_with (first | (go_at_call 72; refine (M1.out _).mono ?_; rintro e w1 ⟨rfl, rfl⟩) | (go_at_call 73; refine (M2.out _).mono ?_; rintro e w1 ⟨rfl, rfl⟩) | (go_at_call 74; refine (M3.out _).mono ?_; rintro e w1 ⟨rfl, rfl⟩) | (go_at_call 74; refine (M4.out _).mono ?_; rintro e w1 ⟨rfl, rfl⟩) | (go_at_call 76; refine (M5.out _).mono ?_; rintro e w1 ⟨rfl, rfl⟩) | (go_at_call 76; refine (M6.out _).mono ?_; rintro e w1 ⟨rfl, rfl⟩) | (go_at_call 77; refine (M7.out _).mono ?_; rintro e w1 ⟨rfl, rfl⟩; try clear M5))
  all_goals (
    refine bodyPost_ret (results_tok1 rfl rfl (heap_alloc_new _ _)) rfl ?_
    exact ⟨rfl, BE.out.alloc (Nat.le_refl _) _⟩)
set_option maxHeartbeats 2000000 in
set_option maxRecDepth 100000 in
theorem bare_hashx (s : ByteArray) (hs : s.size ≤ 1048576) (w : World) (h0 : 0 < s.size) (hc : cb s 0 = 35) (h2 : 2 < s.size) (e1 : s.extract 0 2 ≠ ⟨#[35, 120]⟩) (e2 : s.extract 0 2 ≠ ⟨#[35, 98]⟩) : Calls Tryz.prog 59 #[.string s] w fun e w' => e = .returned (noTok) ∧ Below w.heap.size w w' := by
  have hd : bDig (cb s 0) = false := by rw [hc]; rfl
  have n1 : ¬ isNum s 0 s.size := (no_num (s := s) (p := 0) (e := s.size) hd).1
  have n2 : ¬ isDec s 0 s.size := (no_num (s := s) (p := 0) (e := s.size) hd).2
  have M1 : Hid (∀ W, Calls Tryz.prog 72 #[.string s] W fun e w' => e = .returned (.bool false) ∧ W = w') := Lib.hid (fun W => (numeral_any s hs W).mono fun e w' h => says_f h n1)
  have M2 : Hid (∀ W, Calls Tryz.prog 73 #[.string s] W fun e w' => e = .returned (.bool false) ∧ W = w') := Lib.hid (fun W => (decimal_any s hs W).mono fun e w' h => says_f h n2)
  clear n1 n2
  have en1 : ¬ (s.extract 0 2).toList = [35, 120] := lst_ne e1
  have en2 : ¬ (s.extract 0 2).toList = [35, 98] := lst_ne e2
  have hb0 := cb_at h0
  have M7 : Hid (∀ W, Calls Tryz.prog 77 #[.int .u8 ((cb s 0 : Nat) : Int)] W fun e w' => e = .returned (.bool false) ∧ W = w') := Lib.hid (fun W => (digit6_any _ (cb_lt s 0) W).mono fun e w' h => ⟨by rw [h.1, hd], h.2⟩)
  have M6 : Hid (∀ W, Calls Tryz.prog 76 #[.string s] W fun e w' => e = .returned (.bool false) ∧ W = w') := Lib.hid (fun W => (bytes_any s hs W).mono fun e w' h => says_f h (fun h => by have := h.2 0 (Nat.le_refl _) h0; rw [hc] at this; cases this))
  rw [hc] at M7 hb0
  have BE := Lib.hid (Below.refl w.heap.size w)
  clear e1 e2 hd hc
  go_enter Tryz.func59, Tryz.ntmps59
  go_wp2_with (first | (go_at_call 72; refine (M1.out _).mono ?_; rintro e w1 ⟨rfl, rfl⟩) | (go_at_call 73; refine (M2.out _).mono ?_; rintro e w1 ⟨rfl, rfl⟩) | (go_at_call 74; refine (M3.out _).mono ?_; rintro e w1 ⟨rfl, rfl⟩) | (go_at_call 74; refine (M4.out _).mono ?_; rintro e w1 ⟨rfl, rfl⟩) | (go_at_call 76; refine (M5.out _).mono ?_; rintro e w1 ⟨rfl, rfl⟩) | (go_at_call 76; refine (M6.out _).mono ?_; rintro e w1 ⟨rfl, rfl⟩) | (go_at_call 77; refine (M7.out _).mono ?_; rintro e w1 ⟨rfl, rfl⟩; try clear M5))
  all_goals (
    refine bodyPost_ret (results_tok1 rfl rfl (heap_alloc_new _ _)) rfl ?_
    exact ⟨rfl, BE.out.alloc (Nat.le_refl _) _⟩)
set_option maxHeartbeats 2000000 in
set_option maxRecDepth 100000 in
theorem bare_short (s : ByteArray) (hs : s.size ≤ 1048576) (w : World) (h0 : 0 < s.size) (hc : cb s 0 = 35) (h2 : s.size ≤ 2) : Calls Tryz.prog 59 #[.string s] w fun e w' => e = .returned (noTok) ∧ Below w.heap.size w w' := by
  have hd : bDig (cb s 0) = false := by rw [hc]; rfl
  have n1 : ¬ isNum s 0 s.size := (no_num (s := s) (p := 0) (e := s.size) hd).1
  have n2 : ¬ isDec s 0 s.size := (no_num (s := s) (p := 0) (e := s.size) hd).2
  have M1 : Hid (∀ W, Calls Tryz.prog 72 #[.string s] W fun e w' => e = .returned (.bool false) ∧ W = w') := Lib.hid (fun W => (numeral_any s hs W).mono fun e w' h => says_f h n1)
  have M2 : Hid (∀ W, Calls Tryz.prog 73 #[.string s] W fun e w' => e = .returned (.bool false) ∧ W = w') := Lib.hid (fun W => (decimal_any s hs W).mono fun e w' h => says_f h n2)
  clear n1 n2
  have hb0 := cb_at h0
  have M7 : Hid (∀ W, Calls Tryz.prog 77 #[.int .u8 ((cb s 0 : Nat) : Int)] W fun e w' => e = .returned (.bool false) ∧ W = w') := Lib.hid (fun W => (digit6_any _ (cb_lt s 0) W).mono fun e w' h => ⟨by rw [h.1, hd], h.2⟩)
  have M6 : Hid (∀ W, Calls Tryz.prog 76 #[.string s] W fun e w' => e = .returned (.bool false) ∧ W = w') := Lib.hid (fun W => (bytes_any s hs W).mono fun e w' h => says_f h (fun h => by have := h.2 0 (Nat.le_refl _) h0; rw [hc] at this; cases this))
  rw [hc] at M7 hb0
  have BE := Lib.hid (Below.refl w.heap.size w)
  clear hd hc
  go_enter Tryz.func59, Tryz.ntmps59
  go_wp2_with (first | (go_at_call 72; refine (M1.out _).mono ?_; rintro e w1 ⟨rfl, rfl⟩) | (go_at_call 73; refine (M2.out _).mono ?_; rintro e w1 ⟨rfl, rfl⟩) | (go_at_call 74; refine (M3.out _).mono ?_; rintro e w1 ⟨rfl, rfl⟩) | (go_at_call 74; refine (M4.out _).mono ?_; rintro e w1 ⟨rfl, rfl⟩) | (go_at_call 76; refine (M5.out _).mono ?_; rintro e w1 ⟨rfl, rfl⟩) | (go_at_call 76; refine (M6.out _).mono ?_; rintro e w1 ⟨rfl, rfl⟩) | (go_at_call 77; refine (M7.out _).mono ?_; rintro e w1 ⟨rfl, rfl⟩; try clear M5))
  all_goals (
    refine bodyPost_ret (results_tok1 rfl rfl (heap_alloc_new _ _)) rfl ?_
    exact ⟨rfl, BE.out.alloc (Nat.le_refl _) _⟩)
set_option maxHeartbeats 2000000 in
set_option maxRecDepth 100000 in
theorem bare_key_2 (s : ByteArray) (hs : s.size ≤ 1048576) (w : World) (h0 : 0 < s.size) (hc : cb s 0 = 58) (n5 : (0 < (s.extract 1 s.size).size ∧ allP (s.extract 1 s.size) bSimple 0 (s.extract 1 s.size).size)) (h2 : 2 < s.size) (e1 : s.extract 0 2 ≠ ⟨#[35, 120]⟩) (e2 : s.extract 0 2 ≠ ⟨#[35, 98]⟩) : Calls Tryz.prog 59 #[.string s] w fun e w' => e = .returned (tokV 9 (s.extract 1 s.size) false 0 0) ∧ Below w.heap.size w w' := by
  have hd : bDig (cb s 0) = false := by rw [hc]; rfl
  have n1 : ¬ isNum s 0 s.size := (no_num (s := s) (p := 0) (e := s.size) hd).1
  have n2 : ¬ isDec s 0 s.size := (no_num (s := s) (p := 0) (e := s.size) hd).2
  have M1 : Hid (∀ W, Calls Tryz.prog 72 #[.string s] W fun e w' => e = .returned (.bool false) ∧ W = w') := Lib.hid (fun W => (numeral_any s hs W).mono fun e w' h => says_f h n1)
  have M2 : Hid (∀ W, Calls Tryz.prog 73 #[.string s] W fun e w' => e = .returned (.bool false) ∧ W = w') := Lib.hid (fun W => (decimal_any s hs W).mono fun e w' h => says_f h n2)
  clear n1 n2
  have M5 : Hid (∀ W, Calls Tryz.prog 76 #[.string (s.extract 1 s.size)] W fun e w' => e = .returned (.bool true) ∧ W = w') := Lib.hid (fun W => (bytes_any (s.extract 1 s.size) (by rw [size_ext (Nat.le_refl _)]; omega) W).mono fun e w' h => says_t h n5)
  have hb0 := cb_at h0
  rw [hc] at hb0
  have en1 : ¬ (s.extract 0 2).toList = [35, 120] := lst_ne e1
  have en2 : ¬ (s.extract 0 2).toList = [35, 98] := lst_ne e2
  have BE := Lib.hid (Below.refl w.heap.size w)
  clear e1 e2 n5 hd hc
  go_enter Tryz.func59, Tryz.ntmps59
  go_wp2_with (first | (go_at_call 72; refine (M1.out _).mono ?_; rintro e w1 ⟨rfl, rfl⟩) | (go_at_call 73; refine (M2.out _).mono ?_; rintro e w1 ⟨rfl, rfl⟩) | (go_at_call 74; refine (M3.out _).mono ?_; rintro e w1 ⟨rfl, rfl⟩) | (go_at_call 74; refine (M4.out _).mono ?_; rintro e w1 ⟨rfl, rfl⟩) | (go_at_call 76; refine (M5.out _).mono ?_; rintro e w1 ⟨rfl, rfl⟩) | (go_at_call 76; refine (M6.out _).mono ?_; rintro e w1 ⟨rfl, rfl⟩) | (go_at_call 77; refine (M7.out _).mono ?_; rintro e w1 ⟨rfl, rfl⟩; try clear M5))
  all_goals (
    refine bodyPost_ret (results_tok1 rfl rfl (heap_alloc_new _ _)) rfl ?_
    exact ⟨rfl, BE.out.alloc (Nat.le_refl _) _⟩)
set_option maxHeartbeats 2000000 in
set_option maxRecDepth 100000 in
theorem bare_key_1 (s : ByteArray) (hs : s.size ≤ 1048576) (w : World) (h0 : 0 < s.size) (hc : cb s 0 = 58) (n5 : (0 < (s.extract 1 s.size).size ∧ allP (s.extract 1 s.size) bSimple 0 (s.extract 1 s.size).size)) (h2 : s.size ≤ 2) : Calls Tryz.prog 59 #[.string s] w fun e w' => e = .returned (tokV 9 (s.extract 1 s.size) false 0 0) ∧ Below w.heap.size w w' := by
  have hd : bDig (cb s 0) = false := by rw [hc]; rfl
  have n1 : ¬ isNum s 0 s.size := (no_num (s := s) (p := 0) (e := s.size) hd).1
  have n2 : ¬ isDec s 0 s.size := (no_num (s := s) (p := 0) (e := s.size) hd).2
  have M1 : Hid (∀ W, Calls Tryz.prog 72 #[.string s] W fun e w' => e = .returned (.bool false) ∧ W = w') := Lib.hid (fun W => (numeral_any s hs W).mono fun e w' h => says_f h n1)
  have M2 : Hid (∀ W, Calls Tryz.prog 73 #[.string s] W fun e w' => e = .returned (.bool false) ∧ W = w') := Lib.hid (fun W => (decimal_any s hs W).mono fun e w' h => says_f h n2)
  clear n1 n2
  have M5 : Hid (∀ W, Calls Tryz.prog 76 #[.string (s.extract 1 s.size)] W fun e w' => e = .returned (.bool true) ∧ W = w') := Lib.hid (fun W => (bytes_any (s.extract 1 s.size) (by rw [size_ext (Nat.le_refl _)]; omega) W).mono fun e w' h => says_t h n5)
  have hb0 := cb_at h0
  rw [hc] at hb0
  have BE := Lib.hid (Below.refl w.heap.size w)
  clear n5 hd hc
  go_enter Tryz.func59, Tryz.ntmps59
  go_wp2_with (first | (go_at_call 72; refine (M1.out _).mono ?_; rintro e w1 ⟨rfl, rfl⟩) | (go_at_call 73; refine (M2.out _).mono ?_; rintro e w1 ⟨rfl, rfl⟩) | (go_at_call 74; refine (M3.out _).mono ?_; rintro e w1 ⟨rfl, rfl⟩) | (go_at_call 74; refine (M4.out _).mono ?_; rintro e w1 ⟨rfl, rfl⟩) | (go_at_call 76; refine (M5.out _).mono ?_; rintro e w1 ⟨rfl, rfl⟩) | (go_at_call 76; refine (M6.out _).mono ?_; rintro e w1 ⟨rfl, rfl⟩) | (go_at_call 77; refine (M7.out _).mono ?_; rintro e w1 ⟨rfl, rfl⟩; try clear M5))
  all_goals (
    refine bodyPost_ret (results_tok1 rfl rfl (heap_alloc_new _ _)) rfl ?_
    exact ⟨rfl, BE.out.alloc (Nat.le_refl _) _⟩)
set_option maxHeartbeats 2000000 in
set_option maxRecDepth 100000 in
theorem bare_keybad_2 (s : ByteArray) (hs : s.size ≤ 1048576) (w : World) (h0 : 0 < s.size) (hc : cb s 0 = 58) (n5 : ¬ (0 < (s.extract 1 s.size).size ∧ allP (s.extract 1 s.size) bSimple 0 (s.extract 1 s.size).size)) (h2 : 2 < s.size) (e1 : s.extract 0 2 ≠ ⟨#[35, 120]⟩) (e2 : s.extract 0 2 ≠ ⟨#[35, 98]⟩) : Calls Tryz.prog 59 #[.string s] w fun e w' => e = .returned (noTok) ∧ Below w.heap.size w w' := by
  have hd : bDig (cb s 0) = false := by rw [hc]; rfl
  have n1 : ¬ isNum s 0 s.size := (no_num (s := s) (p := 0) (e := s.size) hd).1
  have n2 : ¬ isDec s 0 s.size := (no_num (s := s) (p := 0) (e := s.size) hd).2
  have M1 : Hid (∀ W, Calls Tryz.prog 72 #[.string s] W fun e w' => e = .returned (.bool false) ∧ W = w') := Lib.hid (fun W => (numeral_any s hs W).mono fun e w' h => says_f h n1)
  have M2 : Hid (∀ W, Calls Tryz.prog 73 #[.string s] W fun e w' => e = .returned (.bool false) ∧ W = w') := Lib.hid (fun W => (decimal_any s hs W).mono fun e w' h => says_f h n2)
  clear n1 n2
  have M5 : Hid (∀ W, Calls Tryz.prog 76 #[.string (s.extract 1 s.size)] W fun e w' => e = .returned (.bool false) ∧ W = w') := Lib.hid (fun W => (bytes_any (s.extract 1 s.size) (by rw [size_ext (Nat.le_refl _)]; omega) W).mono fun e w' h => says_f h n5)
  have hb0 := cb_at h0
  have M7 : Hid (∀ W, Calls Tryz.prog 77 #[.int .u8 ((cb s 0 : Nat) : Int)] W fun e w' => e = .returned (.bool false) ∧ W = w') := Lib.hid (fun W => (digit6_any _ (cb_lt s 0) W).mono fun e w' h => ⟨by rw [h.1, hd], h.2⟩)
  have M6 : Hid (∀ W, Calls Tryz.prog 76 #[.string s] W fun e w' => e = .returned (.bool false) ∧ W = w') := Lib.hid (fun W => (bytes_any s hs W).mono fun e w' h => says_f h (fun h => by have := h.2 0 (Nat.le_refl _) h0; rw [hc] at this; cases this))
  rw [hc] at M7 hb0
  have en1 : ¬ (s.extract 0 2).toList = [35, 120] := lst_ne e1
  have en2 : ¬ (s.extract 0 2).toList = [35, 98] := lst_ne e2
  have BE := Lib.hid (Below.refl w.heap.size w)
  clear e1 e2 n5 hd hc
  go_enter Tryz.func59, Tryz.ntmps59
  go_wp2_with (first | (go_at_call 72; refine (M1.out _).mono ?_; rintro e w1 ⟨rfl, rfl⟩) | (go_at_call 73; refine (M2.out _).mono ?_; rintro e w1 ⟨rfl, rfl⟩) | (go_at_call 74; refine (M3.out _).mono ?_; rintro e w1 ⟨rfl, rfl⟩) | (go_at_call 74; refine (M4.out _).mono ?_; rintro e w1 ⟨rfl, rfl⟩) | (go_at_call 76; refine (M5.out _).mono ?_; rintro e w1 ⟨rfl, rfl⟩) | (go_at_call 76; refine (M6.out _).mono ?_; rintro e w1 ⟨rfl, rfl⟩) | (go_at_call 77; refine (M7.out _).mono ?_; rintro e w1 ⟨rfl, rfl⟩; try clear M5))
  all_goals (
    refine bodyPost_ret (results_tok1 rfl rfl (heap_alloc_new _ _)) rfl ?_
    exact ⟨rfl, BE.out.alloc (Nat.le_refl _) _⟩)
set_option maxHeartbeats 2000000 in
set_option maxRecDepth 100000 in
theorem bare_keybad_1 (s : ByteArray) (hs : s.size ≤ 1048576) (w : World) (h0 : 0 < s.size) (hc : cb s 0 = 58) (n5 : ¬ (0 < (s.extract 1 s.size).size ∧ allP (s.extract 1 s.size) bSimple 0 (s.extract 1 s.size).size)) (h2 : s.size ≤ 2) : Calls Tryz.prog 59 #[.string s] w fun e w' => e = .returned (noTok) ∧ Below w.heap.size w w' := by
  have hd : bDig (cb s 0) = false := by rw [hc]; rfl
  have n1 : ¬ isNum s 0 s.size := (no_num (s := s) (p := 0) (e := s.size) hd).1
  have n2 : ¬ isDec s 0 s.size := (no_num (s := s) (p := 0) (e := s.size) hd).2
  have M1 : Hid (∀ W, Calls Tryz.prog 72 #[.string s] W fun e w' => e = .returned (.bool false) ∧ W = w') := Lib.hid (fun W => (numeral_any s hs W).mono fun e w' h => says_f h n1)
  have M2 : Hid (∀ W, Calls Tryz.prog 73 #[.string s] W fun e w' => e = .returned (.bool false) ∧ W = w') := Lib.hid (fun W => (decimal_any s hs W).mono fun e w' h => says_f h n2)
  clear n1 n2
  have M5 : Hid (∀ W, Calls Tryz.prog 76 #[.string (s.extract 1 s.size)] W fun e w' => e = .returned (.bool false) ∧ W = w') := Lib.hid (fun W => (bytes_any (s.extract 1 s.size) (by rw [size_ext (Nat.le_refl _)]; omega) W).mono fun e w' h => says_f h n5)
  have hb0 := cb_at h0
  have M7 : Hid (∀ W, Calls Tryz.prog 77 #[.int .u8 ((cb s 0 : Nat) : Int)] W fun e w' => e = .returned (.bool false) ∧ W = w') := Lib.hid (fun W => (digit6_any _ (cb_lt s 0) W).mono fun e w' h => ⟨by rw [h.1, hd], h.2⟩)
  have M6 : Hid (∀ W, Calls Tryz.prog 76 #[.string s] W fun e w' => e = .returned (.bool false) ∧ W = w') := Lib.hid (fun W => (bytes_any s hs W).mono fun e w' h => says_f h (fun h => by have := h.2 0 (Nat.le_refl _) h0; rw [hc] at this; cases this))
  rw [hc] at M7 hb0
  have BE := Lib.hid (Below.refl w.heap.size w)
  clear n5 hd hc
  go_enter Tryz.func59, Tryz.ntmps59
  go_wp2_with (first | (go_at_call 72; refine (M1.out _).mono ?_; rintro e w1 ⟨rfl, rfl⟩) | (go_at_call 73; refine (M2.out _).mono ?_; rintro e w1 ⟨rfl, rfl⟩) | (go_at_call 74; refine (M3.out _).mono ?_; rintro e w1 ⟨rfl, rfl⟩) | (go_at_call 74; refine (M4.out _).mono ?_; rintro e w1 ⟨rfl, rfl⟩) | (go_at_call 76; refine (M5.out _).mono ?_; rintro e w1 ⟨rfl, rfl⟩) | (go_at_call 76; refine (M6.out _).mono ?_; rintro e w1 ⟨rfl, rfl⟩) | (go_at_call 77; refine (M7.out _).mono ?_; rintro e w1 ⟨rfl, rfl⟩; try clear M5))
  all_goals (
    refine bodyPost_ret (results_tok1 rfl rfl (heap_alloc_new _ _)) rfl ?_
    exact ⟨rfl, BE.out.alloc (Nat.le_refl _) _⟩)
set_option maxHeartbeats 2000000 in
set_option maxRecDepth 100000 in
theorem bare_dig_2 (s : ByteArray) (hs : s.size ≤ 1048576) (w : World) (h0 : 0 < s.size) (hc : cb s 0 ≠ 58) (hd : bDig (cb s 0) = true) (n1 : ¬ isNum s 0 s.size) (n2 : ¬ isDec s 0 s.size) (h2 : 2 < s.size) (e1 : s.extract 0 2 ≠ ⟨#[35, 120]⟩) (e2 : s.extract 0 2 ≠ ⟨#[35, 98]⟩) : Calls Tryz.prog 59 #[.string s] w fun e w' => e = .returned (noTok) ∧ Below w.heap.size w w' := by
  have hb0 := cb_at h0
  have e58 : ((cb s 0 : Int) == 58) = false := ne_i (k := 58) hc
  have M1 : Hid (∀ W, Calls Tryz.prog 72 #[.string s] W fun e w' => e = .returned (.bool false) ∧ W = w') := Lib.hid (fun W => (numeral_any s hs W).mono fun e w' h => says_f h n1)
  have M2 : Hid (∀ W, Calls Tryz.prog 73 #[.string s] W fun e w' => e = .returned (.bool false) ∧ W = w') := Lib.hid (fun W => (decimal_any s hs W).mono fun e w' h => says_f h n2)
  have M7 : Hid (∀ W, Calls Tryz.prog 77 #[.int .u8 ((cb s 0 : Nat) : Int)] W fun e w' => e = .returned (.bool true) ∧ W = w') := Lib.hid (fun W => (digit6_any _ (cb_lt s 0) W).mono fun e w' h => ⟨by rw [h.1, hd], h.2⟩)
  have en1 : ¬ (s.extract 0 2).toList = [35, 120] := lst_ne e1
  have en2 : ¬ (s.extract 0 2).toList = [35, 98] := lst_ne e2
  have BE := Lib.hid (Below.refl w.heap.size w)
  clear e1 e2 n1 n2 hd hc
  go_enter Tryz.func59, Tryz.ntmps59
  go_wp2_with (first | (go_at_call 72; refine (M1.out _).mono ?_; rintro e w1 ⟨rfl, rfl⟩) | (go_at_call 73; refine (M2.out _).mono ?_; rintro e w1 ⟨rfl, rfl⟩) | (go_at_call 74; refine (M3.out _).mono ?_; rintro e w1 ⟨rfl, rfl⟩) | (go_at_call 74; refine (M4.out _).mono ?_; rintro e w1 ⟨rfl, rfl⟩) | (go_at_call 76; refine (M5.out _).mono ?_; rintro e w1 ⟨rfl, rfl⟩) | (go_at_call 76; refine (M6.out _).mono ?_; rintro e w1 ⟨rfl, rfl⟩) | (go_at_call 77; refine (M7.out _).mono ?_; rintro e w1 ⟨rfl, rfl⟩; try clear M5))
  all_goals (
    refine bodyPost_ret (results_tok1 rfl rfl (heap_alloc_new _ _)) rfl ?_
    exact ⟨rfl, BE.out.alloc (Nat.le_refl _) _⟩)
set_option maxHeartbeats 2000000 in
set_option maxRecDepth 100000 in
theorem bare_dig_1 (s : ByteArray) (hs : s.size ≤ 1048576) (w : World) (h0 : 0 < s.size) (hc : cb s 0 ≠ 58) (hd : bDig (cb s 0) = true) (n1 : ¬ isNum s 0 s.size) (n2 : ¬ isDec s 0 s.size) (h2 : s.size ≤ 2) : Calls Tryz.prog 59 #[.string s] w fun e w' => e = .returned (noTok) ∧ Below w.heap.size w w' := by
  have hb0 := cb_at h0
  have e58 : ((cb s 0 : Int) == 58) = false := ne_i (k := 58) hc
  have M1 : Hid (∀ W, Calls Tryz.prog 72 #[.string s] W fun e w' => e = .returned (.bool false) ∧ W = w') := Lib.hid (fun W => (numeral_any s hs W).mono fun e w' h => says_f h n1)
  have M2 : Hid (∀ W, Calls Tryz.prog 73 #[.string s] W fun e w' => e = .returned (.bool false) ∧ W = w') := Lib.hid (fun W => (decimal_any s hs W).mono fun e w' h => says_f h n2)
  have M7 : Hid (∀ W, Calls Tryz.prog 77 #[.int .u8 ((cb s 0 : Nat) : Int)] W fun e w' => e = .returned (.bool true) ∧ W = w') := Lib.hid (fun W => (digit6_any _ (cb_lt s 0) W).mono fun e w' h => ⟨by rw [h.1, hd], h.2⟩)
  have BE := Lib.hid (Below.refl w.heap.size w)
  clear n1 n2 hd hc
  go_enter Tryz.func59, Tryz.ntmps59
  go_wp2_with (first | (go_at_call 72; refine (M1.out _).mono ?_; rintro e w1 ⟨rfl, rfl⟩) | (go_at_call 73; refine (M2.out _).mono ?_; rintro e w1 ⟨rfl, rfl⟩) | (go_at_call 74; refine (M3.out _).mono ?_; rintro e w1 ⟨rfl, rfl⟩) | (go_at_call 74; refine (M4.out _).mono ?_; rintro e w1 ⟨rfl, rfl⟩) | (go_at_call 76; refine (M5.out _).mono ?_; rintro e w1 ⟨rfl, rfl⟩) | (go_at_call 76; refine (M6.out _).mono ?_; rintro e w1 ⟨rfl, rfl⟩) | (go_at_call 77; refine (M7.out _).mono ?_; rintro e w1 ⟨rfl, rfl⟩; try clear M5))
  all_goals (
    refine bodyPost_ret (results_tok1 rfl rfl (heap_alloc_new _ _)) rfl ?_
    exact ⟨rfl, BE.out.alloc (Nat.le_refl _) _⟩)
set_option maxHeartbeats 2000000 in
set_option maxRecDepth 100000 in
theorem bare_word_2 (s : ByteArray) (hs : s.size ≤ 1048576) (w : World) (h0 : 0 < s.size) (hc : cb s 0 ≠ 58) (hd : bDig (cb s 0) = false) (n6 : (0 < s.size ∧ allP s bSimple 0 s.size)) (h2 : 2 < s.size) (e1 : s.extract 0 2 ≠ ⟨#[35, 120]⟩) (e2 : s.extract 0 2 ≠ ⟨#[35, 98]⟩) : Calls Tryz.prog 59 #[.string s] w fun e w' => e = .returned (tokV 8 s false 0 0) ∧ Below w.heap.size w w' := by
  have hb0 := cb_at h0
  have e58 : ((cb s 0 : Int) == 58) = false := ne_i (k := 58) hc
  have n1 : ¬ isNum s 0 s.size := (no_num (s := s) (p := 0) (e := s.size) hd).1
  have n2 : ¬ isDec s 0 s.size := (no_num (s := s) (p := 0) (e := s.size) hd).2
  have M1 : Hid (∀ W, Calls Tryz.prog 72 #[.string s] W fun e w' => e = .returned (.bool false) ∧ W = w') := Lib.hid (fun W => (numeral_any s hs W).mono fun e w' h => says_f h n1)
  have M2 : Hid (∀ W, Calls Tryz.prog 73 #[.string s] W fun e w' => e = .returned (.bool false) ∧ W = w') := Lib.hid (fun W => (decimal_any s hs W).mono fun e w' h => says_f h n2)
  have M7 : Hid (∀ W, Calls Tryz.prog 77 #[.int .u8 ((cb s 0 : Nat) : Int)] W fun e w' => e = .returned (.bool false) ∧ W = w') := Lib.hid (fun W => (digit6_any _ (cb_lt s 0) W).mono fun e w' h => ⟨by rw [h.1, hd], h.2⟩)
  have M6 : Hid (∀ W, Calls Tryz.prog 76 #[.string s] W fun e w' => e = .returned (.bool true) ∧ W = w') := Lib.hid (fun W => (bytes_any s hs W).mono fun e w' h => says_t h n6)
  have en1 : ¬ (s.extract 0 2).toList = [35, 120] := lst_ne e1
  have en2 : ¬ (s.extract 0 2).toList = [35, 98] := lst_ne e2
  have BE := Lib.hid (Below.refl w.heap.size w)
  clear e1 e2 n1 n2 n6 hd hc
  go_enter Tryz.func59, Tryz.ntmps59
  go_wp2_with (first | (go_at_call 72; refine (M1.out _).mono ?_; rintro e w1 ⟨rfl, rfl⟩) | (go_at_call 73; refine (M2.out _).mono ?_; rintro e w1 ⟨rfl, rfl⟩) | (go_at_call 74; refine (M3.out _).mono ?_; rintro e w1 ⟨rfl, rfl⟩) | (go_at_call 74; refine (M4.out _).mono ?_; rintro e w1 ⟨rfl, rfl⟩) | (go_at_call 76; refine (M5.out _).mono ?_; rintro e w1 ⟨rfl, rfl⟩) | (go_at_call 76; refine (M6.out _).mono ?_; rintro e w1 ⟨rfl, rfl⟩) | (go_at_call 77; refine (M7.out _).mono ?_; rintro e w1 ⟨rfl, rfl⟩; try clear M5))
  all_goals (
    refine bodyPost_ret (results_tok1 rfl rfl (heap_alloc_new _ _)) rfl ?_
    exact ⟨rfl, BE.out.alloc (Nat.le_refl _) _⟩)
set_option maxHeartbeats 2000000 in
set_option maxRecDepth 100000 in
theorem bare_word_1 (s : ByteArray) (hs : s.size ≤ 1048576) (w : World) (h0 : 0 < s.size) (hc : cb s 0 ≠ 58) (hd : bDig (cb s 0) = false) (n6 : (0 < s.size ∧ allP s bSimple 0 s.size)) (h2 : s.size ≤ 2) : Calls Tryz.prog 59 #[.string s] w fun e w' => e = .returned (tokV 8 s false 0 0) ∧ Below w.heap.size w w' := by
  have hb0 := cb_at h0
  have e58 : ((cb s 0 : Int) == 58) = false := ne_i (k := 58) hc
  have n1 : ¬ isNum s 0 s.size := (no_num (s := s) (p := 0) (e := s.size) hd).1
  have n2 : ¬ isDec s 0 s.size := (no_num (s := s) (p := 0) (e := s.size) hd).2
  have M1 : Hid (∀ W, Calls Tryz.prog 72 #[.string s] W fun e w' => e = .returned (.bool false) ∧ W = w') := Lib.hid (fun W => (numeral_any s hs W).mono fun e w' h => says_f h n1)
  have M2 : Hid (∀ W, Calls Tryz.prog 73 #[.string s] W fun e w' => e = .returned (.bool false) ∧ W = w') := Lib.hid (fun W => (decimal_any s hs W).mono fun e w' h => says_f h n2)
  have M7 : Hid (∀ W, Calls Tryz.prog 77 #[.int .u8 ((cb s 0 : Nat) : Int)] W fun e w' => e = .returned (.bool false) ∧ W = w') := Lib.hid (fun W => (digit6_any _ (cb_lt s 0) W).mono fun e w' h => ⟨by rw [h.1, hd], h.2⟩)
  have M6 : Hid (∀ W, Calls Tryz.prog 76 #[.string s] W fun e w' => e = .returned (.bool true) ∧ W = w') := Lib.hid (fun W => (bytes_any s hs W).mono fun e w' h => says_t h n6)
  have BE := Lib.hid (Below.refl w.heap.size w)
  clear n1 n2 n6 hd hc
  go_enter Tryz.func59, Tryz.ntmps59
  go_wp2_with (first | (go_at_call 72; refine (M1.out _).mono ?_; rintro e w1 ⟨rfl, rfl⟩) | (go_at_call 73; refine (M2.out _).mono ?_; rintro e w1 ⟨rfl, rfl⟩) | (go_at_call 74; refine (M3.out _).mono ?_; rintro e w1 ⟨rfl, rfl⟩) | (go_at_call 74; refine (M4.out _).mono ?_; rintro e w1 ⟨rfl, rfl⟩) | (go_at_call 76; refine (M5.out _).mono ?_; rintro e w1 ⟨rfl, rfl⟩) | (go_at_call 76; refine (M6.out _).mono ?_; rintro e w1 ⟨rfl, rfl⟩) | (go_at_call 77; refine (M7.out _).mono ?_; rintro e w1 ⟨rfl, rfl⟩; try clear M5))
  all_goals (
    refine bodyPost_ret (results_tok1 rfl rfl (heap_alloc_new _ _)) rfl ?_
    exact ⟨rfl, BE.out.alloc (Nat.le_refl _) _⟩)
set_option maxHeartbeats 2000000 in
set_option maxRecDepth 100000 in
theorem bare_wordbad_2 (s : ByteArray) (hs : s.size ≤ 1048576) (w : World) (h0 : 0 < s.size) (hc : cb s 0 ≠ 58) (hd : bDig (cb s 0) = false) (n6 : ¬ (0 < s.size ∧ allP s bSimple 0 s.size)) (h2 : 2 < s.size) (e1 : s.extract 0 2 ≠ ⟨#[35, 120]⟩) (e2 : s.extract 0 2 ≠ ⟨#[35, 98]⟩) : Calls Tryz.prog 59 #[.string s] w fun e w' => e = .returned (noTok) ∧ Below w.heap.size w w' := by
  have hb0 := cb_at h0
  have e58 : ((cb s 0 : Int) == 58) = false := ne_i (k := 58) hc
  have n1 : ¬ isNum s 0 s.size := (no_num (s := s) (p := 0) (e := s.size) hd).1
  have n2 : ¬ isDec s 0 s.size := (no_num (s := s) (p := 0) (e := s.size) hd).2
  have M1 : Hid (∀ W, Calls Tryz.prog 72 #[.string s] W fun e w' => e = .returned (.bool false) ∧ W = w') := Lib.hid (fun W => (numeral_any s hs W).mono fun e w' h => says_f h n1)
  have M2 : Hid (∀ W, Calls Tryz.prog 73 #[.string s] W fun e w' => e = .returned (.bool false) ∧ W = w') := Lib.hid (fun W => (decimal_any s hs W).mono fun e w' h => says_f h n2)
  have M7 : Hid (∀ W, Calls Tryz.prog 77 #[.int .u8 ((cb s 0 : Nat) : Int)] W fun e w' => e = .returned (.bool false) ∧ W = w') := Lib.hid (fun W => (digit6_any _ (cb_lt s 0) W).mono fun e w' h => ⟨by rw [h.1, hd], h.2⟩)
  have M6 : Hid (∀ W, Calls Tryz.prog 76 #[.string s] W fun e w' => e = .returned (.bool false) ∧ W = w') := Lib.hid (fun W => (bytes_any s hs W).mono fun e w' h => says_f h n6)
  have en1 : ¬ (s.extract 0 2).toList = [35, 120] := lst_ne e1
  have en2 : ¬ (s.extract 0 2).toList = [35, 98] := lst_ne e2
  have BE := Lib.hid (Below.refl w.heap.size w)
  clear e1 e2 n1 n2 n6 hd hc
  go_enter Tryz.func59, Tryz.ntmps59
  go_wp2_with (first | (go_at_call 72; refine (M1.out _).mono ?_; rintro e w1 ⟨rfl, rfl⟩) | (go_at_call 73; refine (M2.out _).mono ?_; rintro e w1 ⟨rfl, rfl⟩) | (go_at_call 74; refine (M3.out _).mono ?_; rintro e w1 ⟨rfl, rfl⟩) | (go_at_call 74; refine (M4.out _).mono ?_; rintro e w1 ⟨rfl, rfl⟩) | (go_at_call 76; refine (M5.out _).mono ?_; rintro e w1 ⟨rfl, rfl⟩) | (go_at_call 76; refine (M6.out _).mono ?_; rintro e w1 ⟨rfl, rfl⟩) | (go_at_call 77; refine (M7.out _).mono ?_; rintro e w1 ⟨rfl, rfl⟩; try clear M5))
  all_goals (
    refine bodyPost_ret (results_tok1 rfl rfl (heap_alloc_new _ _)) rfl ?_
    exact ⟨rfl, BE.out.alloc (Nat.le_refl _) _⟩)
set_option maxHeartbeats 2000000 in
set_option maxRecDepth 100000 in
theorem bare_wordbad_1 (s : ByteArray) (hs : s.size ≤ 1048576) (w : World) (h0 : 0 < s.size) (hc : cb s 0 ≠ 58) (hd : bDig (cb s 0) = false) (n6 : ¬ (0 < s.size ∧ allP s bSimple 0 s.size)) (h2 : s.size ≤ 2) : Calls Tryz.prog 59 #[.string s] w fun e w' => e = .returned (noTok) ∧ Below w.heap.size w w' := by
  have hb0 := cb_at h0
  have e58 : ((cb s 0 : Int) == 58) = false := ne_i (k := 58) hc
  have n1 : ¬ isNum s 0 s.size := (no_num (s := s) (p := 0) (e := s.size) hd).1
  have n2 : ¬ isDec s 0 s.size := (no_num (s := s) (p := 0) (e := s.size) hd).2
  have M1 : Hid (∀ W, Calls Tryz.prog 72 #[.string s] W fun e w' => e = .returned (.bool false) ∧ W = w') := Lib.hid (fun W => (numeral_any s hs W).mono fun e w' h => says_f h n1)
  have M2 : Hid (∀ W, Calls Tryz.prog 73 #[.string s] W fun e w' => e = .returned (.bool false) ∧ W = w') := Lib.hid (fun W => (decimal_any s hs W).mono fun e w' h => says_f h n2)
  have M7 : Hid (∀ W, Calls Tryz.prog 77 #[.int .u8 ((cb s 0 : Nat) : Int)] W fun e w' => e = .returned (.bool false) ∧ W = w') := Lib.hid (fun W => (digit6_any _ (cb_lt s 0) W).mono fun e w' h => ⟨by rw [h.1, hd], h.2⟩)
  have M6 : Hid (∀ W, Calls Tryz.prog 76 #[.string s] W fun e w' => e = .returned (.bool false) ∧ W = w') := Lib.hid (fun W => (bytes_any s hs W).mono fun e w' h => says_f h n6)
  have BE := Lib.hid (Below.refl w.heap.size w)
  clear n1 n2 n6 hd hc
  go_enter Tryz.func59, Tryz.ntmps59
  go_wp2_with (first | (go_at_call 72; refine (M1.out _).mono ?_; rintro e w1 ⟨rfl, rfl⟩) | (go_at_call 73; refine (M2.out _).mono ?_; rintro e w1 ⟨rfl, rfl⟩) | (go_at_call 74; refine (M3.out _).mono ?_; rintro e w1 ⟨rfl, rfl⟩) | (go_at_call 74; refine (M4.out _).mono ?_; rintro e w1 ⟨rfl, rfl⟩) | (go_at_call 76; refine (M5.out _).mono ?_; rintro e w1 ⟨rfl, rfl⟩) | (go_at_call 76; refine (M6.out _).mono ?_; rintro e w1 ⟨rfl, rfl⟩) | (go_at_call 77; refine (M7.out _).mono ?_; rintro e w1 ⟨rfl, rfl⟩; try clear M5))
  all_goals (
    refine bodyPost_ret (results_tok1 rfl rfl (heap_alloc_new _ _)) rfl ?_
    exact ⟨rfl, BE.out.alloc (Nat.le_refl _) _⟩)
set_option maxHeartbeats 2000000 in
set_option maxRecDepth 100000 in
theorem bare_hex (s : ByteArray) (hs : s.size ≤ 1048576) (w : World) (h0 : 0 < s.size) (hc : cb s 0 = 35) (h2 : 2 < s.size) (e0 : s.extract 0 2 = ⟨#[35, 120]⟩) (n3 : (0 < (s.extract 2 s.size).size ∧ allP (s.extract 2 s.size) bHex 0 (s.extract 2 s.size).size)) : Calls Tryz.prog 59 #[.string s] w fun e w' => e = .returned (tokV 5 (lowB (s.extract 2 s.size)) false 0 0) ∧ Below w.heap.size w w' := by
  have hd : bDig (cb s 0) = false := by rw [hc]; rfl
  have n1 : ¬ isNum s 0 s.size := (no_num (s := s) (p := 0) (e := s.size) hd).1
  have n2 : ¬ isDec s 0 s.size := (no_num (s := s) (p := 0) (e := s.size) hd).2
  have M1 : Hid (∀ W, Calls Tryz.prog 72 #[.string s] W fun e w' => e = .returned (.bool false) ∧ W = w') := Lib.hid (fun W => (numeral_any s hs W).mono fun e w' h => says_f h n1)
  have M2 : Hid (∀ W, Calls Tryz.prog 73 #[.string s] W fun e w' => e = .returned (.bool false) ∧ W = w') := Lib.hid (fun W => (decimal_any s hs W).mono fun e w' h => says_f h n2)
  clear n1 n2
  have M3 : Hid (∀ W, Calls Tryz.prog 74 #[.string (s.extract 2 s.size), .int .i64 16] W fun e w' => e = .returned (.bool true) ∧ W = w') := Lib.hid (fun W => (all16_any (s.extract 2 s.size) (by rw [size_ext (Nat.le_refl _)]; omega) W).mono fun e w' h => says_t h n3)
  have M8 : Hid (Calls Tryz.prog 75 #[.string (s.extract 2 s.size)] (w.alloc (Obj.cells #[.int .i64 0, .string ⟨#[]⟩, .bool false, .int .i64 0, .int .i64 0] 37)) fun e w' => e = .returned (.string (lowB (s.extract 2 s.size))) ∧ Below (w.alloc (Obj.cells #[.int .i64 0, .string ⟨#[]⟩, .bool false, .int .i64 0, .int .i64 0] 37)).heap.size (w.alloc (Obj.cells #[.int .i64 0, .string ⟨#[]⟩, .bool false, .int .i64 0, .int .i64 0] 37)) w') := Lib.hid (small_any _ (by rw [size_ext (Nat.le_refl _)]; omega) _)
  have HBK : Hid (∀ w1, Below (w.alloc (Obj.cells #[.int .i64 0, .string ⟨#[]⟩, .bool false, .int .i64 0, .int .i64 0] 37)).heap.size (w.alloc (Obj.cells #[.int .i64 0, .string ⟨#[]⟩, .bool false, .int .i64 0, .int .i64 0] 37)) w1 → Blk w1 w.heap.size) := Lib.hid (fun w1 h => (h.block _ (by simp)).trans (heap_alloc_new w (Obj.cells #[.int .i64 0, .string ⟨#[]⟩, .bool false, .int .i64 0, .int .i64 0] 37)))
  have BE := Lib.hid (Below.refl w.heap.size w)
  clear n3 hd hc
  go_enter Tryz.func59, Tryz.ntmps59
  go_wp2_with (first | (go_at_call 72; refine (M1.out _).mono ?_; rintro e w1 ⟨rfl, rfl⟩) | (go_at_call 73; refine (M2.out _).mono ?_; rintro e w1 ⟨rfl, rfl⟩) | (go_at_call 74; refine (M3.out _).mono ?_; rintro e w1 ⟨rfl, rfl⟩) | (go_at_call 74; refine (M4.out _).mono ?_; rintro e w1 ⟨rfl, rfl⟩) | (go_at_call 76; refine (M5.out _).mono ?_; rintro e w1 ⟨rfl, rfl⟩) | (go_at_call 76; refine (M6.out _).mono ?_; rintro e w1 ⟨rfl, rfl⟩) | (go_at_call 77; refine (M7.out _).mono ?_; rintro e w1 ⟨rfl, rfl⟩; try clear M5) | (go_at_call 75; refine M8.out.mono ?_; rintro e w1 ⟨rfl, hbw⟩; have HBW := Lib.hid hbw; clear hbw; obtain ⟨⟨k0, k1, k2, k3, k4⟩, j0, j1, j2, j3, j4⟩ := Blk.all (HBK.out _ HBW.out)))
  refine bodyPost_ret (results_tok1 rfl rfl (heap_set5 (HBK.out _ HBW.out))) rfl ?_
  exact ⟨rfl, (((((BE.out.alloc (Nat.le_refl _) _).trans (HBW.out.mono (by simp))).setCell (Nat.le_refl _) _).setCell (Nat.le_refl _) _).setCell (Nat.le_refl _) _).setCell (Nat.le_refl _) _ |>.setCell (Nat.le_refl _) _⟩
end Go.Proofs.YtpkdiciinhjfjaaGreatDoor

/- lexis's reference: bare, whatever the piece. -/
namespace Go.Proofs.YtpkdiciinhjfjaaGreatDoor
open Go.RowKit Mth

theorem dec_ext {s : ByteArray} {p e : Nat} (hpe : p ≤ e) (he : e ≤ s.size) : isDec (s.extract p e) 0 (e - p) ↔ isDec s p e := by
  constructor
  · rintro ⟨i, i1, i2, i3, i4, i5⟩
    refine ⟨p + i, by omega, by rw [← i2, cb_ext i1 he], ?_, ?_, by omega⟩
    · have := isNum_move (s' := s) (p' := p) i3 (fun j hj => by rw [Nat.zero_add, cb_ext (by omega) he])
      rwa [Nat.sub_zero] at this
    · intro j j1 j2
      have := i4 (j - p) (by omega) (by omega)
      rwa [cb_ext (by omega) he, show p + (j - p) = j by omega] at this
  · rintro ⟨i, i1, i2, i3, i4, i5⟩
    have hp := i3.1
    refine ⟨i - p, by omega, by rw [cb_ext (by omega) he, show p + (i - p) = i by omega]; exact i2, ?_, ?_, by omega⟩
    · have := isNum_move (s' := s.extract p e) (p' := 0) i3 (fun j hj => by rw [Nat.zero_add, cb_ext (by omega) he])
      rwa [Nat.zero_add] at this
    · intro j j1 j2
      rw [cb_ext j2 he]; exact i4 _ (by omega) (by omega)
theorem ext_tail {s : ByteArray} {p e k : Nat} (hpe : p ≤ e) (he : e ≤ s.size) : (s.extract p e).extract k (s.extract p e).size = s.extract (p + k) e := by
  rw [size_ext he, ByteArray.extract_extract, show p + (e - p) = e by omega, Nat.min_self]
theorem two_iff {x : ByteArray} {a b : UInt8} (h : 2 < x.size) : x.extract 0 2 = ⟨#[a, b]⟩ ↔ cb x 0 = a.toNat ∧ cb x 1 = b.toNat := by
  constructor
  · intro e
    have h1 := (byt_of_ext e (by omega) (by omega)).1
    exact ⟨h1.1, h1.2.1⟩
  · rintro ⟨h1, h2⟩
    exact byt_ext (l := [a, b]) (i := 0) ⟨h1, h2, True.intro⟩ (by simp; omega)
def BareO (w w' : World) (r : Res) (n : Nat) (e : Ending) : Prop :=
  Below w.heap.size w w' ∧ ((∃ k t, r = .tok k t false n ∧ 0 < k ∧ e = .returned (tokV k t false 0 0)) ∨ (r = .err 62 ∧ e = .returned noTok))
theorem bare_any (s : ByteArray) (p n : Nat) (hp : p < n) (hn : n ≤ s.size) (hs : s.size ≤ 1048576) (w : World) :
    Calls Tryz.prog 59 #[.string (s.extract p n)] w fun e w' => BareO w w' (bareF s p n) n e := by
  have hz : (s.extract p n).size = n - p := size_ext hn
  have hxs : (s.extract p n).size ≤ 1048576 := by omega
  have h0 : 0 < (s.extract p n).size := by omega
  have c0 : cb (s.extract p n) 0 = cb s p := by rw [cb_ext (by omega) hn, Nat.add_zero]
  have numI : isNum (s.extract p n) 0 (s.extract p n).size ↔ isNum s p n := by rw [hz]; exact num_ext (by omega) hn
  have decI : isDec (s.extract p n) 0 (s.extract p n).size ↔ isDec s p n := by rw [hz]; exact dec_ext (by omega) hn
  have t2 : (s.extract p n).extract 2 (s.extract p n).size = s.extract (p + 2) n := ext_tail (by omega) hn
  have t1 : (s.extract p n).extract 1 (s.extract p n).size = s.extract (p + 1) n := ext_tail (by omega) hn
  have tok : ∀ {k : Nat} {t : ByteArray}, bareF s p n = .tok k t false n → 0 < k → (Calls Tryz.prog 59 #[.string (s.extract p n)] w fun e w' => e = .returned (tokV k t false 0 0) ∧ Below w.heap.size w w') → Calls Tryz.prog 59 #[.string (s.extract p n)] w fun e w' => BareO w w' (bareF s p n) n e :=
    fun h1 h2 h => h.mono fun e w' ⟨h3, h4⟩ => ⟨h4, .inl ⟨_, _, h1, h2, h3⟩⟩
  have err : bareF s p n = .err 62 → (Calls Tryz.prog 59 #[.string (s.extract p n)] w fun e w' => e = .returned noTok ∧ Below w.heap.size w w') → Calls Tryz.prog 59 #[.string (s.extract p n)] w fun e w' => BareO w w' (bareF s p n) n e :=
    fun h1 h => h.mono fun e w' ⟨h3, h4⟩ => ⟨h4, .inr ⟨h1, h3⟩⟩
  have all2 : ∀ {P : Nat → Bool} {k : Nat}, p + k ≤ n → (allP (s.extract (p + k) n) P 0 (s.extract (p + k) n).size ↔ allP s P (p + k) n) := fun hk => by rw [size_ext hn]; exact all_ext hk hn
  by_cases hnum : isNum s p n
  · refine tok (k := 3) (t := s.extract p n) ?_ (by omega) (bare_num _ hxs w (numI.2 hnum))
    unfold bareF; rw [if_pos hnum]
  by_cases hdec : isDec s p n
  · refine tok (k := 4) (t := s.extract p n) ?_ (by omega) (bare_dec _ hxs w (fun h => hnum (numI.1 h)) (decI.2 hdec))
    unfold bareF; rw [if_neg hnum, if_pos hdec]
  by_cases h35 : cb s p = 35
  · have ns : ¬ (bDig (cb s p) = false ∧ p < n ∧ allP s bSimple p n) := fun h => by have := h.2.2 p (Nat.le_refl _) hp; rw [h35] at this; cases this
    by_cases h2 : 2 < (s.extract p n).size
    · have c1 : cb (s.extract p n) 1 = cb s (p + 1) := cb_ext (by omega) hn
      by_cases hx : cb s (p + 1) = 120
      · have e0 : (s.extract p n).extract 0 2 = ⟨#[35, 120]⟩ := (two_iff h2).2 ⟨by rw [c0]; exact h35, by rw [c1]; exact hx⟩
        by_cases ha : allP s bHex (p + 2) n
        · have h := bare_hex _ hxs w h0 (by rw [c0]; exact h35) h2 e0 (by rw [t2]; exact ⟨by rw [size_ext hn]; omega, (all2 (by omega)).2 ha⟩)
          rw [t2] at h
          refine tok (k := 5) ?_ (by omega) h
          unfold bareF; rw [if_neg hnum, if_neg hdec, if_pos ⟨h35, hx, by omega, ha⟩]
        · refine err ?_ (bare_hexbad _ hxs w h0 (by rw [c0]; exact h35) h2 e0 (fun h => ha (by rw [t2] at h; exact (all2 (by omega)).1 h.2)))
          exact bare_hash h35 (fun h => ha h.2.2) (fun h => by have := h.1; omega)
      · by_cases hb : cb s (p + 1) = 98
        · have e0 : (s.extract p n).extract 0 2 = ⟨#[35, 98]⟩ := (two_iff h2).2 ⟨by rw [c0]; exact h35, by rw [c1]; exact hb⟩
          by_cases ha : allP s bBin (p + 2) n
          · have h := bare_bin _ hxs w h0 (by rw [c0]; exact h35) h2 e0 (by rw [t2]; exact ⟨by rw [size_ext hn]; omega, (all2 (by omega)).2 ha⟩)
            rw [t2] at h
            refine tok (k := 6) ?_ (by omega) h
            unfold bareF; rw [if_neg hnum, if_neg hdec, if_neg (fun h => hx h.2.1), if_pos ⟨h35, hb, by omega, ha⟩]
          · refine err ?_ (bare_binbad _ hxs w h0 (by rw [c0]; exact h35) h2 e0 (fun h => ha (by rw [t2] at h; exact (all2 (by omega)).1 h.2)))
            exact bare_hash h35 (fun h => hx h.1) (fun h => ha h.2.2)
        · refine err ?_ (bare_hashx _ hxs w h0 (by rw [c0]; exact h35) h2 (fun h => hx (by have := ((two_iff h2).1 h).2; rw [c1] at this; exact this)) (fun h => hb (by have := ((two_iff h2).1 h).2; rw [c1] at this; exact this)))
          exact bare_hash h35 (fun h => hx h.1) (fun h => hb h.1)
    · refine err ?_ (bare_short _ hxs w h0 (by rw [c0]; exact h35) (by omega))
      exact bare_hash h35 (fun h => by omega) (fun h => by omega)
  have nhex : ¬ (cb s p = 35 ∧ cb s (p + 1) = 120 ∧ p + 2 < n ∧ allP s bHex (p + 2) n) := fun h => h35 h.1
  have nbin : ¬ (cb s p = 35 ∧ cb s (p + 1) = 98 ∧ p + 2 < n ∧ allP s bBin (p + 2) n) := fun h => h35 h.1
  have f1 : ∀ h2 : 2 < (s.extract p n).size, (s.extract p n).extract 0 2 ≠ ⟨#[35, 120]⟩ := fun h2 h => h35 (by have := ((two_iff h2).1 h).1; rw [c0] at this; exact this)
  have f2 : ∀ h2 : 2 < (s.extract p n).size, (s.extract p n).extract 0 2 ≠ ⟨#[35, 98]⟩ := fun h2 h => h35 (by have := ((two_iff h2).1 h).1; rw [c0] at this; exact this)
  by_cases h58 : cb s p = 58
  · have ns : ¬ (bDig (cb s p) = false ∧ p < n ∧ allP s bSimple p n) := fun h => by have := h.2.2 p (Nat.le_refl _) hp; rw [h58] at this; cases this
    by_cases ha : p + 1 < n ∧ allP s bSimple (p + 1) n
    · have n5 : 0 < ((s.extract p n).extract 1 (s.extract p n).size).size ∧ allP ((s.extract p n).extract 1 (s.extract p n).size) bSimple 0 ((s.extract p n).extract 1 (s.extract p n).size).size := by
        rw [t1]; exact ⟨by rw [size_ext hn]; omega, (all2 (by omega)).2 ha.2⟩
      have hb : bareF s p n = .tok 9 (s.extract (p + 1) n) false n := by
        unfold bareF; rw [if_neg hnum, if_neg hdec, if_neg nhex, if_neg nbin, if_pos ⟨h58, ha⟩]
      by_cases h2 : 2 < (s.extract p n).size
      · have h := bare_key_2 _ hxs w h0 (by rw [c0]; exact h58) n5 h2 (f1 h2) (f2 h2)
        rw [t1] at h
        exact tok hb (by omega) h
      · have h := bare_key_1 _ hxs w h0 (by rw [c0]; exact h58) n5 (by omega)
        rw [t1] at h
        exact tok hb (by omega) h
    · have n5 : ¬ (0 < ((s.extract p n).extract 1 (s.extract p n).size).size ∧ allP ((s.extract p n).extract 1 (s.extract p n).size) bSimple 0 ((s.extract p n).extract 1 (s.extract p n).size).size) := by
        rw [t1]; intro h; rw [size_ext hn] at h; exact ha ⟨by have := h.1; omega, (all_ext (by omega) hn).1 h.2⟩
      have hb : bareF s p n = .err 62 := by
        unfold bareF; rw [if_neg hnum, if_neg hdec, if_neg nhex, if_neg nbin, if_neg (fun h => ha h.2), if_neg ns]
      by_cases h2 : 2 < (s.extract p n).size
      · exact err hb (bare_keybad_2 _ hxs w h0 (by rw [c0]; exact h58) n5 h2 (f1 h2) (f2 h2))
      · exact err hb (bare_keybad_1 _ hxs w h0 (by rw [c0]; exact h58) n5 (by omega))
  have nkey : ¬ (cb s p = 58 ∧ p + 1 < n ∧ allP s bSimple (p + 1) n) := fun h => h58 h.1
  rcases Bool.eq_false_or_eq_true (bDig (cb s p)) with hd | hd
  · have hb : bareF s p n = .err 62 := bare_dig_err hd hnum hdec
    by_cases h2 : 2 < (s.extract p n).size
    · exact err hb (bare_dig_2 _ hxs w h0 (by rw [c0]; exact h58) (by rw [c0]; exact hd) (fun h => hnum (numI.1 h)) (fun h => hdec (decI.1 h)) h2 (f1 h2) (f2 h2))
    · exact err hb (bare_dig_1 _ hxs w h0 (by rw [c0]; exact h58) (by rw [c0]; exact hd) (fun h => hnum (numI.1 h)) (fun h => hdec (decI.1 h)) (by omega))
  · by_cases ha : allP s bSimple p n
    · have n6 : 0 < (s.extract p n).size ∧ allP (s.extract p n) bSimple 0 (s.extract p n).size := ⟨h0, by rw [hz]; exact (all_ext (by omega) hn).2 ha⟩
      have hb : bareF s p n = .tok 8 (s.extract p n) false n := by
        unfold bareF; rw [if_neg hnum, if_neg hdec, if_neg nhex, if_neg nbin, if_neg nkey, if_pos ⟨hd, hp, ha⟩]
      by_cases h2 : 2 < (s.extract p n).size
      · exact tok hb (by omega) (bare_word_2 _ hxs w h0 (by rw [c0]; exact h58) (by rw [c0]; exact hd) n6 h2 (f1 h2) (f2 h2))
      · exact tok hb (by omega) (bare_word_1 _ hxs w h0 (by rw [c0]; exact h58) (by rw [c0]; exact hd) n6 (by omega))
    · have n6 : ¬ (0 < (s.extract p n).size ∧ allP (s.extract p n) bSimple 0 (s.extract p n).size) := fun h => ha (by rw [hz] at h; exact (all_ext (by omega) hn).1 h.2)
      have hb : bareF s p n = .err 62 := by
        unfold bareF; rw [if_neg hnum, if_neg hdec, if_neg nhex, if_neg nbin, if_neg nkey, if_neg (fun h => ha h.2.2)]
      by_cases h2 : 2 < (s.extract p n).size
      · exact err hb (bare_wordbad_2 _ hxs w h0 (by rw [c0]; exact h58) (by rw [c0]; exact hd) n6 h2 (f1 h2) (f2 h2))
      · exact err hb (bare_wordbad_1 _ hxs w h0 (by rw [c0]; exact h58) (by rw [c0]; exact hd) n6 (by omega))
end Go.Proofs.YtpkdiciinhjfjaaGreatDoor

/- lexis's reference: between. -/
namespace Go.Proofs.YtpkdiciinhjfjaaGreatDoor
open Go.RowKit Mth

/-- the answer of what reads a text or a symbol with bars -/
def BtO (w w' : World) (r : Res) (e : Ending) : Prop :=
  Below w.heap.size w w' ∧ ((∃ k t q n, r = .tok k t q n ∧ 0 < k ∧ e = .returned (.tuple #[tokV k t q 0 0, .int .i64 (n : Int)])) ∨ (r = .err 61 ∧ e = .returned (.tuple #[noTok, .int .i64 0])))
def QbR (s : ByteArray) (p : Nat) (t i : Value) : Prop := ∃ (k : Nat) (t0 : ByteArray), p + 1 ≤ k ∧ k ≤ s.size ∧ i = .int .i64 (k : Int) ∧ t = .string t0 ∧ t0.size ≤ k ∧ quF s (p + 1) ⟨#[]⟩ = quF s k t0
theorem qu_end {s : ByteArray} {t0 : ByteArray} : quF s s.size t0 = .err 61 := by rw [quF, if_neg (by omega)]
theorem qu_bad1 {s : ByteArray} {k : Nat} {t0 : ByteArray} (h : k < s.size) (h1 : cb s k ≠ 34) (h2 : bInner (cb s k) = false) : quF s k t0 = .err 61 := by rw [quF, if_pos h, if_neg h1, if_neg (by rw [h2]; simp)]
theorem qu_next {s : ByteArray} {k : Nat} {t0 : ByteArray} (h : k < s.size) (h1 : cb s k ≠ 34) (h2 : bInner (cb s k) = true) : quF s k t0 = quF s (k + 1) (t0 ++ s.extract k (k + 1)) := by rw [quF, if_pos h, if_neg h1, if_pos h2]
theorem app_size (a b : ByteArray) : (a ++ b).size = a.size + b.size := ByteArray.size_append
set_option maxHeartbeats 2000000 in
set_option maxRecDepth 100000 in
theorem between_qu (s : ByteArray) (p : Nat) (hp : p < s.size) (hs : s.size ≤ 1048576) (h34 : cb s p = 34) (w : World) :
    Calls Tryz.prog 56 #[.string s, .int .i64 (p : Int)] w fun e w' => BtO w w' (quF s (p + 1) ⟨#[]⟩) e := by
  have hbp := cb_at hp
  rw [h34] at hbp
  have BE := Lib.hid (Below.refl w.heap.size w)
  clear h34
  go_enter Tryz.func56, Tryz.ntmps56
  go_wp2
  go_loop [7, 8] (fun t i => QbR s p t i) (fun _ i => s.size - (intOf i).toNat)
  case atStart => exact ⟨p + 1, ⟨#[]⟩, by omega, by omega, by go_num, rfl, Nat.zero_le _, rfl⟩
  case round =>
    obtain ⟨k, t0, hpk, hk, rfl, rfl, ht0, hq⟩ := hrel
    have HQ := Lib.hid hq
    clear hq
    by_cases hlt : k < s.size
    · have hbk := cb_at hlt
      by_cases hb : cb s k = 34
      · have HB := Lib.hid hb
        rw [hb] at hbk
        clear hb
        by_cases h1 : k + 1 < s.size
        · have hbk1 := cb_at h1
          by_cases hb1 : cb s (k + 1) = 34
          · have HS := Lib.hid (HQ.out.trans (qu_two HB.out h1 hb1))
            rw [hb1] at hbk1
            have hsz : (t0 ++ (⟨#[34]⟩ : ByteArray)).size ≤ k + 2 := by rw [app_size]; show t0.size + 1 ≤ _; omega
            clear hb1
            go_wp2
            go_round
            case rel => exact ⟨k + 2, t0 ++ ⟨#[34]⟩, by omega, by omega, by go_num, rfl, hsz, HS.out⟩
            case measure => simp [intOf]; omega
          · have HS := Lib.hid (HQ.out.trans (qu_one HB.out hlt (fun x => hb1 x.2)))
            have e1 : ((cb s (k + 1) : Int) == 34) = false := ne_i (k := 34) hb1
            clear hb1
            go_wp2
            refine bodyPost_ret (results_tok rfl rfl rfl (heap_alloc_new _ _)) rfl ?_
            exact ⟨BE.out.alloc (Nat.le_refl _) _, .inl ⟨7, t0, false, k + 1, HS.out, by omega, rfl⟩⟩
        · have HS := Lib.hid (HQ.out.trans (qu_one HB.out hlt (fun x => h1 x.1)))
          go_wp2
          refine bodyPost_ret (results_tok rfl rfl rfl (heap_alloc_new _ _)) rfl ?_
          exact ⟨BE.out.alloc (Nat.le_refl _) _, .inl ⟨7, t0, false, k + 1, HS.out, by omega, rfl⟩⟩
      · have e0 : ((cb s k : Int) == 34) = false := ne_i (k := 34) hb
        have IT : Hid (∀ W, Calls Tryz.prog 42 #[.int .u8 ((cb s k : Nat) : Int)] W fun e w' => e = .returned (.bool (bInner (cb s k))) ∧ W = w') := Lib.hid (fun W => inner6_any _ (cb_lt s k) W)
        rcases Bool.eq_false_or_eq_true (bInner (cb s k)) with hi | hi
        · have HS := Lib.hid (HQ.out.trans (qu_next hlt hb hi))
          rw [hi] at IT
          have hsz : (t0 ++ s.extract k (k + 1)).size ≤ k + 1 := by rw [app_size, size_ext (by omega)]; omega
          have hsx : (s.extract k (k + 1)).size = 1 := by rw [size_ext (by omega)]; omega
          clear hi hb
          go_wp2_with (go_at_call 42; refine (IT.out _).mono ?_; rintro e w1 ⟨rfl, rfl⟩)
          go_round
          case rel => exact ⟨k + 1, t0 ++ s.extract k (k + 1), by omega, by omega, by go_num, rfl, hsz, HS.out⟩
          case measure => simp [intOf]; omega
        · have HS := Lib.hid (HQ.out.trans (qu_bad1 hlt hb hi))
          rw [hi] at IT
          clear hi hb
          go_wp2_with (go_at_call 42; refine (IT.out _).mono ?_; rintro e w1 ⟨rfl, rfl⟩)
          refine bodyPost_ret (results_tok rfl rfl rfl (heap_alloc_new _ _)) rfl ?_
          exact ⟨BE.out.alloc (Nat.le_refl _) _, .inr ⟨HS.out, rfl⟩⟩
    · obtain rfl : k = s.size := by omega
      have HS := Lib.hid (HQ.out.trans qu_end)
      go_wp2
      refine bodyPost_ret (results_tok rfl rfl rfl (heap_alloc_new _ _)) rfl ?_
      exact ⟨BE.out.alloc (Nat.le_refl _) _, .inr ⟨HS.out, rfl⟩⟩
def BbR (s : ByteArray) (p : Nat) (t i : Value) : Prop := ∃ (k : Nat), p + 1 ≤ k ∧ k ≤ s.size ∧ i = .int .i64 (k : Int) ∧ t = .string (s.extract (p + 1) k) ∧ baF s (p + 1) (p + 1) = baF s (p + 1) k
theorem ba_end {s : ByteArray} {a : Nat} : baF s a s.size = .err 61 := by rw [baF, if_neg (by omega)]
theorem ba_stop {s : ByteArray} {a k : Nat} (h : k < s.size) (h1 : cb s k = 124) : baF s a k = .tok 8 (s.extract a k) true (k + 1) := by rw [baF, if_pos h, if_pos h1]
theorem ba_bad1 {s : ByteArray} {a k : Nat} (h : k < s.size) (h1 : cb s k ≠ 124) (h2 : ¬ (bInner (cb s k) = true ∧ cb s k ≠ 92)) : baF s a k = .err 61 := by rw [baF, if_pos h, if_neg h1, if_neg h2]
theorem ba_next {s : ByteArray} {a k : Nat} (h : k < s.size) (h1 : cb s k ≠ 124) (h2 : bInner (cb s k) = true) (h3 : cb s k ≠ 92) : baF s a k = baF s a (k + 1) := by rw [baF, if_pos h, if_neg h1, if_pos ⟨h2, h3⟩]
set_option maxHeartbeats 2000000 in
set_option maxRecDepth 100000 in
theorem between_ba (s : ByteArray) (p : Nat) (hp : p < s.size) (hs : s.size ≤ 1048576) (h124 : cb s p = 124) (w : World) :
    Calls Tryz.prog 56 #[.string s, .int .i64 (p : Int)] w fun e w' => BtO w w' (baF s (p + 1) (p + 1)) e := by
  have hbp := cb_at hp
  rw [h124] at hbp
  have BE := Lib.hid (Below.refl w.heap.size w)
  have EMP := Lib.hid (ext_none s (p + 1))
  clear h124
  go_enter Tryz.func56, Tryz.ntmps56
  go_wp2
  go_loop [7, 8] (fun t i => BbR s p t i) (fun _ i => s.size - (intOf i).toNat)
  case atStart => exact ⟨p + 1, by omega, by omega, by go_num, by rw [EMP.out], rfl⟩
  case round =>
    obtain ⟨k, hpk, hk, rfl, rfl, hq⟩ := hrel
    have HQ := Lib.hid hq
    clear hq
    by_cases hlt : k < s.size
    · have hbk := cb_at hlt
      by_cases hb : cb s k = 124
      · have HS := Lib.hid (HQ.out.trans (ba_stop hlt hb))
        rw [hb] at hbk
        clear hb
        go_wp2
        refine bodyPost_ret (results_tok rfl rfl rfl (heap_alloc_new _ _)) rfl ?_
        exact ⟨BE.out.alloc (Nat.le_refl _) _, .inl ⟨8, s.extract (p + 1) k, true, k + 1, HS.out, by omega, rfl⟩⟩
      · have e0 : ((cb s k : Int) == 124) = false := ne_i (k := 124) hb
        have IT : Hid (∀ W, Calls Tryz.prog 42 #[.int .u8 ((cb s k : Nat) : Int)] W fun e w' => e = .returned (.bool (bInner (cb s k))) ∧ W = w') := Lib.hid (fun W => inner6_any _ (cb_lt s k) W)
        rcases Bool.eq_false_or_eq_true (bInner (cb s k)) with hi | hi
        · rw [hi] at IT
          by_cases h92 : cb s k = 92
          · have HS := Lib.hid (HQ.out.trans (ba_bad1 hlt hb (fun x => x.2 h92)))
            rw [h92] at hbk e0 IT
            clear hi hb h92
            go_wp2_with (go_at_call 42; refine (IT.out _).mono ?_; rintro e w1 ⟨rfl, rfl⟩)
            refine bodyPost_ret (results_tok rfl rfl rfl (heap_alloc_new _ _)) rfl ?_
            exact ⟨BE.out.alloc (Nat.le_refl _) _, .inr ⟨HS.out, rfl⟩⟩
          · have HS := Lib.hid (HQ.out.trans (ba_next hlt hb hi h92))
            have e92 : ((cb s k : Int) == 92) = false := ne_i (k := 92) h92
            have hsz : (s.extract (p + 1) k).size ≤ k := by rw [size_ext (by omega)]; omega
            have hsx : (s.extract k (k + 1)).size = 1 := by rw [size_ext (by omega)]; omega
            have HAP := Lib.hid (ext_split (s := s) (a := p + 1) (b := k) (c := k + 1) hpk (by omega))
            clear hi hb h92
            go_wp2_with (go_at_call 42; refine (IT.out _).mono ?_; rintro e w1 ⟨rfl, rfl⟩)
            go_round
            case rel => exact ⟨k + 1, by omega, by omega, by go_num, by first | rw [HAP.out] | rfl, HS.out⟩
            case measure => simp [intOf]; omega
        · have HS := Lib.hid (HQ.out.trans (ba_bad1 hlt hb (fun x => by rw [hi] at x; cases x.1)))
          rw [hi] at IT
          clear hi hb
          go_wp2_with (go_at_call 42; refine (IT.out _).mono ?_; rintro e w1 ⟨rfl, rfl⟩)
          refine bodyPost_ret (results_tok rfl rfl rfl (heap_alloc_new _ _)) rfl ?_
          exact ⟨BE.out.alloc (Nat.le_refl _) _, .inr ⟨HS.out, rfl⟩⟩
    · obtain rfl : k = s.size := by omega
      have HS := Lib.hid (HQ.out.trans ba_end)
      go_wp2
      refine bodyPost_ret (results_tok rfl rfl rfl (heap_alloc_new _ _)) rfl ?_
      exact ⟨BE.out.alloc (Nat.le_refl _) _, .inr ⟨HS.out, rfl⟩⟩
end Go.Proofs.YtpkdiciinhjfjaaGreatDoor

/- lexis's reference: one. -/
namespace Go.Proofs.YtpkdiciinhjfjaaGreatDoor
open Go.RowKit Mth

/-- the answer of what reads one token -/
def OneO (w w' : World) (r : Res) (e : Ending) : Prop :=
  Below w.heap.size w w' ∧ ((∃ k t q n, r = .tok k t q n ∧ e = .returned (.tuple #[tokV k t q 0 0, .int .i64 (n : Int), .int .i64 0])) ∨ (∃ E : Nat, r = .err E ∧ E ≠ 0 ∧ e = .returned (.tuple #[noTok, .int .i64 0, .int .i64 (E : Int)])))
set_option maxRecDepth 100000 in
/-- a token, a place and an error come back: the token out of a block -/
theorem results_tok3 {fn : Func} {t u x : Tmp} {tmps : Array Value} {b : Nat} {v0 v1 v2 v3 v4 v5 v6 : Value} {T : TypeId} {W : World} (h : fn.results = #[.cell t 37, .tmp u, .tmp x])
    (h1 : tmps.getD t undef = .pointer (some ⟨b, 0, none⟩)) (h2 : tmps.getD u undef = v5) (h4 : tmps.getD x undef = v6) (h3 : W.heap[b]? = some (.cells #[v0, v1, v2, v3, v4] T (0, 0))) :
    (results fn tmps).run Tryz.prog W = .ok (.tuple #[.agg #[v0, v1, v2, v3, v4], v5, v6]) W := by
  obtain ⟨c0, c1, c2, c3, c4⟩ := blk5 h3
  rw [Array.getD_eq_getD_getElem?] at h1 h2 h4
  simp [results, h, h1, h2, h4, go_sem, c0, c1, c2, c3, c4]
theorem below_set5 {w w2 : World} {v0 v1 v2 v3 v4 : Value} {b : Nat} (h : Below w.heap.size w w2) (hb : w.heap.size ≤ b) :
    Below w.heap.size w (((((w2.setCell ⟨b, 0, none⟩ v0).setCell ⟨b, 1, none⟩ v1).setCell ⟨b, 2, none⟩ v2).setCell ⟨b, 3, none⟩ v3).setCell ⟨b, 4, none⟩ v4) :=
  ((((h.setCell hb _).setCell hb _).setCell hb _).setCell hb _).setCell hb _
def EaR (s : ByteArray) (p : Nat) (i : Value) : Prop := ∃ k : Nat, p ≤ k ∧ k ≤ s.size ∧ i = .int .i64 (k : Int) ∧ endAt s p = endAt s k
theorem end_next {s : ByteArray} {k : Nat} (h : k < s.size) (he : bEnd (cb s k) = false) : endAt s k = endAt s (k + 1) := by rw [endAt, if_pos h, if_neg (by rw [he]; simp)]
theorem end_here {s : ByteArray} {k : Nat} (h : k = s.size ∨ bEnd (cb s k) = true) : endAt s k = k := by
  rw [endAt]
  rcases h with h | h
  · rw [if_neg (by omega)]
  · split
    · simp
    · rfl
abbrev ZT : Obj := .cells #[.int .i64 0, .string ⟨#[]⟩, .bool false, .int .i64 0, .int .i64 0] 37
set_option maxHeartbeats 1000000 in
set_option maxRecDepth 100000 in
theorem one_bar (s : ByteArray) (p : Nat) (hp : p < s.size) (hs : s.size ≤ 1048576) (w : World) (c : Nat) (hc : cb s p = c) (h34 : c = 34 ∨ c = 124) (r : Res) (hr : oneF s p = r)
    (BT : ∀ W, Calls Tryz.prog 56 #[.string s, .int .i64 (p : Int)] W fun e w' => BtO W w' r e) :
    Calls Tryz.prog 44 #[.string s, .int .i64 (p : Int)] w fun e w' => OneO w w' r e := by
  have hbp := cb_at hp
  rw [hc] at hbp
  have HBT := Lib.hid BT
  have BE := Lib.hid (Below.refl w.heap.size w)
  have HBK : Hid (∀ w1, Below (w.alloc ZT).heap.size (w.alloc ZT) w1 → Blk w1 w.heap.size) := Lib.hid (fun w1 h => (h.block _ (by simp)).trans (heap_alloc_new w ZT))
  have HBL : Hid (∀ w1, Below (w.alloc ZT).heap.size (w.alloc ZT) w1 → ∀ o, Below w.heap.size w (w1.alloc o)) := Lib.hid (fun w1 h o => ((BE.out.alloc (Nat.le_refl _) _).trans (h.mono (by simp))).alloc (by have := h.size; simp at this; omega) o)
  have HBV : Hid (∀ w1, Below (w.alloc ZT).heap.size (w.alloc ZT) w1 → ∀ o, Blk (w1.alloc o) w.heap.size ∧ w.heap.size < w1.heap.size) := Lib.hid (fun w1 h o => by
    have hk : Blk w1 w.heap.size := (h.block _ (by simp)).trans (heap_alloc_new w ZT)
    have hl : w.heap.size < w1.heap.size := (Array.getElem?_eq_some_iff.1 hk).1
    exact ⟨(Below.heap_alloc w1 o _ hl).trans hk, hl⟩)
  clear hc BT
  rcases h34 with rfl | rfl
  all_goals (
    go_enter Tryz.func44, Tryz.ntmps44
    go_wp2_with fail
    refine (HBT.out _).mono ?_
    rintro e w1 ⟨hb, (⟨k, t, q, n, hr1, hk, rfl⟩ | ⟨hr1, rfl⟩)⟩
    · have HB := Lib.hid hb
      have HB1 := Lib.hid (HBK.out _ hb)
      obtain ⟨⟨k0, k1, k2, k3, k4⟩, j0, j1, j2, j3, j4⟩ := Blk.all HB1.out
      have hk0 : ((k : Int) == 0) = false := ne_i (k := 0) (by omega)
      have hlt := (HBV.out _ hb (.cells #[] 0)).2
      have HR1 := Lib.hid hr1
      clear hb hr1 hr hk
      unfold tokV
      go_wp2
      refine bodyPost_ret (results_tok3 rfl rfl rfl rfl ((Below.heap_alloc _ _ _ (by simpa [World.setCell] using hlt)).trans (heap_set5 HB1.out))) rfl ?_
      exact ⟨(below_set5 ((BE.out.alloc (Nat.le_refl _) _).trans (HB.out.mono (by simp))) (Nat.le_refl _)).alloc (by simp [World.setCell]; omega) _, .inl ⟨k, t, q, n, HR1.out, rfl⟩⟩
    · have HB := Lib.hid hb
      have HB1 := Lib.hid (HBK.out _ hb)
      obtain ⟨⟨k0, k1, k2, k3, k4⟩, j0, j1, j2, j3, j4⟩ := Blk.all HB1.out
      have hlt := (HBV.out _ hb (.cells #[] 0)).2
      have HR1 := Lib.hid hr1
      clear hb hr1 hr
      unfold noTok tokV
      go_wp2
      refine bodyPost_ret (results_tok3 rfl rfl rfl rfl ((Below.heap_alloc _ _ _ (by simpa [World.setCell] using hlt)).trans (heap_set5 HB1.out))) rfl ?_
      exact ⟨(below_set5 ((BE.out.alloc (Nat.le_refl _) _).trans (HB.out.mono (by simp))) (Nat.le_refl _)).alloc (by simp [World.setCell]; omega) _, .inr ⟨61, HR1.out, by omega, rfl⟩⟩)
set_option maxHeartbeats 1000000 in
set_option maxRecDepth 100000 in
theorem one_par6 (s : ByteArray) (p : Nat) (hp : p < s.size) (hs : s.size ≤ 1048576) (w : World) (hc : cb s p = 40 ∨ cb s p = 41) :
    Calls Tryz.prog 44 #[.string s, .int .i64 (p : Int)] w fun e w' => OneO w w' (oneF s p) e := by
  have hbp := cb_at hp
  have BE := Lib.hid (Below.refl w.heap.size w)
  rcases hc with hc | hc
  · have HX := Lib.hid (one_op hc)
    rw [hc] at hbp
    clear hc
    go_enter Tryz.func44, Tryz.ntmps44
    go_wp2
    refine bodyPost_ret (results_tok3 rfl rfl rfl rfl (heap_alloc_new _ _)) rfl ?_
    exact ⟨BE.out.alloc (Nat.le_refl _) _, .inl ⟨1, _, _, _, HX.out, rfl⟩⟩
  · have HX := Lib.hid (one_cl hc)
    rw [hc] at hbp
    clear hc
    go_enter Tryz.func44, Tryz.ntmps44
    go_wp2
    refine bodyPost_ret (results_tok3 rfl rfl rfl rfl (heap_alloc_new _ _)) rfl ?_
    exact ⟨BE.out.alloc (Nat.le_refl _) _, .inl ⟨2, _, _, _, HX.out, rfl⟩⟩
theorem one_none {s : ByteArray} {p : Nat} (h : cb s p ≠ 40 ∧ cb s p ≠ 41 ∧ cb s p ≠ 34 ∧ cb s p ≠ 124 ∧ cb s p ≠ 35 ∧ cb s p ≠ 58 ∧ bSimple (cb s p) = false) : oneF s p = .err 60 := by
  obtain ⟨h1, h2, h3, h4, h5, h6, h7⟩ := h
  unfold oneF; rw [if_neg h1, if_neg h2, if_neg h3, if_neg h4, if_pos ⟨h5, h6, h7⟩]
theorem one_bare {s : ByteArray} {p : Nat} (h : cb s p ≠ 40 ∧ cb s p ≠ 41 ∧ cb s p ≠ 34 ∧ cb s p ≠ 124) (h5 : cb s p = 35 ∨ cb s p = 58 ∨ bSimple (cb s p) = true) : oneF s p = bareF s p (endAt s p) := by
  obtain ⟨h1, h2, h3, h4⟩ := h
  unfold oneF; rw [if_neg h1, if_neg h2, if_neg h3, if_neg h4, if_neg (fun x => by
    rcases h5 with h | h | h
    · exact x.1 h
    · exact x.2.1 h
    · rw [x.2.2] at h; cases h)]
set_option maxHeartbeats 1000000 in
set_option maxRecDepth 100000 in
theorem one_none6 (s : ByteArray) (p : Nat) (hp : p < s.size) (hs : s.size ≤ 1048576) (w : World) (h : cb s p ≠ 40 ∧ cb s p ≠ 41 ∧ cb s p ≠ 34 ∧ cb s p ≠ 124 ∧ cb s p ≠ 35 ∧ cb s p ≠ 58 ∧ bSimple (cb s p) = false) :
    Calls Tryz.prog 44 #[.string s, .int .i64 (p : Int)] w fun e w' => OneO w w' (oneF s p) e := by
  have hbp := cb_at hp
  have BE := Lib.hid (Below.refl w.heap.size w)
  have HX := Lib.hid (one_none h)
  obtain ⟨h1, h2, h3, h4, h5, h6, h7⟩ := h
  have SB : Hid (∀ W, Calls Tryz.prog 57 #[.int .u8 ((cb s p : Nat) : Int)] W fun e w' => e = .returned (.bool false) ∧ W = w') := Lib.hid (fun W => (simple4_any _ (cb_lt s p) W).mono fun e w' ⟨x, y⟩ => ⟨by rw [x, h7], y⟩)
  have e1 : ((cb s p : Int) == 40) = false := ne_i (k := 40) h1
  have e2 : ((cb s p : Int) == 41) = false := ne_i (k := 41) h2
  have e3 : ((cb s p : Int) == 34) = false := ne_i (k := 34) h3
  have e4 : ((cb s p : Int) == 124) = false := ne_i (k := 124) h4
  have e5 : ((cb s p : Int) != 35) = true := by rw [bne_iff_ne]; omega
  have e6 : ((cb s p : Int) != 58) = true := by rw [bne_iff_ne]; omega
  clear h1 h2 h3 h4 h5 h6 h7
  go_enter Tryz.func44, Tryz.ntmps44
  go_wp2_with (go_at_call 57; refine (SB.out _).mono ?_; rintro e w1 ⟨rfl, rfl⟩)
  refine bodyPost_ret (results_tok3 rfl rfl rfl rfl (heap_alloc_new _ _)) rfl ?_
  exact ⟨BE.out.alloc (Nat.le_refl _) _, .inr ⟨60, HX.out, by omega, rfl⟩⟩
set_option maxHeartbeats 2000000 in
set_option maxRecDepth 100000 in
theorem one_bare6 (s : ByteArray) (p : Nat) (hp : p < s.size) (hs : s.size ≤ 1048576) (w : World) (h : cb s p ≠ 40 ∧ cb s p ≠ 41 ∧ cb s p ≠ 34 ∧ cb s p ≠ 124) (h5 : cb s p = 35 ∨ cb s p = 58 ∨ (cb s p ≠ 35 ∧ cb s p ≠ 58 ∧ bSimple (cb s p) = true)) :
    Calls Tryz.prog 44 #[.string s, .int .i64 (p : Int)] w fun e w' => OneO w w' (oneF s p) e := by
  have hbp := cb_at hp
  have BE := Lib.hid (Below.refl w.heap.size w)
  have HO := Lib.hid (one_bare (s := s) (p := p) h (by rcases h5 with h | h | h; exact .inl h; exact .inr (.inl h); exact .inr (.inr h.2.2)))
  have HNE : Hid (bEnd (cb s p) = false) := Lib.hid (by
    rcases h5 with h | h | h
    · rw [h]; rfl
    · rw [h]; rfl
    · exact simple_not_end h.2.2)
  have HBK : Hid (∀ w1, Below (w.alloc ZT).heap.size (w.alloc ZT) w1 → Blk w1 w.heap.size) := Lib.hid (fun w1 h => (h.block _ (by simp)).trans (heap_alloc_new w ZT))
  have HBV : Hid (∀ w1, Below (w.alloc ZT).heap.size (w.alloc ZT) w1 → ∀ o, Blk (w1.alloc o) w.heap.size ∧ w.heap.size < w1.heap.size) := Lib.hid (fun w1 h o => by
    have hk : Blk w1 w.heap.size := (h.block _ (by simp)).trans (heap_alloc_new w ZT)
    have hl : w.heap.size < w1.heap.size := (Array.getElem?_eq_some_iff.1 hk).1
    exact ⟨(Below.heap_alloc w1 o _ hl).trans hk, hl⟩)
  obtain ⟨h1, h2, h3, h4⟩ := h
  have SB : Hid (bSimple (cb s p) = true → ∀ W, Calls Tryz.prog 57 #[.int .u8 ((cb s p : Nat) : Int)] W fun e w' => e = .returned (.bool true) ∧ W = w') := Lib.hid (fun h W => (simple4_any _ (cb_lt s p) W).mono fun e w' ⟨x, y⟩ => ⟨by rw [x, h], y⟩)
  have e1 : ((cb s p : Int) == 40) = false := ne_i (k := 40) h1
  have e2 : ((cb s p : Int) == 41) = false := ne_i (k := 41) h2
  have e3 : ((cb s p : Int) == 34) = false := ne_i (k := 34) h3
  have e4 : ((cb s p : Int) == 124) = false := ne_i (k := 124) h4
  clear h1 h2 h3 h4
  rcases h5 with h5 | h5 | ⟨h5, h6, h7⟩
  · rw [h5] at hbp
    clear h5 e1 e2 e3 e4 SB
    go_enter Tryz.func44, Tryz.ntmps44
    go_wp2_with (go_at_call 57; refine (SB.out _).mono ?_; rintro e w1 ⟨rfl, rfl⟩)
    go_loop [10] (fun i => EaR s p i) (fun i => s.size - (intOf i).toNat)
    case atStart => exact ⟨p, Nat.le_refl _, by omega, rfl, rfl⟩
    case round =>
      obtain ⟨k, hpk, hk, rfl, he⟩ := hrel
      have HE := Lib.hid he
      clear he
      by_cases hlt : k < s.size
      · have hbk := cb_at hlt
        have EN : Hid (∀ W, Calls Tryz.prog 58 #[.int .u8 ((cb s k : Nat) : Int)] W fun e w' => e = .returned (.bool (bEnd (cb s k))) ∧ W = w') := Lib.hid (fun W => ends6_any _ (cb_lt s k) W)
        rcases Bool.eq_false_or_eq_true (bEnd (cb s k)) with hb | hb
        · rw [hb] at EN
          have HEA : Hid (endAt s p = k) := Lib.hid (HE.out.trans (end_here (.inr hb)))
          have hpk1 : p < k := by
            have h1 := end_next hp HNE.out
            have h2 := (endAt_spec (s := s) s.size (p := p + 1) (by omega) (by omega)).1
            have h3 := HEA.out
            omega
          have BR : Hid (∀ W, Calls Tryz.prog 59 #[.string (s.extract p k)] W fun e w' => BareO W w' (bareF s p k) k e) := Lib.hid (fun W => bare_any s p k hpk1 hk hs W)
          have HOB : Hid (oneF s p = bareF s p k) := Lib.hid (by rw [HO.out, HEA.out])
          clear hb
          go_wp2_with (go_at_call 58; refine (EN.out _).mono ?_; rintro e w1 ⟨rfl, rfl⟩)
          refine (BR.out _).mono ?_
          rintro e w1 ⟨hb, (⟨kk, t, hr1, hk0', rfl⟩ | ⟨hr1, rfl⟩)⟩
          · have HB := Lib.hid hb
            have HB1 := Lib.hid (HBK.out _ hb)
            obtain ⟨⟨k0, k1, k2, k3, k4⟩, j0, j1, j2, j3, j4⟩ := Blk.all HB1.out
            have hk0 : ((kk : Int) == 0) = false := ne_i (k := 0) (by omega)
            have hlt2 := (HBV.out _ hb (.cells #[] 0)).2
            have HR1 := Lib.hid (HOB.out.trans hr1)
            clear hb hr1
            unfold tokV
            go_wp2
            refine bodyPost_ret (results_tok3 rfl rfl rfl rfl ((Below.heap_alloc _ _ _ (by simpa [World.setCell] using hlt2)).trans (heap_set5 HB1.out))) rfl ?_
            exact ⟨(below_set5 ((BE.out.alloc (Nat.le_refl _) _).trans (HB.out.mono (by simp))) (Nat.le_refl _)).alloc (by simp [World.setCell]; omega) _, .inl ⟨kk, t, false, k, HR1.out, rfl⟩⟩
          · have HB := Lib.hid hb
            have HB1 := Lib.hid (HBK.out _ hb)
            obtain ⟨⟨k0, k1, k2, k3, k4⟩, j0, j1, j2, j3, j4⟩ := Blk.all HB1.out
            have hlt2 := (HBV.out _ hb (.cells #[] 0)).2
            have HR1 := Lib.hid (HOB.out.trans hr1)
            clear hb hr1
            unfold noTok tokV
            go_wp2
            refine bodyPost_ret (results_tok3 rfl rfl rfl rfl ((Below.heap_alloc _ _ _ (by simpa [World.setCell] using hlt2)).trans (heap_set5 HB1.out))) rfl ?_
            exact ⟨(below_set5 ((BE.out.alloc (Nat.le_refl _) _).trans (HB.out.mono (by simp))) (Nat.le_refl _)).alloc (by simp [World.setCell]; omega) _, .inr ⟨62, HR1.out, by omega, rfl⟩⟩
        · have HS := Lib.hid (HE.out.trans (end_next hlt hb))
          rw [hb] at EN
          clear hb
          go_wp2_with (go_at_call 58; refine (EN.out _).mono ?_; rintro e w1 ⟨rfl, rfl⟩)
          go_round
          case rel => exact ⟨k + 1, by omega, by omega, rfl, HS.out⟩
          case measure => simp [intOf]; omega
      · obtain rfl : k = s.size := by omega
        by_cases hx : True
        · clear hx
          have HEA : Hid (endAt s p = s.size) := Lib.hid (HE.out.trans (end_here (.inl rfl)))
          have hpk1 : p < s.size := by
            have h1 := end_next hp HNE.out
            have h2 := (endAt_spec (s := s) s.size (p := p + 1) (by omega) (by omega)).1
            have h3 := HEA.out
            omega
          have BR : Hid (∀ W, Calls Tryz.prog 59 #[.string (s.extract p s.size)] W fun e w' => BareO W w' (bareF s p s.size) s.size e) := Lib.hid (fun W => bare_any s p s.size hpk1 hk hs W)
          have HOB : Hid (oneF s p = bareF s p s.size) := Lib.hid (by rw [HO.out, HEA.out])
          go_wp2_with fail
          refine (BR.out _).mono ?_
          rintro e w1 ⟨hb, (⟨kk, t, hr1, hk0', rfl⟩ | ⟨hr1, rfl⟩)⟩
          · have HB := Lib.hid hb
            have HB1 := Lib.hid (HBK.out _ hb)
            obtain ⟨⟨k0, k1, k2, k3, k4⟩, j0, j1, j2, j3, j4⟩ := Blk.all HB1.out
            have hk0 : ((kk : Int) == 0) = false := ne_i (k := 0) (by omega)
            have hlt2 := (HBV.out _ hb (.cells #[] 0)).2
            have HR1 := Lib.hid (HOB.out.trans hr1)
            clear hb hr1
            unfold tokV
            go_wp2
            refine bodyPost_ret (results_tok3 rfl rfl rfl rfl ((Below.heap_alloc _ _ _ (by simpa [World.setCell] using hlt2)).trans (heap_set5 HB1.out))) rfl ?_
            exact ⟨(below_set5 ((BE.out.alloc (Nat.le_refl _) _).trans (HB.out.mono (by simp))) (Nat.le_refl _)).alloc (by simp [World.setCell]; omega) _, .inl ⟨kk, t, false, s.size, HR1.out, rfl⟩⟩
          · have HB := Lib.hid hb
            have HB1 := Lib.hid (HBK.out _ hb)
            obtain ⟨⟨k0, k1, k2, k3, k4⟩, j0, j1, j2, j3, j4⟩ := Blk.all HB1.out
            have hlt2 := (HBV.out _ hb (.cells #[] 0)).2
            have HR1 := Lib.hid (HOB.out.trans hr1)
            clear hb hr1
            unfold noTok tokV
            go_wp2
            refine bodyPost_ret (results_tok3 rfl rfl rfl rfl ((Below.heap_alloc _ _ _ (by simpa [World.setCell] using hlt2)).trans (heap_set5 HB1.out))) rfl ?_
            exact ⟨(below_set5 ((BE.out.alloc (Nat.le_refl _) _).trans (HB.out.mono (by simp))) (Nat.le_refl _)).alloc (by simp [World.setCell]; omega) _, .inr ⟨62, HR1.out, by omega, rfl⟩⟩
        · exact absurd True.intro hx
  · rw [h5] at hbp
    clear h5 e1 e2 e3 e4 SB
    go_enter Tryz.func44, Tryz.ntmps44
    go_wp2_with (go_at_call 57; refine (SB.out _).mono ?_; rintro e w1 ⟨rfl, rfl⟩)
    go_loop [10] (fun i => EaR s p i) (fun i => s.size - (intOf i).toNat)
    case atStart => exact ⟨p, Nat.le_refl _, by omega, rfl, rfl⟩
    case round =>
      obtain ⟨k, hpk, hk, rfl, he⟩ := hrel
      have HE := Lib.hid he
      clear he
      by_cases hlt : k < s.size
      · have hbk := cb_at hlt
        have EN : Hid (∀ W, Calls Tryz.prog 58 #[.int .u8 ((cb s k : Nat) : Int)] W fun e w' => e = .returned (.bool (bEnd (cb s k))) ∧ W = w') := Lib.hid (fun W => ends6_any _ (cb_lt s k) W)
        rcases Bool.eq_false_or_eq_true (bEnd (cb s k)) with hb | hb
        · rw [hb] at EN
          have HEA : Hid (endAt s p = k) := Lib.hid (HE.out.trans (end_here (.inr hb)))
          have hpk1 : p < k := by
            have h1 := end_next hp HNE.out
            have h2 := (endAt_spec (s := s) s.size (p := p + 1) (by omega) (by omega)).1
            have h3 := HEA.out
            omega
          have BR : Hid (∀ W, Calls Tryz.prog 59 #[.string (s.extract p k)] W fun e w' => BareO W w' (bareF s p k) k e) := Lib.hid (fun W => bare_any s p k hpk1 hk hs W)
          have HOB : Hid (oneF s p = bareF s p k) := Lib.hid (by rw [HO.out, HEA.out])
          clear hb
          go_wp2_with (go_at_call 58; refine (EN.out _).mono ?_; rintro e w1 ⟨rfl, rfl⟩)
          refine (BR.out _).mono ?_
          rintro e w1 ⟨hb, (⟨kk, t, hr1, hk0', rfl⟩ | ⟨hr1, rfl⟩)⟩
          · have HB := Lib.hid hb
            have HB1 := Lib.hid (HBK.out _ hb)
            obtain ⟨⟨k0, k1, k2, k3, k4⟩, j0, j1, j2, j3, j4⟩ := Blk.all HB1.out
            have hk0 : ((kk : Int) == 0) = false := ne_i (k := 0) (by omega)
            have hlt2 := (HBV.out _ hb (.cells #[] 0)).2
            have HR1 := Lib.hid (HOB.out.trans hr1)
            clear hb hr1
            unfold tokV
            go_wp2
            refine bodyPost_ret (results_tok3 rfl rfl rfl rfl ((Below.heap_alloc _ _ _ (by simpa [World.setCell] using hlt2)).trans (heap_set5 HB1.out))) rfl ?_
            exact ⟨(below_set5 ((BE.out.alloc (Nat.le_refl _) _).trans (HB.out.mono (by simp))) (Nat.le_refl _)).alloc (by simp [World.setCell]; omega) _, .inl ⟨kk, t, false, k, HR1.out, rfl⟩⟩
          · have HB := Lib.hid hb
            have HB1 := Lib.hid (HBK.out _ hb)
            obtain ⟨⟨k0, k1, k2, k3, k4⟩, j0, j1, j2, j3, j4⟩ := Blk.all HB1.out
            have hlt2 := (HBV.out _ hb (.cells #[] 0)).2
            have HR1 := Lib.hid (HOB.out.trans hr1)
            clear hb hr1
            unfold noTok tokV
            go_wp2
            refine bodyPost_ret (results_tok3 rfl rfl rfl rfl ((Below.heap_alloc _ _ _ (by simpa [World.setCell] using hlt2)).trans (heap_set5 HB1.out))) rfl ?_
            exact ⟨(below_set5 ((BE.out.alloc (Nat.le_refl _) _).trans (HB.out.mono (by simp))) (Nat.le_refl _)).alloc (by simp [World.setCell]; omega) _, .inr ⟨62, HR1.out, by omega, rfl⟩⟩
        · have HS := Lib.hid (HE.out.trans (end_next hlt hb))
          rw [hb] at EN
          clear hb
          go_wp2_with (go_at_call 58; refine (EN.out _).mono ?_; rintro e w1 ⟨rfl, rfl⟩)
          go_round
          case rel => exact ⟨k + 1, by omega, by omega, rfl, HS.out⟩
          case measure => simp [intOf]; omega
      · obtain rfl : k = s.size := by omega
        by_cases hx : True
        · clear hx
          have HEA : Hid (endAt s p = s.size) := Lib.hid (HE.out.trans (end_here (.inl rfl)))
          have hpk1 : p < s.size := by
            have h1 := end_next hp HNE.out
            have h2 := (endAt_spec (s := s) s.size (p := p + 1) (by omega) (by omega)).1
            have h3 := HEA.out
            omega
          have BR : Hid (∀ W, Calls Tryz.prog 59 #[.string (s.extract p s.size)] W fun e w' => BareO W w' (bareF s p s.size) s.size e) := Lib.hid (fun W => bare_any s p s.size hpk1 hk hs W)
          have HOB : Hid (oneF s p = bareF s p s.size) := Lib.hid (by rw [HO.out, HEA.out])
          go_wp2_with fail
          refine (BR.out _).mono ?_
          rintro e w1 ⟨hb, (⟨kk, t, hr1, hk0', rfl⟩ | ⟨hr1, rfl⟩)⟩
          · have HB := Lib.hid hb
            have HB1 := Lib.hid (HBK.out _ hb)
            obtain ⟨⟨k0, k1, k2, k3, k4⟩, j0, j1, j2, j3, j4⟩ := Blk.all HB1.out
            have hk0 : ((kk : Int) == 0) = false := ne_i (k := 0) (by omega)
            have hlt2 := (HBV.out _ hb (.cells #[] 0)).2
            have HR1 := Lib.hid (HOB.out.trans hr1)
            clear hb hr1
            unfold tokV
            go_wp2
            refine bodyPost_ret (results_tok3 rfl rfl rfl rfl ((Below.heap_alloc _ _ _ (by simpa [World.setCell] using hlt2)).trans (heap_set5 HB1.out))) rfl ?_
            exact ⟨(below_set5 ((BE.out.alloc (Nat.le_refl _) _).trans (HB.out.mono (by simp))) (Nat.le_refl _)).alloc (by simp [World.setCell]; omega) _, .inl ⟨kk, t, false, s.size, HR1.out, rfl⟩⟩
          · have HB := Lib.hid hb
            have HB1 := Lib.hid (HBK.out _ hb)
            obtain ⟨⟨k0, k1, k2, k3, k4⟩, j0, j1, j2, j3, j4⟩ := Blk.all HB1.out
            have hlt2 := (HBV.out _ hb (.cells #[] 0)).2
            have HR1 := Lib.hid (HOB.out.trans hr1)
            clear hb hr1
            unfold noTok tokV
            go_wp2
            refine bodyPost_ret (results_tok3 rfl rfl rfl rfl ((Below.heap_alloc _ _ _ (by simpa [World.setCell] using hlt2)).trans (heap_set5 HB1.out))) rfl ?_
            exact ⟨(below_set5 ((BE.out.alloc (Nat.le_refl _) _).trans (HB.out.mono (by simp))) (Nat.le_refl _)).alloc (by simp [World.setCell]; omega) _, .inr ⟨62, HR1.out, by omega, rfl⟩⟩
        · exact absurd True.intro hx
  · have e5 : ((cb s p : Int) != 35) = true := by rw [bne_iff_ne]; omega
    have e6 : ((cb s p : Int) != 58) = true := by rw [bne_iff_ne]; omega
    replace SB := Lib.hid (SB.out h7)
    clear h5 h6 h7
    go_enter Tryz.func44, Tryz.ntmps44
    go_wp2_with (go_at_call 57; refine (SB.out _).mono ?_; rintro e w1 ⟨rfl, rfl⟩)
    go_loop [10] (fun i => EaR s p i) (fun i => s.size - (intOf i).toNat)
    case atStart => exact ⟨p, Nat.le_refl _, by omega, rfl, rfl⟩
    case round =>
      obtain ⟨k, hpk, hk, rfl, he⟩ := hrel
      have HE := Lib.hid he
      clear he
      by_cases hlt : k < s.size
      · have hbk := cb_at hlt
        have EN : Hid (∀ W, Calls Tryz.prog 58 #[.int .u8 ((cb s k : Nat) : Int)] W fun e w' => e = .returned (.bool (bEnd (cb s k))) ∧ W = w') := Lib.hid (fun W => ends6_any _ (cb_lt s k) W)
        rcases Bool.eq_false_or_eq_true (bEnd (cb s k)) with hb | hb
        · rw [hb] at EN
          have HEA : Hid (endAt s p = k) := Lib.hid (HE.out.trans (end_here (.inr hb)))
          have hpk1 : p < k := by
            have h1 := end_next hp HNE.out
            have h2 := (endAt_spec (s := s) s.size (p := p + 1) (by omega) (by omega)).1
            have h3 := HEA.out
            omega
          have BR : Hid (∀ W, Calls Tryz.prog 59 #[.string (s.extract p k)] W fun e w' => BareO W w' (bareF s p k) k e) := Lib.hid (fun W => bare_any s p k hpk1 hk hs W)
          have HOB : Hid (oneF s p = bareF s p k) := Lib.hid (by rw [HO.out, HEA.out])
          clear hb
          go_wp2_with (go_at_call 58; refine (EN.out _).mono ?_; rintro e w1 ⟨rfl, rfl⟩)
          refine (BR.out _).mono ?_
          rintro e w1 ⟨hb, (⟨kk, t, hr1, hk0', rfl⟩ | ⟨hr1, rfl⟩)⟩
          · have HB := Lib.hid hb
            have HB1 := Lib.hid (HBK.out _ hb)
            obtain ⟨⟨k0, k1, k2, k3, k4⟩, j0, j1, j2, j3, j4⟩ := Blk.all HB1.out
            have hk0 : ((kk : Int) == 0) = false := ne_i (k := 0) (by omega)
            have hlt2 := (HBV.out _ hb (.cells #[] 0)).2
            have HR1 := Lib.hid (HOB.out.trans hr1)
            clear hb hr1
            unfold tokV
            go_wp2
            refine bodyPost_ret (results_tok3 rfl rfl rfl rfl ((Below.heap_alloc _ _ _ (by simpa [World.setCell] using hlt2)).trans (heap_set5 HB1.out))) rfl ?_
            exact ⟨(below_set5 ((BE.out.alloc (Nat.le_refl _) _).trans (HB.out.mono (by simp))) (Nat.le_refl _)).alloc (by simp [World.setCell]; omega) _, .inl ⟨kk, t, false, k, HR1.out, rfl⟩⟩
          · have HB := Lib.hid hb
            have HB1 := Lib.hid (HBK.out _ hb)
            obtain ⟨⟨k0, k1, k2, k3, k4⟩, j0, j1, j2, j3, j4⟩ := Blk.all HB1.out
            have hlt2 := (HBV.out _ hb (.cells #[] 0)).2
            have HR1 := Lib.hid (HOB.out.trans hr1)
            clear hb hr1
            unfold noTok tokV
            go_wp2
            refine bodyPost_ret (results_tok3 rfl rfl rfl rfl ((Below.heap_alloc _ _ _ (by simpa [World.setCell] using hlt2)).trans (heap_set5 HB1.out))) rfl ?_
            exact ⟨(below_set5 ((BE.out.alloc (Nat.le_refl _) _).trans (HB.out.mono (by simp))) (Nat.le_refl _)).alloc (by simp [World.setCell]; omega) _, .inr ⟨62, HR1.out, by omega, rfl⟩⟩
        · have HS := Lib.hid (HE.out.trans (end_next hlt hb))
          rw [hb] at EN
          clear hb
          go_wp2_with (go_at_call 58; refine (EN.out _).mono ?_; rintro e w1 ⟨rfl, rfl⟩)
          go_round
          case rel => exact ⟨k + 1, by omega, by omega, rfl, HS.out⟩
          case measure => simp [intOf]; omega
      · obtain rfl : k = s.size := by omega
        by_cases hx : True
        · clear hx
          have HEA : Hid (endAt s p = s.size) := Lib.hid (HE.out.trans (end_here (.inl rfl)))
          have hpk1 : p < s.size := by
            have h1 := end_next hp HNE.out
            have h2 := (endAt_spec (s := s) s.size (p := p + 1) (by omega) (by omega)).1
            have h3 := HEA.out
            omega
          have BR : Hid (∀ W, Calls Tryz.prog 59 #[.string (s.extract p s.size)] W fun e w' => BareO W w' (bareF s p s.size) s.size e) := Lib.hid (fun W => bare_any s p s.size hpk1 hk hs W)
          have HOB : Hid (oneF s p = bareF s p s.size) := Lib.hid (by rw [HO.out, HEA.out])
          go_wp2_with fail
          refine (BR.out _).mono ?_
          rintro e w1 ⟨hb, (⟨kk, t, hr1, hk0', rfl⟩ | ⟨hr1, rfl⟩)⟩
          · have HB := Lib.hid hb
            have HB1 := Lib.hid (HBK.out _ hb)
            obtain ⟨⟨k0, k1, k2, k3, k4⟩, j0, j1, j2, j3, j4⟩ := Blk.all HB1.out
            have hk0 : ((kk : Int) == 0) = false := ne_i (k := 0) (by omega)
            have hlt2 := (HBV.out _ hb (.cells #[] 0)).2
            have HR1 := Lib.hid (HOB.out.trans hr1)
            clear hb hr1
            unfold tokV
            go_wp2
            refine bodyPost_ret (results_tok3 rfl rfl rfl rfl ((Below.heap_alloc _ _ _ (by simpa [World.setCell] using hlt2)).trans (heap_set5 HB1.out))) rfl ?_
            exact ⟨(below_set5 ((BE.out.alloc (Nat.le_refl _) _).trans (HB.out.mono (by simp))) (Nat.le_refl _)).alloc (by simp [World.setCell]; omega) _, .inl ⟨kk, t, false, s.size, HR1.out, rfl⟩⟩
          · have HB := Lib.hid hb
            have HB1 := Lib.hid (HBK.out _ hb)
            obtain ⟨⟨k0, k1, k2, k3, k4⟩, j0, j1, j2, j3, j4⟩ := Blk.all HB1.out
            have hlt2 := (HBV.out _ hb (.cells #[] 0)).2
            have HR1 := Lib.hid (HOB.out.trans hr1)
            clear hb hr1
            unfold noTok tokV
            go_wp2
            refine bodyPost_ret (results_tok3 rfl rfl rfl rfl ((Below.heap_alloc _ _ _ (by simpa [World.setCell] using hlt2)).trans (heap_set5 HB1.out))) rfl ?_
            exact ⟨(below_set5 ((BE.out.alloc (Nat.le_refl _) _).trans (HB.out.mono (by simp))) (Nat.le_refl _)).alloc (by simp [World.setCell]; omega) _, .inr ⟨62, HR1.out, by omega, rfl⟩⟩
        · exact absurd True.intro hx

theorem one_any6 (s : ByteArray) (p : Nat) (hp : p < s.size) (hs : s.size ≤ 1048576) (w : World) :
    Calls Tryz.prog 44 #[.string s, .int .i64 (p : Int)] w fun e w' => OneO w w' (oneF s p) e := by
  by_cases h1 : cb s p = 40
  · exact one_par6 s p hp hs w (.inl h1)
  by_cases h2 : cb s p = 41
  · exact one_par6 s p hp hs w (.inr h2)
  by_cases h3 : cb s p = 34
  · exact one_bar s p hp hs w 34 h3 (.inl rfl) _ rfl (fun W => by rw [one_qu h3]; exact between_qu s p hp hs h3 W)
  by_cases h4 : cb s p = 124
  · exact one_bar s p hp hs w 124 h4 (.inr rfl) _ rfl (fun W => by rw [one_ba h4]; exact between_ba s p hp hs h4 W)
  by_cases h5 : cb s p = 35
  · exact one_bare6 s p hp hs w ⟨h1, h2, h3, h4⟩ (.inl h5)
  by_cases h6 : cb s p = 58
  · exact one_bare6 s p hp hs w ⟨h1, h2, h3, h4⟩ (.inr (.inl h6))
  rcases Bool.eq_false_or_eq_true (bSimple (cb s p)) with h7 | h7
  · exact one_bare6 s p hp hs w ⟨h1, h2, h3, h4⟩ (.inr (.inr ⟨h5, h6, h7⟩))
  · exact one_none6 s p hp hs w ⟨h1, h2, h3, h4, h5, h6, h7⟩
end Go.Proofs.YtpkdiciinhjfjaaGreatDoor

/- lists of tokens in memory; append of a token. -/
namespace Go.Proofs.YtpkdiciinhjfjaaGreatDoor
open Go.RowKit Mth

theorem info_tok : (Tryz.prog.info? 37).map (fun i => (i.zero, i.size, i.bytes)) = some (some (.agg #[.int .i64 0, .string ⟨#[]⟩, .bool false, .int .i64 0, .int .i64 0]), 5, 48) := by kernel_rfl
def tkCells (x : Tk) : List Value := [.int .i64 x.k, .string x.t, .bool x.q, .int .i64 x.l, .int .i64 x.c]
def tksCells (L : List Tk) : List Value := L.flatMap tkCells
theorem tks_len : ∀ L : List Tk, (tksCells L).length = 5 * L.length
  | [] => rfl
  | x :: L => by show (tkCells x ++ tksCells L).length = _; rw [List.length_append, tks_len L, List.length_cons]; show 5 + _ = _; omega
theorem tks_app (L M : List Tk) : tksCells (L ++ M) = tksCells L ++ tksCells M := List.flatMap_append
theorem tks_get : ∀ (L : List Tk) (i : Nat) (x : Tk), L[i]? = some x → ∀ j v, (tkCells x)[j]? = some v → (tksCells L)[5 * i + j]? = some v
  | [], i, x, h, j, v, hv => by simp at h
  | y :: L, 0, x, h, j, v, hv => by
    obtain rfl : y = x := by simpa using h
    show (tkCells y ++ tksCells L)[_]? = _
    rw [Nat.mul_zero, Nat.zero_add]
    exact List.getElem?_append_left (List.getElem?_eq_some_iff.1 hv).1 |>.trans hv
  | y :: L, i + 1, x, h, j, v, hv => by
    show (tkCells y ++ tksCells L)[_]? = _
    rw [List.getElem?_append_right (show (tkCells y).length ≤ _ by show 5 ≤ _; omega)]
    show (tksCells L)[5 * (i + 1) + j - 5]? = _
    rw [show 5 * (i + 1) + j - 5 = 5 * i + j by omega]
    exact tks_get L i x (by simpa using h) j v hv
/-- a list of tokens in memory -/
def TkL (w : World) (v : Value) (L : List Tk) : Prop := ∃ ao cap, v = .slice ao L.length cap ∧ (L ≠ [] → ∃ b off, ao = some ⟨b, off, none⟩ ∧ b < w.heap.size ∧ ∀ j x, (tksCells L)[j]? = some x → w.cell? ⟨b, off + j, none⟩ = some x)
theorem TkL.nil (w : World) : TkL w (.slice none 0 0) [] := ⟨none, 0, rfl, fun h => absurd rfl h⟩
theorem TkL.below {w w' : World} {v : Value} {L : List Tk} (h : TkL w v L) (hb : Below w.heap.size w w') : TkL w' v L := by
  obtain ⟨ao, cap, h1, h2⟩ := h
  refine ⟨ao, cap, h1, fun hn => ?_⟩
  obtain ⟨b, off, e, hlt, hc⟩ := h2 hn
  exact ⟨b, off, e, Nat.lt_of_lt_of_le hlt hb.size, fun j x hx => (hb.cell (p := ⟨b, off + j, none⟩) hlt).trans (hc j x hx)⟩
theorem TkL.grown {w w' : World} {v : Value} {L : List Tk} (h : TkL w v L) (hb : w.grownBy w' none) : TkL w' v L := h.below ⟨hb.os, hb.tape, hb.output, hb.size, fun k hk => hb.block k hk (by simp)⟩
/-- the cells of one token of a list -/
theorem TkL.at {w : World} {b off : Nat} {L : List Tk} (hc : ∀ j x, (tksCells L)[j]? = some x → w.cell? ⟨b, off + j, none⟩ = some x) {i : Nat} {x : Tk} (hx : L[i]? = some x) :
    w.cell? ⟨b, off + i * 5, none⟩ = some (.int .i64 x.k) ∧ w.cell? ⟨b, off + i * 5 + 1, none⟩ = some (.string x.t) ∧ w.cell? ⟨b, off + i * 5 + 2, none⟩ = some (.bool x.q) ∧ w.cell? ⟨b, off + i * 5 + 3, none⟩ = some (.int .i64 x.l) ∧ w.cell? ⟨b, off + i * 5 + 4, none⟩ = some (.int .i64 x.c) := by
  rw [Nat.mul_comm i 5]
  exact ⟨hc _ _ (tks_get L i x hx 0 _ rfl), by rw [Nat.add_assoc]; exact hc _ _ (tks_get L i x hx 1 _ rfl), by rw [Nat.add_assoc]; exact hc _ _ (tks_get L i x hx 2 _ rfl), by rw [Nat.add_assoc]; exact hc _ _ (tks_get L i x hx 3 _ rfl), by rw [Nat.add_assoc]; exact hc _ _ (tks_get L i x hx 4 _ rfl)⟩
/-- what the call owns is a list of tokens -/
theorem TkL.own {w : World} {base : Nat} {v : Value} {L : List Tk} (h : w.ownsRow base 37 5 v L.length (tksCells L)) : TkL w v L := by
  have hl := h.lt
  have hc : ∀ {g : Nat}, v.ownBlock = some g → ∀ j u, (tksCells L)[j]? = some u → w.cell? ((⟨g, 0, none⟩ : Addr).add j) = some u := fun hg => h.cells hg
  obtain ⟨h0, h1⟩ := h
  rcases h1 with ⟨rfl, h2⟩ | ⟨g, cap, cur, rfl, _⟩
  · cases L with
    | nil => exact TkL.nil w
    | cons x L => simp [tksCells, tkCells] at h2
  · refine ⟨some ⟨g, 0, none⟩, cap, rfl, fun _ => ⟨g, 0, rfl, (hl g rfl).2, fun j x hx => ?_⟩⟩
    have := hc (g := g) rfl j x hx
    rwa [Addr.add_lit] at this
theorem append_tok {w : World} {ops : Array Oper} {rest : List Oper} {o : Oper} {a : Act} {Q : Exit → Act → World → Prop} (hgd : o.guard = none) (s x : Operand)
    (ho : o.op = .call { callee := .builtin .append, args := #[s, x], argTypes := #[22, 22] }) (base : Nat) (v : Value) (L : List Tk) (y : Tk) (b cap : Nat)
    (hs : a.eval s = v) (hx : a.eval x = .slice (some ⟨b, 0, none⟩) 1 cap) (hown : w.ownsRow base 37 5 v L.length (tksCells L)) (hu : w.heap[b]? = some (.cells #[.int .i64 y.k, .string y.t, .bool y.q, .int .i64 y.l, .int .i64 y.c] 37 (0, 0))) (hlen : L.length ≤ 1048576) (hbase : base ≤ w.heap.size)
    (h : ∀ v' w', w'.ownsRow base 37 5 v' (L ++ [y]).length (tksCells (L ++ [y])) → w.grownBy w' v.ownBlock → wpList Tryz.prog ops Q rest (a.put o.dst v') w') : wpList Tryz.prog ops Q (o :: rest) a w := by
  obtain ⟨i0, hi, hz0, hz1, hz2⟩ := info_parts info_tok
  obtain ⟨c0, c1, c2, c3, c4⟩ := blk5 hu
  refine wpList_append_own w hgd s x 22 ho base 37 i0 _ 5 48 Tryz.underlying22 hi hz0 hz1 hz2 rfl (by decide) v _ _ hs hown ⟨b, 0, none⟩ 1 cap (tkCells y) hx rfl ?_ ?_
      (by unfold maxLen; omega) (by omega) hbase ?_
  · intro j u hj
    match j, hj with
    | 0, hj => obtain rfl := Option.some.inj hj; rw [Addr.add_lit]; exact c0
    | 1, hj => obtain rfl := Option.some.inj hj; rw [Addr.add_lit]; exact c1
    | 2, hj => obtain rfl := Option.some.inj hj; rw [Addr.add_lit]; exact c2
    | 3, hj => obtain rfl := Option.some.inj hj; rw [Addr.add_lit]; exact c3
    | 4, hj => obtain rfl := Option.some.inj hj; rw [Addr.add_lit]; exact c4
    | j + 5, hj => simp [tkCells] at hj
  · intro u hu
    simp [tkCells] at hu
    rcases hu with rfl | rfl | rfl | rfl | rfl <;> rfl
  · intro v' w' h2 h3 _
    refine h v' w' ?_ h3
    rw [tks_app, List.length_append]
    have e : tksCells [y] = tkCells y := by simp [tksCells]
    rw [e]
    exact h2
theorem scan_congr {s : ByteArray} {p p' : Nat} (h : skipF s p = skipF s p') : scanF s p = scanF s p' := by
  conv => lhs; rw [scanF]
  conv => rhs; rw [scanF]
  rw [h]
end Go.Proofs.YtpkdiciinhjfjaaGreatDoor

/- lexis's reference: Scan. -/
namespace Go.Proofs.YtpkdiciinhjfjaaGreatDoor
open Go.RowKit Mth

/-- memory from a block on -/
def FarV (B : Nat) (v : Value) : Prop := ∀ ad n c, v = .slice (some ad) n c → B ≤ ad.block
theorem FarV.own {w : World} {base B size n : Nat} {e : TypeId} {v : Value} {xs : List Value} (h : w.ownsRow base e size v n xs) (hB : B ≤ base) : FarV B v := fun ad m c hv => by
  have hl := h.lt
  obtain ⟨_, h1⟩ := h
  rcases h1 with ⟨rfl, _⟩ | ⟨g, cap, cur, rfl, _⟩
  · cases hv
  · injection hv with a1 a2 a3
    have a4 := Option.some.inj a1
    subst a4
    exact Nat.le_trans hB (hl g rfl).1
/-- the answer of Scan -/
def ScanO (w w' : World) (r : SR) (e : Ending) : Prop :=
  Below w.heap.size w w' ∧ ((∃ L v, r = .ok L ∧ e = .returned (.tuple #[v, .int .i64 0, .int .i64 0, .int .i64 0]) ∧ TkL w' v L ∧ FarV w.heap.size v) ∨
    (∃ E x y : Nat, r = .bad E x y ∧ E ≠ 0 ∧ e = .returned (.tuple #[.slice none 0 0, .int .i64 (x : Int), .int .i64 (y : Int), .int .i64 (E : Int)])))
theorem SR.pre_ok {L M : List Tk} : (SR.ok M).pre L = .ok (L ++ M) := rfl
theorem SR.pre_bad {L : List Tk} {e x y : Nat} : (SR.bad e x y).pre L = .bad e x y := rfl
set_option maxRecDepth 100000 in
theorem results4 {fn : Func} {t u x y : Tmp} {tmps : Array Value} {v0 v1 v2 v3 : Value} {W : World} (h : fn.results = #[.tmp t, .tmp u, .tmp x, .tmp y])
    (h1 : tmps.getD t undef = v0) (h2 : tmps.getD u undef = v1) (h3 : tmps.getD x undef = v2) (h4 : tmps.getD y undef = v3) : (results fn tmps).run Tryz.prog W = .ok (.tuple #[v0, v1, v2, v3]) W := by
  rw [Array.getD_eq_getD_getElem?] at h1 h2 h3 h4
  simp [results, h, h1, h2, h3, h4, go_sem]
/-- where the reference's Scan is -/
def ScR (w wr : World) (s : ByteArray) (v ln cl fr at_ : Value) : Prop := ∃ (p f : Nat) (L : List Tk), f ≤ p ∧ p ≤ s.size ∧ L.length ≤ p ∧ at_ = .int .i64 (p : Int) ∧ fr = .int .i64 (f : Int) ∧ ln = .int .i64 (lnAt s f : Int) ∧ cl = .int .i64 (colAt s f : Int) ∧
  wr.ownsRow w.heap.size 37 5 v L.length (tksCells L) ∧ scanF s 0 = (scanF s p).pre L ∧ Below w.heap.size w wr
theorem col_le (s : ByteArray) (p : Nat) : colAt s p ≤ p + 1 := by unfold colAt; omega
theorem col_nl {s : ByteArray} {p : Nat} (h : cb s p = 10) : colAt s (p + 1) = 1 := by unfold colAt; rw [(ln_nl h).2]; omega
theorem col_same {s : ByteArray} {p : Nat} (h : cb s p ≠ 10) : colAt s (p + 1) = colAt s p + 1 := by
  have := fs_le s p
  unfold colAt; rw [(ln_same h).2]; omega
def ck (s : ByteArray) (p : Nat) (i : Value) : Prop := ∃ k : Nat, p ≤ k ∧ k ≤ s.size ∧ i = .int .i64 (k : Int) ∧ cmtF s p = cmtF s k
theorem cmt_next {s : ByteArray} {k : Nat} (h : k < s.size) (hn : cb s k ≠ 10) : cmtF s k = cmtF s (k + 1) := by rw [cmtF, if_pos h, if_neg hn]
theorem cmt_here {s : ByteArray} {k : Nat} (h : k = s.size ∨ cb s k = 10) : cmtF s k = k := by
  rw [cmtF]
  split
  · rcases h with h | h
    · omega
    · rw [if_pos h]
  · rfl
def PlR (s : ByteArray) (p f0 : Nat) (ln cl fr : Value) : Prop := ∃ f : Nat, f0 ≤ f ∧ f ≤ p ∧ fr = .int .i64 (f : Int) ∧ ln = .int .i64 (lnAt s f : Int) ∧ cl = .int .i64 (colAt s f : Int)
theorem own_below {w w' : World} {base size n : Nat} {e : TypeId} {v : Value} {xs : List Value} (h : w.ownsRow base e size v n xs) (hb : Below w.heap.size w w') : w'.ownsRow base e size v n xs :=
  h.kept (row := none) ⟨hb.os, hb.tape, hb.output, hb.size, fun k hk _ => hb.block k hk⟩ (by cases hv : v.ownBlock with
    | none => exact .inl rfl
    | some x => exact .inr (by simp))
set_option maxHeartbeats 2000000 in
set_option maxRecDepth 100000 in
theorem rscan_long (s : ByteArray) (h : 1048576 < s.size) (w : World) : Calls Tryz.prog 26 #[.string s] w fun e w' => e = .returned (.tuple #[.slice none 0 0, .int .i64 0, .int .i64 0, .int .i64 2]) ∧ w = w' := by
  go_enter Tryz.func26, Tryz.ntmps26
  go_wp2
  refine bodyPost_ret (results4 rfl rfl rfl rfl rfl) rfl ?_
  exact ⟨rfl, rfl⟩
set_option maxHeartbeats 4000000 in
set_option maxRecDepth 100000 in
theorem rscan_any (s : ByteArray) (hs : s.size ≤ 1048576) (w : World) : Calls Tryz.prog 26 #[.string s] w fun e w' => ScanO w w' (scanF s 0) e := by
  go_enter Tryz.func26, Tryz.ntmps26
  go_wp2
  go_loopw [6, 7, 8, 9, 10] (fun v ln cl fr at_ wr => ScR w wr s v ln cl fr at_) (fun _ _ _ _ i _ => s.size - (intOf i).toNat)
  case atStart => exact ⟨0, 0, [], by omega, by omega, by simp, rfl, rfl, rfl, rfl, World.ownsRow_nil _ _ _ _, (SR.pre_nil _).symm, Below.refl _ _⟩
  case round =>
    obtain ⟨p, f, L, hfp, hp, hL, rfl, rfl, rfl, rfl, hown, hsc, hbel⟩ := hrel
    have HOWN := Lib.hid hown; have HSC := Lib.hid hsc; have HB := Lib.hid hbel
    have hln := ln_le s f; have hcl := col_le s f
    clear hown hsc hbel
    by_cases hlt : p < s.size
    · have hbk := cb_at hlt
      have BL : Hid (∀ W, Calls Tryz.prog 43 #[.int .u8 ((cb s p : Nat) : Int)] W fun e w' => e = .returned (.bool (bBlank (cb s p))) ∧ W = w') := Lib.hid (fun W => blank6_any _ (cb_lt s p) W)
      rcases Bool.eq_false_or_eq_true (bBlank (cb s p)) with hb | hb
      · have HS := Lib.hid (HSC.out.trans (by rw [scan_congr (skip_blank hlt hb)]))
        rw [hb] at BL
        clear hb
        go_wp2_with (go_at_call 43; refine (BL.out _).mono ?_; rintro e w1 ⟨rfl, rfl⟩)
        go_roundw
        case rel => exact ⟨p + 1, f, L, by omega, by omega, by omega, by go_num, rfl, rfl, rfl, HOWN.out, HS.out, HB.out⟩
        case measure => simp [intOf]; omega
      · by_cases h59 : cb s p = 59
        · have HS := Lib.hid (HSC.out.trans (by rw [scan_congr (skip_cmt hlt h59)]))
          have HC0 : Hid (cmtF s p = cmtF s (p + 1)) := Lib.hid (cmt_next hlt (by rw [h59]; decide))
          have H59 := Lib.hid h59
          rw [hb, h59] at BL
          rw [h59] at hbk
          clear hb h59
          go_wp2_with (go_at_call 43; refine (BL.out _).mono ?_; rintro e w1 ⟨rfl, rfl⟩)
          go_loop [10] (fun i => ck s p i) (fun i => s.size - (intOf i).toNat)
          case atStart => exact ⟨p, Nat.le_refl _, by omega, rfl, rfl⟩
          case round =>
            obtain ⟨k, hpk, hk, rfl, hc⟩ := hrel
            have HC := Lib.hid hc
            clear hc
            by_cases hkl : k < s.size
            · have hbk1 := cb_at hkl
              by_cases h10 : cb s k = 10
              · have HK : Hid (cmtF s (p + 1) = k) := Lib.hid (by rw [← HC0.out, HC.out, cmt_here (.inr h10)])
                have hpk1 : p < k := by
                  rcases Nat.lt_or_ge p k with h | h
                  · exact h
                  · obtain rfl : p = k := by omega
                    have := H59.out; omega
                rw [h10] at hbk1
                clear h10
                go_wp2
                go_roundw
                case rel => exact ⟨k, f, L, by omega, by omega, by omega, rfl, rfl, rfl, rfl, HOWN.out, by rw [← HK.out]; exact HS.out, HB.out⟩
                case measure => simp [intOf]; omega
              · have HS2 := Lib.hid (HC.out.trans (cmt_next hkl h10))
                have e1 : ((cb s k : Int) != 10) = true := by rw [bne_iff_ne]; omega
                clear h10
                go_wp2
                go_round
                case rel => exact ⟨k + 1, by omega, by omega, by go_num, HS2.out⟩
                case measure => simp [intOf]; omega
            · obtain rfl : k = s.size := by omega
              have HK : Hid (cmtF s (p + 1) = s.size) := Lib.hid (by rw [← HC0.out, HC.out, cmt_here (.inl rfl)])
              go_wp2
              go_roundw
              case rel => exact ⟨s.size, f, L, by omega, by omega, by omega, rfl, rfl, rfl, rfl, HOWN.out, by rw [← HK.out]; exact HS.out, HB.out⟩
              case measure => simp [intOf]; omega
        · have HK := Lib.hid (skip_here hb h59)
          have e59 : ((cb s p : Int) == 59) = false := ne_i (k := 59) h59
          rw [hb] at BL
          clear hb h59
          go_wp2_with (go_at_call 43; refine (BL.out _).mono ?_; rintro e w1 ⟨rfl, rfl⟩)
          go_loop [7, 8, 9] (fun ln cl fr => PlR s p f ln cl fr) (fun _ _ i => p - (intOf i).toNat)
          case atStart => exact ⟨f, Nat.le_refl _, hfp, rfl, rfl, rfl⟩
          case round =>
            obtain ⟨h, hfh, hhp, rfl, rfl, rfl⟩ := hrel
            have hlh := ln_le s h; have hch := col_le s h
            by_cases hhl : h < p
            · have hbh := cb_at (s := s) (i := h) (by omega)
              by_cases h10 : cb s h = 10
              · have HL1 := Lib.hid (ln_nl h10).1
                have HC1 := Lib.hid (col_nl h10)
                rw [h10] at hbh
                clear h10
                go_wp2
                go_round
                case rel => exact ⟨h + 1, by omega, by omega, by go_num, by rw [HL1.out]; go_num, by rw [HC1.out]; rfl⟩
                case measure => simp [intOf]; omega
              · have HL1 := Lib.hid (ln_same h10).1
                have HC1 := Lib.hid (col_same h10)
                have e1 : ((cb s h : Int) == 10) = false := ne_i (k := 10) h10
                clear h10
                go_wp2
                go_round
                case rel => exact ⟨h + 1, by omega, by omega, by go_num, by rw [HL1.out], by rw [HC1.out]; go_num⟩
                case measure => simp [intOf]; omega
            · obtain rfl : h = p := by omega
              have ON : Hid (∀ W, Calls Tryz.prog 44 #[.string s, .int .i64 (h : Int)] W fun e w' => OneO W w' (oneF s h) e) := Lib.hid (fun W => one_any6 s h hlt hs W)
              go_wp2_with fail
              refine (ON.out _).mono ?_
              rintro e w1 ⟨hb1, (⟨k, t, q, n, hr1, rfl⟩ | ⟨E, hr1, hE, rfl⟩)⟩
              · have hlt1 := shape_lt hlt (shape_of hlt hr1)
                have HSN : Hid (scanF s 0 = (scanF s n).pre (L ++ [⟨k, t, q, lnAt s h, colAt s h⟩])) := Lib.hid (by
                  rw [HSC.out, scan_tok (s := s) (p := h) (by rw [HK.out]; exact hlt) (by rw [HK.out]; exact hr1) (by rw [HK.out]; exact hlt1.1), HK.out, SR.pre_pre])
                have HB1 := Lib.hid hb1
                obtain ⟨hn1, hn2⟩ := hlt1
                clear hb1 hr1
                have HOW2 := Lib.hid (((own_below HOWN.out HB1.out).alloc (Obj.cells #[.int .i64 (k : Int), .string t, .bool q, .int .i64 (lnAt s h : Int), .int .i64 (colAt s h : Int)] 37)).alloc (Obj.cells #[.int .i64 (k : Int), .string t, .bool q, .int .i64 (lnAt s h : Int), .int .i64 (colAt s h : Int)] 37))
                have HU : Hid (((w1.alloc (Obj.cells #[.int .i64 (k : Int), .string t, .bool q, .int .i64 (lnAt s h : Int), .int .i64 (colAt s h : Int)] 37)).alloc (Obj.cells #[.int .i64 (k : Int), .string t, .bool q, .int .i64 (lnAt s h : Int), .int .i64 (colAt s h : Int)] 37)).heap[w1.heap.size + 1]? = some (.cells #[.int .i64 (k : Int), .string t, .bool q, .int .i64 (lnAt s h : Int), .int .i64 (colAt s h : Int)] 37 (0, 0))) := Lib.hid (by have := heap_alloc_new (w1.alloc (Obj.cells #[.int .i64 (k : Int), .string t, .bool q, .int .i64 (lnAt s h : Int), .int .i64 (colAt s h : Int)] 37)) (Obj.cells #[.int .i64 (k : Int), .string t, .bool q, .int .i64 (lnAt s h : Int), .int .i64 (colAt s h : Int)] 37); simpa using this)
                have HBA := Lib.hid (((HB.out.trans (HB1.out.mono HB.out.size)).alloc (Nat.le_trans HB.out.size HB1.out.size) (Obj.cells #[.int .i64 (k : Int), .string t, .bool q, .int .i64 (lnAt s h : Int), .int .i64 (colAt s h : Int)] 37)).alloc (by have := Nat.le_trans HB.out.size HB1.out.size; simp; omega) (Obj.cells #[.int .i64 (k : Int), .string t, .bool q, .int .i64 (lnAt s h : Int), .int .i64 (colAt s h : Int)] 37))
                have HLT := Lib.hid HOW2.out.lt
                unfold tokV
                go_wp2_with (at_builtin; refine append_tok rfl (.tmp 72) (.tmp 74) rfl w.heap.size _ L ⟨k, t, q, lnAt s h, colAt s h⟩ (w1.heap.size + 1) 1 rfl rfl HOW2.out HU.out (by omega) HBA.out.size ?_; intro v' w2 hown2 hgr2; have HO3 := Lib.hid hown2; have HG3 := Lib.hid (HBA.out.grown hgr2 HBA.out.size (fun kk hkk => (HLT.out kk hkk).1)); clear hown2 hgr2)
                go_roundw
                case rel => exact ⟨n, h, L ++ [⟨k, t, q, lnAt s h, colAt s h⟩], by omega, by omega, by rw [List.length_append]; show L.length + 1 ≤ n; omega, rfl, rfl, rfl, rfl, HO3.out, HSN.out, HG3.out⟩
                case measure => simp [intOf]; omega
              · have HX : Hid (scanF s 0 = .bad E (lnAt s h) (colAt s h)) := Lib.hid (by
                  rw [HSC.out, scan_err (s := s) (p := h) (by rw [HK.out]; exact hlt) (by rw [HK.out]; exact hr1), HK.out]; rfl)
                have HB1 := Lib.hid hb1
                have hE0 : ((E : Int) != 0) = true := by rw [bne_iff_ne]; omega
                have HE := Lib.hid hE
                clear hb1 hr1 hE
                unfold noTok tokV
                go_wp2
                refine bodyPost_ret (results4 rfl rfl rfl rfl rfl) rfl ?_
                exact ⟨(HB.out.trans (HB1.out.mono HB.out.size)).alloc (Nat.le_trans HB.out.size HB1.out.size) _, .inr ⟨E, _, _, HX.out, HE.out, rfl⟩⟩
    · obtain rfl : p = s.size := by omega
      have HX : Hid (scanF s 0 = .ok L) := Lib.hid (by rw [HSC.out, scan_end (by rw [skip_end (Nat.le_refl _)]; exact Nat.le_refl _)]; simp [SR.pre])
      go_wp2
      refine bodyPost_ret (results4 rfl rfl rfl rfl rfl) rfl ?_
      exact ⟨HB.out, .inl ⟨L, _, HX.out, rfl, TkL.own HOWN.out, FarV.own HOWN.out (Nat.le_refl _)⟩⟩
end Go.Proofs.YtpkdiciinhjfjaaGreatDoor
