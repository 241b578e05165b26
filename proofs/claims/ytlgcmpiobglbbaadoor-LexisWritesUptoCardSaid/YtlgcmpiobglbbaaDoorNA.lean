/- lexis's reference: what pieces are: Numeral, all, Decimal, Bytes. -/
import Derived.Test.YtlgcmpiobglbbaaDoorLR
import Derived.Lib.ReplaceLaws
import Derived.MapKept
set_option linter.unusedVariables false
set_option linter.unusedSimpArgs false
namespace Go.Proofs.YtlgcmpiobglbbaaDoor
open Go.RowKit Mth

theorem all_step {s : ByteArray} {P : Nat → Bool} {k : Nat} (h : allP s P 0 k) (hk : P (cb s k) = true) : allP s P 0 (k + 1) := fun i i1 i2 => by
  by_cases e : i = k
  · subst e; exact hk
  · exact h i i1 (by omega)
def AllR (s : ByteArray) (P : Nat → Bool) (i : Value) : Prop := ∃ k : Nat, k ≤ s.size ∧ i = .int .i64 (k : Int) ∧ allP s P 0 k
/-- a yes or no, and the world stays -/
def Says (w w' : World) (Q : Prop) (e : Ending) : Prop := ∃ b : Bool, e = .returned (.bool b) ∧ (b = true ↔ Q) ∧ w = w'
theorem lst_ne {s : ByteArray} {l : List UInt8} (h : s ≠ ⟨l.toArray⟩) : ¬ s.toList = l := fun e => h (by
  rw [ByteArray.toList_eq] at e
  cases s with | mk d => rw [← e])
theorem says_no {w : World} {Q : Prop} (h : ¬ Q) : Says w w Q (.returned (.bool false)) := ⟨false, rfl, ⟨fun x => Bool.noConfusion x, fun x => absurd x h⟩, rfl⟩
theorem says_no' {w : World} {Q : Prop} {b : Bool} (hb : b = false) (h : ¬ Q) : Says w w Q (.returned (.bool b)) := by subst hb; exact says_no h
theorem says_yes' {w : World} {Q : Prop} {b : Bool} (hb : b = true) (h : Q) : Says w w Q (.returned (.bool b)) := by subst hb; exact ⟨true, rfl, ⟨fun _ => h, fun _ => rfl⟩, rfl⟩
theorem says_yes {w : World} {Q : Prop} (h : Q) : Says w w Q (.returned (.bool true)) := ⟨true, rfl, ⟨fun _ => h, fun _ => rfl⟩, rfl⟩
set_option maxRecDepth 100000 in
theorem numeral_any (s : ByteArray) (hs : s.size ≤ 1048576) (w : World) : Calls Tryd.prog 61 #[.string s] w fun e w' => Says w w' (isNum s 0 s.size) e := by
  go_enter Tryd.func61, Tryd.ntmps61
  go_wp2
  go_loop [3] (fun i => AllR s bDig i) (fun i => s.size - (intOf i).toNat)
  case atStart => exact ⟨0, by omega, rfl, fun j _ hj => by omega⟩
  case round =>
    obtain ⟨k, hk, rfl, hall⟩ := hrel
    have HA := Lib.hid hall
    clear hall
    by_cases hlt : k < s.size
    · have hbk := cb_at hlt
      have DG : Hid (∀ W, Calls Tryd.prog 66 #[.int .u8 ((cb s k : Nat) : Int)] W fun e w' => e = .returned (.bool (bDig (cb s k))) ∧ W = w') := Lib.hid (fun W => digit6_any _ (cb_lt s k) W)
      rcases Bool.eq_false_or_eq_true (bDig (cb s k)) with hb | hb
      · have HS := Lib.hid (all_step HA.out hb)
        rw [hb] at DG
        clear hb
        go_wp2_with (go_at_call 66; refine (DG.out _).mono ?_; rintro e w1 ⟨rfl, rfl⟩)
        go_round
        case rel => exact ⟨k + 1, by omega, rfl, HS.out⟩
        case measure => simp [intOf]; omega
      · have HN : Hid (¬ isNum s 0 s.size) := Lib.hid (fun h => by have := h.2.1 k (by omega) hlt; rw [hb] at this; cases this)
        rw [hb] at DG
        clear hb
        go_wp2_with (go_at_call 66; refine (DG.out _).mono ?_; rintro e w1 ⟨rfl, rfl⟩)
        go_ret
        exact says_no HN.out
    · obtain rfl : k = s.size := by omega
      by_cases h0 : s.size = 0
      · have e : s = ⟨#[]⟩ := by
          apply ByteArray.ext_getElem
          · exact h0
          · intro i hi hi'; omega
        subst e
        go_wp2
        go_ret
        exact says_no (fun h => absurd h.1 (by decide))
      · have hlt0 : 0 < s.size := by omega
        have hb0 := cb_at hlt0
        by_cases hz : cb s 0 = 48
        · by_cases h1 : s.size = 1
          · have e : s = ⟨#[48]⟩ := by
              apply ByteArray.ext_getElem
              · rw [h1]; rfl
              · intro i hi hi'
                obtain rfl : i = 0 := by omega
                exact UInt8.toNat_inj.1 (by rw [hb0, hz]; rfl)
            have HY : Hid (isNum s 0 s.size) := Lib.hid ⟨hlt0, HA.out, .inr h1⟩
            subst e
            go_wp2
            go_ret
            exact says_yes HY.out
          · have en : ¬ s.toList = [48] := lst_ne (fun e => h1 (by rw [e]; rfl))
            have HY : Hid (¬ isNum s 0 s.size) := Lib.hid (fun h => h.2.2.elim (fun x => x hz) (fun x => h1 x))
            have EN := Lib.hid en
            rw [hz] at hb0
            clear h0 h1 hz
            go_wp2
            go_ret
            exact says_no' (by simpa using EN.out) HY.out
        · have en : ¬ s.toList = [48] := lst_ne (fun e => hz (by rw [e]; rfl))
          have HY : Hid (isNum s 0 s.size) := Lib.hid ⟨hlt0, HA.out, .inl hz⟩
          have e1 : ((cb s 0 : Int) != 48) = true := by rw [bne_iff_ne]; omega
          clear h0 hz
          go_wp2
          go_ret
          exact says_yes HY.out
set_option maxRecDepth 100000 in
theorem bytes_any (s : ByteArray) (hs : s.size ≤ 1048576) (w : World) : Calls Tryd.prog 65 #[.string s] w fun e w' => Says w w' (0 < s.size ∧ allP s bSimple 0 s.size) e := by
  go_enter Tryd.func65, Tryd.ntmps65
  go_wp2
  go_loop [3] (fun i => AllR s bSimple i) (fun i => s.size - (intOf i).toNat)
  case atStart => exact ⟨0, by omega, rfl, fun j _ hj => by omega⟩
  case round =>
    obtain ⟨k, hk, rfl, hall⟩ := hrel
    have HA := Lib.hid hall
    clear hall
    by_cases hlt : k < s.size
    · have hbk := cb_at hlt
      have DG : Hid (∀ W, Calls Tryd.prog 47 #[.int .u8 ((cb s k : Nat) : Int)] W fun e w' => e = .returned (.bool (bSimple (cb s k))) ∧ W = w') := Lib.hid (fun W => simple4_any _ (cb_lt s k) W)
      rcases Bool.eq_false_or_eq_true (bSimple (cb s k)) with hb | hb
      · have HS := Lib.hid (all_step HA.out hb)
        rw [hb] at DG
        clear hb
        go_wp2_with (go_at_call 47; refine (DG.out _).mono ?_; rintro e w1 ⟨rfl, rfl⟩)
        go_round
        case rel => exact ⟨k + 1, by omega, rfl, HS.out⟩
        case measure => simp [intOf]; omega
      · have HN : Hid (¬ (0 < s.size ∧ allP s bSimple 0 s.size)) := Lib.hid (fun h => by have := h.2 k (by omega) hlt; rw [hb] at this; cases this)
        rw [hb] at DG
        clear hb
        go_wp2_with (go_at_call 47; refine (DG.out _).mono ?_; rintro e w1 ⟨rfl, rfl⟩)
        go_ret
        exact says_no HN.out
    · obtain rfl : k = s.size := by omega
      go_wp2
      all_goals (
        go_ret
        exact ⟨_, rfl, ⟨fun h => ⟨by simp at h; omega, HA.out⟩, fun h => by have := h.1; simp; omega⟩, rfl⟩)
set_option maxHeartbeats 1000000 in
set_option maxRecDepth 100000 in
theorem all10_any (s : ByteArray) (hs : s.size ≤ 1048576) (w : World) : Calls Tryd.prog 63 #[.string s, .int .i64 10] w fun e w' => Says w w' (0 < s.size ∧ allP s bDig 0 s.size) e := by
  go_enter Tryd.func63, Tryd.ntmps63
  go_wp2
  go_loop [5] (fun i => AllR s bDig i) (fun i => s.size - (intOf i).toNat)
  case atStart => exact ⟨0, by omega, rfl, fun j _ hj => by omega⟩
  case round =>
    obtain ⟨k, hk, rfl, hall⟩ := hrel
    have HA := Lib.hid hall
    clear hall
    by_cases hlt : k < s.size
    · have hbk := cb_at hlt
      have DG : Hid (∀ W, Calls Tryd.prog 66 #[.int .u8 ((cb s k : Nat) : Int)] W fun e w' => e = .returned (.bool (bDig (cb s k))) ∧ W = w') := Lib.hid (fun W => digit6_any _ (cb_lt s k) W)
      rcases Bool.eq_false_or_eq_true (bDig (cb s k)) with hb | hb
      · have HS := Lib.hid (all_step HA.out hb)
        rw [hb] at DG
        clear hb
        go_wp2_with (go_at_call 66; refine (DG.out _).mono ?_; rintro e w1 ⟨rfl, rfl⟩)
        go_round
        case rel => exact ⟨k + 1, by omega, rfl, HS.out⟩
        case measure => simp [intOf]; omega
      · have HN : Hid (¬ (0 < s.size ∧ allP s bDig 0 s.size)) := Lib.hid (fun h => by have := h.2 k (by omega) hlt; rw [hb] at this; cases this)
        rw [hb] at DG
        clear hb
        go_wp2_with (go_at_call 66; refine (DG.out _).mono ?_; rintro e w1 ⟨rfl, rfl⟩)
        go_ret
        exact says_no HN.out
    · obtain rfl : k = s.size := by omega
      go_wp2
      all_goals (
        go_ret
        exact ⟨_, rfl, ⟨fun h => ⟨by simp at h; omega, HA.out⟩, fun h => by have := h.1; simp; omega⟩, rfl⟩)
set_option maxHeartbeats 1000000 in
set_option maxRecDepth 100000 in
theorem all16_any (s : ByteArray) (hs : s.size ≤ 1048576) (w : World) : Calls Tryd.prog 63 #[.string s, .int .i64 16] w fun e w' => Says w w' (0 < s.size ∧ allP s bHex 0 s.size) e := by
  go_enter Tryd.func63, Tryd.ntmps63
  go_wp2
  go_loop [5] (fun i => AllR s bHex i) (fun i => s.size - (intOf i).toNat)
  case atStart => exact ⟨0, by omega, rfl, fun j _ hj => by omega⟩
  case round =>
    obtain ⟨k, hk, rfl, hall⟩ := hrel
    have HA := Lib.hid hall
    clear hall
    by_cases hlt : k < s.size
    · have hbk := cb_at hlt
      have DG : Hid (∀ W, Calls Tryd.prog 82 #[.int .u8 ((cb s k : Nat) : Int)] W fun e w' => e = .returned (.bool (bHex (cb s k))) ∧ W = w') := Lib.hid (fun W => hex6_any _ (cb_lt s k) W)
      rcases Bool.eq_false_or_eq_true (bHex (cb s k)) with hb | hb
      · have HS := Lib.hid (all_step HA.out hb)
        rw [hb] at DG
        clear hb
        go_wp2_with (go_at_call 82; refine (DG.out _).mono ?_; rintro e w1 ⟨rfl, rfl⟩)
        go_round
        case rel => exact ⟨k + 1, by omega, rfl, HS.out⟩
        case measure => simp [intOf]; omega
      · have HN : Hid (¬ (0 < s.size ∧ allP s bHex 0 s.size)) := Lib.hid (fun h => by have := h.2 k (by omega) hlt; rw [hb] at this; cases this)
        rw [hb] at DG
        clear hb
        go_wp2_with (go_at_call 82; refine (DG.out _).mono ?_; rintro e w1 ⟨rfl, rfl⟩)
        go_ret
        exact says_no HN.out
    · obtain rfl : k = s.size := by omega
      go_wp2
      all_goals (
        go_ret
        exact ⟨_, rfl, ⟨fun h => ⟨by simp at h; omega, HA.out⟩, fun h => by have := h.1; simp; omega⟩, rfl⟩)
set_option maxHeartbeats 1000000 in
set_option maxRecDepth 100000 in
theorem all2_any (s : ByteArray) (hs : s.size ≤ 1048576) (w : World) : Calls Tryd.prog 63 #[.string s, .int .i64 2] w fun e w' => Says w w' (0 < s.size ∧ allP s bBin 0 s.size) e := by
  go_enter Tryd.func63, Tryd.ntmps63
  go_wp2
  go_loop [5] (fun i => AllR s bBin i) (fun i => s.size - (intOf i).toNat)
  case atStart => exact ⟨0, by omega, rfl, fun j _ hj => by omega⟩
  case round =>
    obtain ⟨k, hk, rfl, hall⟩ := hrel
    have HA := Lib.hid hall
    clear hall
    by_cases hlt : k < s.size
    · have hbk := cb_at hlt
      by_cases hb : cb s k = 48 ∨ cb s k = 49
      · have HS := Lib.hid (all_step HA.out (bBin_iff.2 hb))
        rcases hb with hb | hb
        all_goals (
          rw [hb] at hbk
          clear hb
          go_wp2
          go_round
          case rel => exact ⟨k + 1, by omega, rfl, HS.out⟩
          case measure => simp [intOf]; omega)
      · have HN : Hid (¬ (0 < s.size ∧ allP s bBin 0 s.size)) := Lib.hid (fun h => hb (bBin_iff.1 (h.2 k (by omega) hlt)))
        have n48 : cb s k ≠ 48 := fun e => hb (.inl e)
        have n49 : cb s k ≠ 49 := fun e => hb (.inr e)
        have e48 : ((cb s k : Int) != 48) = true := by rw [bne_iff_ne]; omega
        have e49 : ((cb s k : Int) != 49) = true := by rw [bne_iff_ne]; omega
        clear hb n48 n49
        go_wp2
        go_ret
        exact says_no HN.out
    · obtain rfl : k = s.size := by omega
      go_wp2
      all_goals (
        go_ret
        exact ⟨_, rfl, ⟨fun h => ⟨by simp at h; omega, HA.out⟩, fun h => by have := h.1; simp; omega⟩, rfl⟩)
end Go.Proofs.YtlgcmpiobglbbaaDoor
