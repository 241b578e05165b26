/- tribunalref04.SimpleByte; lexis.kindsOf, startOf (written by genlc.py). -/
import Derived.Test.YtlgcmpiobglbbaaDoorLB
import Derived.LoopTactic
set_option linter.unusedVariables false
set_option linter.unusedSimpArgs false
namespace Go.Proofs.YtlgcmpiobglbbaaDoor
open Go.RowKit Mth

def SimR (c : Nat) (i : Value) : Prop := ∃ k : Nat, k ≤ 17 ∧ i = .int .i64 k ∧ ∀ j, j < k → moreL.getD j 0 ≠ c
theorem sim_step {c k : Nat} (h : ∀ j, j < k → moreL.getD j 0 ≠ c) (hk : moreL.getD k 0 ≠ c) : ∀ j, j < k + 1 → moreL.getD j 0 ≠ c := by
  intro j hj
  by_cases e : j = k
  · subst e; exact hk
  · exact h j (by omega)
theorem sim_end {c : Nat} (h : ∀ j, j < 17 → moreL.getD j 0 ≠ c) : bMore c = false := by
  rw [← Bool.not_eq_true, bMore_iff]
  rintro ⟨k, hk, e⟩; exact h k hk e
theorem more_at : ∀ (k : Nat) (h : k < 17), ((⟨#[126, 33, 64, 36, 37, 94, 38, 42, 95, 45, 43, 61, 60, 62, 46, 63, 47]⟩ : ByteArray)[k]'h).toNat = moreL.getD k 0 := by decide
set_option maxHeartbeats 1000000 in
set_option maxRecDepth 100000 in
theorem simple4_any (c : Nat) (hc : c ≤ 255) (w : World) : Calls Tryd.prog 47 #[.int .u8 ((c : Nat) : Int)] w fun e w' => e = .returned (.bool (bSimple c)) ∧ w = w' := by
  by_cases h : (97 ≤ c ∧ c ≤ 122) ∨ (65 ≤ c ∧ c ≤ 90) ∨ (48 ≤ c ∧ c ≤ 57)
  · have E : Hid (bSimple c = true) := Lib.hid (by rw [bSimple_iff]; rcases h with h | h | h; exact .inl h; exact .inr (.inl h); exact .inr (.inr (.inl h)))
    rcases (show (97 ≤ c ∧ c ≤ 122) ∨ (65 ≤ c ∧ c ≤ 90 ∧ c < 97) ∨ (48 ≤ c ∧ c ≤ 57 ∧ c < 65 ∧ c < 97) by omega) with ⟨a1, a2⟩ | ⟨a1, a2, a3⟩ | ⟨a1, a2, a3, a4⟩
    all_goals (
      clear h
      go_enter Tryd.func47, Tryd.ntmps47
      go_wp2
      go_ret
      exact ⟨ret_b (by rw [E.out]), rfl⟩)
  · have E : Hid (bSimple c = bMore c) := Lib.hid (by
      rw [Bool.eq_iff_iff, bSimple_iff]
      exact ⟨fun h' => by rcases h' with h' | h' | h' | h'; exact absurd (.inl h') h; exact absurd (.inr (.inl h')) h; exact absurd (.inr (.inr h')) h; exact h', fun h' => .inr (.inr (.inr h'))⟩)
    rcases (show c < 48 ∨ (58 ≤ c ∧ c < 65) ∨ (91 ≤ c ∧ c < 97) ∨ 123 ≤ c by omega) with a | ⟨a, a'⟩ | ⟨a, a'⟩ | a
    all_goals (
      clear h
      go_enter Tryd.func47, Tryd.ntmps47
      go_wp2
      go_loop [3] (fun i => SimR c i) (fun i => 17 - (intOf i).toNat)
      case atStart => exact ⟨0, by omega, rfl, fun j hj => by omega⟩
      case round =>
        obtain ⟨k, hk, rfl, hv⟩ := hrel
        have HV := Lib.hid hv
        clear hv
        by_cases hlt : k < 17
        · have hbk := more_at k hlt
          have MB : Hid (moreL.getD k 0 = c → bMore c = true) := Lib.hid (fun e => bMore_iff.2 ⟨k, hlt, e⟩)
          have MN : Hid (moreL.getD k 0 ≠ c → ∀ j, j < k + 1 → moreL.getD j 0 ≠ c) := Lib.hid (sim_step HV.out)
          generalize moreL.getD k 0 = x at *
          by_cases he : x = c
          · have EM := Lib.hid (MB.out he)
            subst he
            go_wp2
            go_ret
            exact ⟨ret_b (by rw [E.out, EM.out]), rfl⟩
          · have MS := Lib.hid (MN.out he)
            have e1 : ((x : Int) == (c : Int)) = false := beq_eq_false_iff_ne.2 (by omega)
            clear he
            go_wp2
            go_round
            case rel => exact ⟨k + 1, by omega, rfl, MS.out⟩
            case measure => simp [intOf]; omega
        · obtain rfl : k = 17 := by omega
          have EM : Hid (bMore c = false) := Lib.hid (sim_end HV.out)
          go_wp2
          go_ret
          exact ⟨ret_b (by rw [E.out, EM.out]), rfl⟩)

/-- the table of simple bytes, as it lies in memory -/
def STab (w : World) : Prop := ∀ j, j < 128 → w.cell? ⟨0, j, none⟩ = some (.bool (bSimple j))
theorem simple_low {c : Nat} (h : bSimple c = true) : c < 128 := by
  rw [bSimple_iff, bMore_or] at h; omega
set_option maxHeartbeats 1000000 in
set_option maxRecDepth 100000 in
theorem kindsOf_any (c : Nat) (hc : c ≤ 255) (w : World) (hT : STab w) : Calls Tryd.prog 45 #[.int .u8 ((c : Nat) : Int)] w fun e w' => e = .returned (.int .i64 ((bKinds c : Nat) : Int)) ∧ w = w' := by
  have HT : Hid (c < 128 → w.cell? ⟨0, c, none⟩ = some (.bool (bSimple c))) := Lib.hid (hT c)
  have HL : Hid (bSimple c = true → c < 128) := Lib.hid simple_low
  clear hT
  have key : ∀ (a b d : Bool) (K : Nat), bBin c = a → bDig c = b → bHex c = d → K = (if a then 1 else 0) + (if b then 2 else 0) + (if d then 4 else 0) → bKinds c = K + if bSimple c then 8 else 0 := by
    intro a b d K h1 h2 h3 h4
    unfold bKinds
    rw [h1, h2, h3, h4]
  have KEY := Lib.hid key
  clear key
  rcases (show c = 48 ∨ c = 49 ∨ (50 ≤ c ∧ c ≤ 57) ∨ (97 ≤ c ∧ c ≤ 102) ∨ (65 ≤ c ∧ c ≤ 70) ∨ c < 48 ∨ (58 ≤ c ∧ c < 65) ∨ (71 ≤ c ∧ c < 97) ∨ (103 ≤ c ∧ c < 128) ∨ 128 ≤ c by omega) with rfl | rfl | ⟨a1, a2⟩ | ⟨a1, a2⟩ | ⟨a1, a2⟩ | a1 | ⟨a1, a2⟩ | ⟨a1, a2⟩ | ⟨a1, a2⟩ | a1
  · have EK := Lib.hid (KEY.out true true true 7 (by rfl) (by rfl) (by rfl) rfl)
    have hcell := HT.out (by omega)
    rcases Bool.eq_false_or_eq_true (bSimple 48) with hs | hs
    all_goals (
      have ER := Lib.hid (EK.out.trans (by rw [hs]))
      rw [hs] at hcell
      clear hs
      go_enter Tryd.func45, Tryd.ntmps45
      go_wp2
      go_ret
      exact ⟨ret_z (by rw [ER.out]; rfl), rfl⟩)
  · have EK := Lib.hid (KEY.out true true true 7 (by rfl) (by rfl) (by rfl) rfl)
    have hcell := HT.out (by omega)
    rcases Bool.eq_false_or_eq_true (bSimple 49) with hs | hs
    all_goals (
      have ER := Lib.hid (EK.out.trans (by rw [hs]))
      rw [hs] at hcell
      clear hs
      go_enter Tryd.func45, Tryd.ntmps45
      go_wp2
      go_ret
      exact ⟨ret_z (by rw [ER.out]; rfl), rfl⟩)
  · have EK := Lib.hid (KEY.out false true true 6 (by first | (rw [bBin_iff]; omega) | (rw [← Bool.not_eq_true, bBin_iff]; omega)) (by first | (rw [bDig_iff]; omega) | (rw [← Bool.not_eq_true, bDig_iff]; omega)) (by first | (rw [bHex_iff]; omega) | (rw [← Bool.not_eq_true, bHex_iff]; omega)) rfl)
    have e48 : ((c : Int) == 48) = false := ne_i (k := 48) (by omega)
    have e49 : ((c : Int) == 49) = false := ne_i (k := 49) (by omega)
    have hcell := HT.out (by omega)
    rcases Bool.eq_false_or_eq_true (bSimple c) with hs | hs
    all_goals (
      have ER := Lib.hid (EK.out.trans (by rw [hs]))
      rw [hs] at hcell
      clear hs
      go_enter Tryd.func45, Tryd.ntmps45
      go_wp2
      go_ret
      exact ⟨ret_z (by rw [ER.out]; rfl), rfl⟩)
  · have EK := Lib.hid (KEY.out false false true 4 (by first | (rw [bBin_iff]; omega) | (rw [← Bool.not_eq_true, bBin_iff]; omega)) (by first | (rw [bDig_iff]; omega) | (rw [← Bool.not_eq_true, bDig_iff]; omega)) (by first | (rw [bHex_iff]; omega) | (rw [← Bool.not_eq_true, bHex_iff]; omega)) rfl)
    have e48 : ((c : Int) == 48) = false := ne_i (k := 48) (by omega)
    have e49 : ((c : Int) == 49) = false := ne_i (k := 49) (by omega)
    have hcell := HT.out (by omega)
    rcases Bool.eq_false_or_eq_true (bSimple c) with hs | hs
    all_goals (
      have ER := Lib.hid (EK.out.trans (by rw [hs]))
      rw [hs] at hcell
      clear hs
      go_enter Tryd.func45, Tryd.ntmps45
      go_wp2
      go_ret
      exact ⟨ret_z (by rw [ER.out]; rfl), rfl⟩)
  · have EK := Lib.hid (KEY.out false false true 4 (by first | (rw [bBin_iff]; omega) | (rw [← Bool.not_eq_true, bBin_iff]; omega)) (by first | (rw [bDig_iff]; omega) | (rw [← Bool.not_eq_true, bDig_iff]; omega)) (by first | (rw [bHex_iff]; omega) | (rw [← Bool.not_eq_true, bHex_iff]; omega)) rfl)
    have e48 : ((c : Int) == 48) = false := ne_i (k := 48) (by omega)
    have e49 : ((c : Int) == 49) = false := ne_i (k := 49) (by omega)
    have hcell := HT.out (by omega)
    rcases Bool.eq_false_or_eq_true (bSimple c) with hs | hs
    all_goals (
      have ER := Lib.hid (EK.out.trans (by rw [hs]))
      rw [hs] at hcell
      clear hs
      go_enter Tryd.func45, Tryd.ntmps45
      go_wp2
      go_ret
      exact ⟨ret_z (by rw [ER.out]; rfl), rfl⟩)
  · have EK := Lib.hid (KEY.out false false false 0 (by first | (rw [bBin_iff]; omega) | (rw [← Bool.not_eq_true, bBin_iff]; omega)) (by first | (rw [bDig_iff]; omega) | (rw [← Bool.not_eq_true, bDig_iff]; omega)) (by first | (rw [bHex_iff]; omega) | (rw [← Bool.not_eq_true, bHex_iff]; omega)) rfl)
    have e48 : ((c : Int) == 48) = false := ne_i (k := 48) (by omega)
    have e49 : ((c : Int) == 49) = false := ne_i (k := 49) (by omega)
    have hcell := HT.out (by omega)
    rcases Bool.eq_false_or_eq_true (bSimple c) with hs | hs
    all_goals (
      have ER := Lib.hid (EK.out.trans (by rw [hs]))
      rw [hs] at hcell
      clear hs
      go_enter Tryd.func45, Tryd.ntmps45
      go_wp2
      go_ret
      exact ⟨ret_z (by rw [ER.out]; rfl), rfl⟩)
  · have EK := Lib.hid (KEY.out false false false 0 (by first | (rw [bBin_iff]; omega) | (rw [← Bool.not_eq_true, bBin_iff]; omega)) (by first | (rw [bDig_iff]; omega) | (rw [← Bool.not_eq_true, bDig_iff]; omega)) (by first | (rw [bHex_iff]; omega) | (rw [← Bool.not_eq_true, bHex_iff]; omega)) rfl)
    have e48 : ((c : Int) == 48) = false := ne_i (k := 48) (by omega)
    have e49 : ((c : Int) == 49) = false := ne_i (k := 49) (by omega)
    have hcell := HT.out (by omega)
    rcases Bool.eq_false_or_eq_true (bSimple c) with hs | hs
    all_goals (
      have ER := Lib.hid (EK.out.trans (by rw [hs]))
      rw [hs] at hcell
      clear hs
      go_enter Tryd.func45, Tryd.ntmps45
      go_wp2
      go_ret
      exact ⟨ret_z (by rw [ER.out]; rfl), rfl⟩)
  · have EK := Lib.hid (KEY.out false false false 0 (by first | (rw [bBin_iff]; omega) | (rw [← Bool.not_eq_true, bBin_iff]; omega)) (by first | (rw [bDig_iff]; omega) | (rw [← Bool.not_eq_true, bDig_iff]; omega)) (by first | (rw [bHex_iff]; omega) | (rw [← Bool.not_eq_true, bHex_iff]; omega)) rfl)
    have e48 : ((c : Int) == 48) = false := ne_i (k := 48) (by omega)
    have e49 : ((c : Int) == 49) = false := ne_i (k := 49) (by omega)
    have hcell := HT.out (by omega)
    rcases Bool.eq_false_or_eq_true (bSimple c) with hs | hs
    all_goals (
      have ER := Lib.hid (EK.out.trans (by rw [hs]))
      rw [hs] at hcell
      clear hs
      go_enter Tryd.func45, Tryd.ntmps45
      go_wp2
      go_ret
      exact ⟨ret_z (by rw [ER.out]; rfl), rfl⟩)
  · have EK := Lib.hid (KEY.out false false false 0 (by first | (rw [bBin_iff]; omega) | (rw [← Bool.not_eq_true, bBin_iff]; omega)) (by first | (rw [bDig_iff]; omega) | (rw [← Bool.not_eq_true, bDig_iff]; omega)) (by first | (rw [bHex_iff]; omega) | (rw [← Bool.not_eq_true, bHex_iff]; omega)) rfl)
    have e48 : ((c : Int) == 48) = false := ne_i (k := 48) (by omega)
    have e49 : ((c : Int) == 49) = false := ne_i (k := 49) (by omega)
    have hcell := HT.out (by omega)
    rcases Bool.eq_false_or_eq_true (bSimple c) with hs | hs
    all_goals (
      have ER := Lib.hid (EK.out.trans (by rw [hs]))
      rw [hs] at hcell
      clear hs
      go_enter Tryd.func45, Tryd.ntmps45
      go_wp2
      go_ret
      exact ⟨ret_z (by rw [ER.out]; rfl), rfl⟩)
  · have EK := Lib.hid (KEY.out false false false 0 (by first | (rw [bBin_iff]; omega) | (rw [← Bool.not_eq_true, bBin_iff]; omega)) (by first | (rw [bDig_iff]; omega) | (rw [← Bool.not_eq_true, bDig_iff]; omega)) (by first | (rw [bHex_iff]; omega) | (rw [← Bool.not_eq_true, bHex_iff]; omega)) rfl)
    have e48 : ((c : Int) == 48) = false := ne_i (k := 48) (by omega)
    have e49 : ((c : Int) == 49) = false := ne_i (k := 49) (by omega)
    have hs : bSimple c = false := by
      rw [← Bool.not_eq_true]; intro h; have := HL.out h; omega
    have ER := Lib.hid (EK.out.trans (by rw [hs]))
    clear hs
    go_enter Tryd.func45, Tryd.ntmps45
    go_wp2
    go_ret
    exact ⟨ret_z (by rw [ER.out]; rfl), rfl⟩
end Go.Proofs.YtlgcmpiobglbbaaDoor
