/- Package lexis: kinds of bytes, of the program and of the reference (written by genlb.py). -/
import Derived.Test.YtlgcmpiobglbbaaDoorLA
import Derived.Test.YtlgcmpiobglbbaaDoorRows
import Derived.WalkKit
import Derived.ProofKit
import Derived.Lib.Hide
import Derived.WalkLawsBesides
import Derived.WalkSpells
import Derived.Outline
set_option linter.unusedVariables false
set_option linter.unusedSimpArgs false
namespace Go.Proofs.YtlgcmpiobglbbaaDoor
open Go.RowKit Mth

theorem ret_b {a b : Bool} (h : a = b) : Ending.returned (.bool a) = .returned (.bool b) := by rw [h]
theorem ret_z {k : IntKind} {a b : Int} (h : a = b) : Ending.returned (.int k a) = .returned (.int k b) := by rw [h]
theorem ret_s {a b : ByteArray} (h : a = b) : Ending.returned (.string a) = .returned (.string b) := by rw [h]
theorem ne_i {c k : Nat} (h : c ≠ k) : ((c : Int) == (k : Int)) = false := beq_eq_false_iff_ne.2 (by omega)

set_option maxRecDepth 100000 in
theorem digit6_any (c : Nat) (hc : c ≤ 255) (w : World) : Calls Tryd.prog 66 #[.int .u8 ((c : Nat) : Int)] w fun e w' => e = .returned (.bool (bDig c)) ∧ w = w' := by
  go_enter Tryd.func66, Tryd.ntmps66
  go_wp2
  all_goals (go_ret; refine ⟨ret_b ?_, rfl⟩; rw [Bool.eq_iff_iff, bDig_iff]; simp <;> omega)
set_option maxRecDepth 100000 in
theorem blank6_any (c : Nat) (hc : c ≤ 255) (w : World) : Calls Tryd.prog 23 #[.int .u8 ((c : Nat) : Int)] w fun e w' => e = .returned (.bool (bBlank c)) ∧ w = w' := by
  go_enter Tryd.func23, Tryd.ntmps23
  go_wp2
  all_goals (go_ret; refine ⟨ret_b ?_, rfl⟩; rw [Bool.eq_iff_iff, bBlank_iff]; simp <;> omega)
set_option maxRecDepth 100000 in
theorem blank_any (c : Nat) (hc : c ≤ 255) (w : World) : Calls Tryd.prog 50 #[.int .u8 ((c : Nat) : Int)] w fun e w' => e = .returned (.bool (bBlank c)) ∧ w = w' := by
  go_enter Tryd.func50, Tryd.ntmps50
  go_wp2
  all_goals (go_ret; refine ⟨ret_b ?_, rfl⟩; rw [Bool.eq_iff_iff, bBlank_iff]; simp <;> omega)
set_option maxRecDepth 100000 in
theorem hex6_any (c : Nat) (hc : c ≤ 255) (w : World) : Calls Tryd.prog 82 #[.int .u8 ((c : Nat) : Int)] w fun e w' => e = .returned (.bool (bHex c)) ∧ w = w' := by
  have HB := Lib.hid (digit6_any c hc w)
  rcases Bool.eq_false_or_eq_true (bDig c) with hb | hb
  all_goals (
    have HI : Hid ((bDig c = true ↔ _)) := Lib.hid bDig_iff
    rw [hb] at HB HI
    clear hb
    go_enter Tryd.func82, Tryd.ntmps82
    go_wp2_with (go_at_call 66; refine HB.out.mono ?_; rintro e w' ⟨rfl, rfl⟩)
    all_goals (go_ret; refine ⟨ret_b ?_, rfl⟩; have hi := HI.out; rw [Bool.eq_iff_iff, bHex_iff]; simp at hi ⊢ <;> omega))
set_option maxRecDepth 100000 in
theorem ends6_any (c : Nat) (hc : c ≤ 255) (w : World) : Calls Tryd.prog 48 #[.int .u8 ((c : Nat) : Int)] w fun e w' => e = .returned (.bool (bEnd c)) ∧ w = w' := by
  have HB := Lib.hid (blank6_any c hc w)
  rcases Bool.eq_false_or_eq_true (bBlank c) with hb | hb
  all_goals (
    have HI : Hid ((bBlank c = true ↔ _)) := Lib.hid bBlank_iff
    rw [hb] at HB HI
    clear hb
    go_enter Tryd.func48, Tryd.ntmps48
    go_wp2_with (go_at_call 23; refine HB.out.mono ?_; rintro e w' ⟨rfl, rfl⟩)
    all_goals (go_ret; refine ⟨ret_b ?_, rfl⟩; have hi := HI.out; rw [Bool.eq_iff_iff, bEnd_iff]; simp at hi ⊢ <;> omega))
set_option maxRecDepth 100000 in
theorem inner6_any (c : Nat) (hc : c ≤ 255) (w : World) : Calls Tryd.prog 32 #[.int .u8 ((c : Nat) : Int)] w fun e w' => e = .returned (.bool (bInner c)) ∧ w = w' := by
  have HB := Lib.hid (blank6_any c hc w)
  rcases Bool.eq_false_or_eq_true (bBlank c) with hb | hb
  all_goals (
    have HI : Hid ((bBlank c = true ↔ _)) := Lib.hid bBlank_iff
    rw [hb] at HB HI
    clear hb
    go_enter Tryd.func32, Tryd.ntmps32
    go_wp2_with (go_at_call 23; refine HB.out.mono ?_; rintro e w' ⟨rfl, rfl⟩)
    all_goals (go_ret; refine ⟨ret_b ?_, rfl⟩; have hi := HI.out; rw [Bool.eq_iff_iff, bInner_iff]; simp at hi ⊢ <;> omega))
set_option maxRecDepth 100000 in
theorem parts_any (c : Nat) (hc : c ≤ 255) (w : World) : Calls Tryd.prog 74 #[.int .u8 ((c : Nat) : Int)] w fun e w' => e = .returned (.bool (bEnd c)) ∧ w = w' := by
  by_cases hl : c = 40 ∨ c = 41 ∨ c = 59 ∨ c = 34 ∨ c = 124
  · rcases hl with rfl | rfl | rfl | rfl | rfl <;> (
      go_enter Tryd.func74, Tryd.ntmps74
      go_wp2
      go_ret
      exact ⟨ret_b (by rfl), rfl⟩)
  · have hn : c ≠ 40 ∧ c ≠ 41 ∧ c ≠ 59 ∧ c ≠ 34 ∧ c ≠ 124 := by omega
    clear hl
    obtain ⟨n40, n41, n59, n34, n124⟩ := hn
    have e40 : ((c : Int) == 40) = false := ne_i (k := 40) n40
    have e41 : ((c : Int) == 41) = false := ne_i (k := 41) n41
    have e59 : ((c : Int) == 59) = false := ne_i (k := 59) n59
    have e34 : ((c : Int) == 34) = false := ne_i (k := 34) n34
    have e124 : ((c : Int) == 124) = false := ne_i (k := 124) n124
    have E : Hid (bBlank c = bEnd c) := Lib.hid (by rw [Bool.eq_iff_iff, bBlank_iff, bEnd_iff]; omega)
    have HB := Lib.hid (blank_any c hc w)
    clear n40 n41 n59 n34 n124
    go_enter Tryd.func74, Tryd.ntmps74
    go_wp2_with (go_at_call 50; refine HB.out.mono ?_; rintro e w' ⟨rfl, rfl⟩)
    go_ret
    exact ⟨ret_b E.out, rfl⟩
set_option maxRecDepth 100000 in
theorem inText_any (c : Nat) (hc : c ≤ 255) (w : World) : Calls Tryd.prog 30 #[.int .u8 ((c : Nat) : Int)] w fun e w' => e = .returned (.bool (bInner c)) ∧ w = w' := by
  by_cases h1 : 32 ≤ c
  · by_cases h2 : c = 127
    · subst h2
      have HB := Lib.hid (blank_any 127 (by omega) w)
      go_enter Tryd.func30, Tryd.ntmps30
      go_wp2_with (go_at_call 50; refine HB.out.mono ?_; rintro e w' ⟨rfl, rfl⟩)
      go_ret
      exact ⟨ret_b (by rfl), rfl⟩
    · have E : Hid (bInner c = true) := Lib.hid (by rw [bInner_iff]; omega)
      have e1 : ((c : Int) != 127) = true := by rw [bne_iff_ne]; omega
      have e2 : ((c : Int) == 127) = false := ne_i (k := 127) h2
      have e3 : (32 : Int) ≤ (c : Int) := by omega
      clear h2
      go_enter Tryd.func30, Tryd.ntmps30
      go_wp2
      go_ret
      exact ⟨ret_b (by rw [E.out]), rfl⟩
  · have E : Hid (bBlank c = bInner c) := Lib.hid (by rw [Bool.eq_iff_iff, bBlank_iff, bInner_iff]; omega)
    have HB := Lib.hid (blank_any c hc w)
    have e3 : (c : Int) < 32 := by omega
    clear h1
    go_enter Tryd.func30, Tryd.ntmps30
    go_wp2_with (go_at_call 50; refine HB.out.mono ?_; rintro e w' ⟨rfl, rfl⟩)
    go_ret
    exact ⟨ret_b E.out, rfl⟩
end Go.Proofs.YtlgcmpiobglbbaaDoor
