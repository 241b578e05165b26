/- LA LB LC LD LE. -/
import Derived.Test.YtpkdiciinhjfjaaDoorRows
import Derived.WalkKit
import Derived.ProofKit
import Derived.Lib.Hide
import Derived.WalkLawsBesides
import Derived.WalkSpells
import Derived.Outline
import Derived.LoopTactic
import Derived.Below
import Derived.OneCell
import Derived.Deep.QuietTactic
import Derived.BigQuiet
import Derived.Deep.RegionWith
import Derived.Deep.RegionHeld3
set_option linter.unusedVariables false
set_option linter.unusedSimpArgs false
/- Tokens of SMT-LIB in plain mathematics: kinds of bytes; where a token ends. -/
namespace Go.Proofs.YtpkdiciinhjfjaaDoor.Mth

def bBlank (c : Nat) : Bool := c == 9 || c == 10 || c == 13 || c == 32
def bInner (c : Nat) : Bool := bBlank c || (decide (32 ≤ c) && c != 127)
def bDig (c : Nat) : Bool := decide (48 ≤ c) && decide (c ≤ 57)
def bBin (c : Nat) : Bool := c == 48 || c == 49
def bHex (c : Nat) : Bool := bDig c || (decide (97 ≤ c) && decide (c ≤ 102)) || (decide (65 ≤ c) && decide (c ≤ 70))
def bEnd (c : Nat) : Bool := bBlank c || c == 40 || c == 41 || c == 59 || c == 34 || c == 124
/-- the bytes beside letters and digits that may stand in a symbol -/
def bMore (c : Nat) : Bool := [126, 33, 64, 36, 37, 94, 38, 42, 95, 45, 43, 61, 60, 62, 46, 63, 47].contains c
def bSimple (c : Nat) : Bool := (decide (97 ≤ c) && decide (c ≤ 122)) || (decide (65 ≤ c) && decide (c ≤ 90)) || bDig c || bMore c
/-- the kinds of a byte, as the program keeps them -/
def bKinds (c : Nat) : Nat := (if bBin c then 1 else 0) + (if bDig c then 2 else 0) + (if bHex c then 4 else 0) + (if bSimple c then 8 else 0)
theorem bBlank_iff {c : Nat} : bBlank c = true ↔ c = 9 ∨ c = 10 ∨ c = 13 ∨ c = 32 := by simp [bBlank]; omega
theorem bInner_iff {c : Nat} : bInner c = true ↔ c = 9 ∨ c = 10 ∨ c = 13 ∨ (32 ≤ c ∧ c ≠ 127) := by simp [bInner, bBlank]; omega
theorem bDig_iff {c : Nat} : bDig c = true ↔ 48 ≤ c ∧ c ≤ 57 := by simp [bDig]
theorem bBin_iff {c : Nat} : bBin c = true ↔ c = 48 ∨ c = 49 := by simp [bBin]
theorem bHex_iff {c : Nat} : bHex c = true ↔ (48 ≤ c ∧ c ≤ 57) ∨ (97 ≤ c ∧ c ≤ 102) ∨ (65 ≤ c ∧ c ≤ 70) := by simp [bHex, bDig]; omega
theorem bEnd_iff {c : Nat} : bEnd c = true ↔ c = 9 ∨ c = 10 ∨ c = 13 ∨ c = 32 ∨ c = 40 ∨ c = 41 ∨ c = 59 ∨ c = 34 ∨ c = 124 := by simp [bEnd, bBlank]; omega
def moreL : List Nat := [126, 33, 64, 36, 37, 94, 38, 42, 95, 45, 43, 61, 60, 62, 46, 63, 47]
theorem bMore_iff {c : Nat} : bMore c = true ↔ ∃ k, k < 17 ∧ moreL.getD k 0 = c := by
  show moreL.contains c = true ↔ _
  rw [List.contains_iff_mem, List.mem_iff_getElem]
  constructor
  · rintro ⟨k, hk, e⟩
    exact ⟨k, hk, by rw [List.getD_eq_getElem?_getD, List.getElem?_eq_getElem hk, ← e]; rfl⟩
  · rintro ⟨k, hk, e⟩
    have hk' : k < moreL.length := hk
    refine ⟨k, hk', ?_⟩
    rw [List.getD_eq_getElem?_getD, List.getElem?_eq_getElem hk'] at e; exact e
theorem bMore_or {c : Nat} : bMore c = true ↔ c = 126 ∨ c = 33 ∨ c = 64 ∨ c = 36 ∨ c = 37 ∨ c = 94 ∨ c = 38 ∨ c = 42 ∨ c = 95 ∨ c = 45 ∨ c = 43 ∨ c = 61 ∨ c = 60 ∨ c = 62 ∨ c = 46 ∨ c = 63 ∨ c = 47 := by simp [bMore]
theorem bSimple_iff {c : Nat} : bSimple c = true ↔ (97 ≤ c ∧ c ≤ 122) ∨ (65 ≤ c ∧ c ≤ 90) ∨ (48 ≤ c ∧ c ≤ 57) ∨ bMore c = true := by simp [bSimple, bDig, or_assoc]
theorem simple_not_end {c : Nat} (h : bSimple c = true) : bEnd c = false := by
  rw [← Bool.not_eq_true, bEnd_iff]
  rw [bSimple_iff, bMore_or] at h
  omega
end Go.Proofs.YtpkdiciinhjfjaaDoor.Mth

/- Package lexis: kinds of bytes, of the program and of the reference (written by genlb.py). -/
namespace Go.Proofs.YtpkdiciinhjfjaaDoor
open Go.RowKit Mth

theorem ret_b {a b : Bool} (h : a = b) : Ending.returned (.bool a) = .returned (.bool b) := by rw [h]
theorem ret_z {k : IntKind} {a b : Int} (h : a = b) : Ending.returned (.int k a) = .returned (.int k b) := by rw [h]
theorem ret_s {a b : ByteArray} (h : a = b) : Ending.returned (.string a) = .returned (.string b) := by rw [h]
theorem ne_i {c k : Nat} (h : c ≠ k) : ((c : Int) == (k : Int)) = false := beq_eq_false_iff_ne.2 (by omega)

set_option maxRecDepth 100000 in
theorem blank_any (c : Nat) (hc : c ≤ 255) (w : World) : Calls Tryd.prog 75 #[.int .u8 ((c : Nat) : Int)] w fun e w' => e = .returned (.bool (bBlank c)) ∧ w = w' := by
  go_enter Tryd.func75, Tryd.ntmps75
  go_wp2
  all_goals (go_ret; refine ⟨ret_b ?_, rfl⟩; rw [Bool.eq_iff_iff, bBlank_iff]; simp <;> omega)
set_option maxRecDepth 100000 in
theorem parts_any (c : Nat) (hc : c ≤ 255) (w : World) : Calls Tryd.prog 65 #[.int .u8 ((c : Nat) : Int)] w fun e w' => e = .returned (.bool (bEnd c)) ∧ w = w' := by
  by_cases hl : c = 40 ∨ c = 41 ∨ c = 59 ∨ c = 34 ∨ c = 124
  · rcases hl with rfl | rfl | rfl | rfl | rfl <;> (
      go_enter Tryd.func65, Tryd.ntmps65
      go_wp2
      go_ret
      exact ⟨ret_b (by rfl), rfl⟩)
  · have hn : c ≠ 40 ∧ c ≠ 41 ∧ c ≠ 59 ∧ c ≠ 34 ∧ c ≠ 124 := by omega
    clear hl
    obtain ⟨n40, n41, n59, n34, n124⟩ := hn
    have e40 : ((c : Int) == 40) = false := ne_i (k := 40) n40
    have e41 : ((c : Int) == 41) = false := ne_i (k := 41) n41
    have e59 : ((c : Int) == 59) = false := ne_i (k := 59) n59
    have e34 : ((c : Int) == 34) = false := ne_i (k := 34) n34
    have e124 : ((c : Int) == 124) = false := ne_i (k := 124) n124
    have E : Hid (bBlank c = bEnd c) := Lib.hid (by rw [Bool.eq_iff_iff, bBlank_iff, bEnd_iff]; omega)
    have HB := Lib.hid (blank_any c hc w)
    clear n40 n41 n59 n34 n124
    go_enter Tryd.func65, Tryd.ntmps65
    go_wp2_with (go_at_call 75; refine HB.out.mono ?_; rintro e w' ⟨rfl, rfl⟩)
    go_ret
    exact ⟨ret_b E.out, rfl⟩
set_option maxRecDepth 100000 in
theorem inText_any (c : Nat) (hc : c ≤ 255) (w : World) : Calls Tryd.prog 72 #[.int .u8 ((c : Nat) : Int)] w fun e w' => e = .returned (.bool (bInner c)) ∧ w = w' := by
  by_cases h1 : 32 ≤ c
  · by_cases h2 : c = 127
    · subst h2
      have HB := Lib.hid (blank_any 127 (by omega) w)
      go_enter Tryd.func72, Tryd.ntmps72
      go_wp2_with (go_at_call 75; refine HB.out.mono ?_; rintro e w' ⟨rfl, rfl⟩)
      go_ret
      exact ⟨ret_b (by rfl), rfl⟩
    · have E : Hid (bInner c = true) := Lib.hid (by rw [bInner_iff]; omega)
      have e1 : ((c : Int) != 127) = true := by rw [bne_iff_ne]; omega
      have e2 : ((c : Int) == 127) = false := ne_i (k := 127) h2
      have e3 : (32 : Int) ≤ (c : Int) := by omega
      clear h2
      go_enter Tryd.func72, Tryd.ntmps72
      go_wp2
      go_ret
      exact ⟨ret_b (by rw [E.out]), rfl⟩
  · have E : Hid (bBlank c = bInner c) := Lib.hid (by rw [Bool.eq_iff_iff, bBlank_iff, bInner_iff]; omega)
    have HB := Lib.hid (blank_any c hc w)
    have e3 : (c : Int) < 32 := by omega
    clear h1
    go_enter Tryd.func72, Tryd.ntmps72
    go_wp2_with (go_at_call 75; refine HB.out.mono ?_; rintro e w' ⟨rfl, rfl⟩)
    go_ret
    exact ⟨ret_b E.out, rfl⟩
end Go.Proofs.YtpkdiciinhjfjaaDoor

/- tribunalref04.SimpleByte; lexis.kindsOf, startOf (written by genlc.py). -/
namespace Go.Proofs.YtpkdiciinhjfjaaDoor
open Go.RowKit Mth

def SimR (c : Nat) (i : Value) : Prop := ∃ k : Nat, k ≤ 17 ∧ i = .int .i64 k ∧ ∀ j, j < k → moreL.getD j 0 ≠ c
theorem sim_step {c k : Nat} (h : ∀ j, j < k → moreL.getD j 0 ≠ c) (hk : moreL.getD k 0 ≠ c) : ∀ j, j < k + 1 → moreL.getD j 0 ≠ c := by
  intro j hj
  by_cases e : j = k
  · subst e; exact hk
  · exact h j (by omega)
theorem sim_end {c : Nat} (h : ∀ j, j < 17 → moreL.getD j 0 ≠ c) : bMore c = false := by
  rw [← Bool.not_eq_true, bMore_iff]
  rintro ⟨k, hk, e⟩; exact h k hk e
theorem more_at : ∀ (k : Nat) (h : k < 17), ((⟨#[126, 33, 64, 36, 37, 94, 38, 42, 95, 45, 43, 61, 60, 62, 46, 63, 47]⟩ : ByteArray)[k]'h).toNat = moreL.getD k 0 := by decide
/-- the table of simple bytes, as it lies in memory -/
def STab (w : World) : Prop := ∀ j, j < 128 → w.cell? ⟨0, j, none⟩ = some (.bool (bSimple j))
theorem simple_low {c : Nat} (h : bSimple c = true) : c < 128 := by
  rw [bSimple_iff, bMore_or] at h; omega
set_option maxHeartbeats 1000000 in
set_option maxRecDepth 100000 in
theorem kindsOf_any (c : Nat) (hc : c ≤ 255) (w : World) (hT : STab w) : Calls Tryd.prog 49 #[.int .u8 ((c : Nat) : Int)] w fun e w' => e = .returned (.int .i64 ((bKinds c : Nat) : Int)) ∧ w = w' := by
  have HT : Hid (c < 128 → w.cell? ⟨0, c, none⟩ = some (.bool (bSimple c))) := Lib.hid (hT c)
  have HL : Hid (bSimple c = true → c < 128) := Lib.hid simple_low
  clear hT
  have key : ∀ (a b d : Bool) (K : Nat), bBin c = a → bDig c = b → bHex c = d → K = (if a then 1 else 0) + (if b then 2 else 0) + (if d then 4 else 0) → bKinds c = K + if bSimple c then 8 else 0 := by
    intro a b d K h1 h2 h3 h4
    unfold bKinds
    rw [h1, h2, h3, h4]
  have KEY := Lib.hid key
  clear key
  rcases (show c = 48 ∨ c = 49 ∨ (50 ≤ c ∧ c ≤ 57) ∨ (97 ≤ c ∧ c ≤ 102) ∨ (65 ≤ c ∧ c ≤ 70) ∨ c < 48 ∨ (58 ≤ c ∧ c < 65) ∨ (71 ≤ c ∧ c < 97) ∨ (103 ≤ c ∧ c < 128) ∨ 128 ≤ c by omega) with rfl | rfl | ⟨a1, a2⟩ | ⟨a1, a2⟩ | ⟨a1, a2⟩ | a1 | ⟨a1, a2⟩ | ⟨a1, a2⟩ | ⟨a1, a2⟩ | a1
  · have EK := Lib.hid (KEY.out true true true 7 (by rfl) (by rfl) (by rfl) rfl)
    have hcell := HT.out (by omega)
    rcases Bool.eq_false_or_eq_true (bSimple 48) with hs | hs
    all_goals (
      have ER := Lib.hid (EK.out.trans (by rw [hs]))
      rw [hs] at hcell
      clear hs
      go_enter Tryd.func49, Tryd.ntmps49
      go_wp2
      go_ret
      exact ⟨ret_z (by rw [ER.out]; rfl), rfl⟩)
  · have EK := Lib.hid (KEY.out true true true 7 (by rfl) (by rfl) (by rfl) rfl)
    have hcell := HT.out (by omega)
    rcases Bool.eq_false_or_eq_true (bSimple 49) with hs | hs
    all_goals (
      have ER := Lib.hid (EK.out.trans (by rw [hs]))
      rw [hs] at hcell
      clear hs
      go_enter Tryd.func49, Tryd.ntmps49
      go_wp2
      go_ret
      exact ⟨ret_z (by rw [ER.out]; rfl), rfl⟩)
  · have EK := Lib.hid (KEY.out false true true 6 (by first | (rw [bBin_iff]; omega) | (rw [← Bool.not_eq_true, bBin_iff]; omega)) (by first | (rw [bDig_iff]; omega) | (rw [← Bool.not_eq_true, bDig_iff]; omega)) (by first | (rw [bHex_iff]; omega) | (rw [← Bool.not_eq_true, bHex_iff]; omega)) rfl)
    have e48 : ((c : Int) == 48) = false := ne_i (k := 48) (by omega)
    have e49 : ((c : Int) == 49) = false := ne_i (k := 49) (by omega)
    have hcell := HT.out (by omega)
    rcases Bool.eq_false_or_eq_true (bSimple c) with hs | hs
    all_goals (
      have ER := Lib.hid (EK.out.trans (by rw [hs]))
      rw [hs] at hcell
      clear hs
      go_enter Tryd.func49, Tryd.ntmps49
      go_wp2
      go_ret
      exact ⟨ret_z (by rw [ER.out]; rfl), rfl⟩)
  · have EK := Lib.hid (KEY.out false false true 4 (by first | (rw [bBin_iff]; omega) | (rw [← Bool.not_eq_true, bBin_iff]; omega)) (by first | (rw [bDig_iff]; omega) | (rw [← Bool.not_eq_true, bDig_iff]; omega)) (by first | (rw [bHex_iff]; omega) | (rw [← Bool.not_eq_true, bHex_iff]; omega)) rfl)
    have e48 : ((c : Int) == 48) = false := ne_i (k := 48) (by omega)
    have e49 : ((c : Int) == 49) = false := ne_i (k := 49) (by omega)
    have hcell := HT.out (by omega)
    rcases Bool.eq_false_or_eq_true (bSimple c) with hs | hs
    all_goals (
      have ER := Lib.hid (EK.out.trans (by rw [hs]))
      rw [hs] at hcell
      clear hs
      go_enter Tryd.func49, Tryd.ntmps49
      go_wp2
      go_ret
      exact ⟨ret_z (by rw [ER.out]; rfl), rfl⟩)
  · have EK := Lib.hid (KEY.out false false true 4 (by first | (rw [bBin_iff]; omega) | (rw [← Bool.not_eq_true, bBin_iff]; omega)) (by first | (rw [bDig_iff]; omega) | (rw [← Bool.not_eq_true, bDig_iff]; omega)) (by first | (rw [bHex_iff]; omega) | (rw [← Bool.not_eq_true, bHex_iff]; omega)) rfl)
    have e48 : ((c : Int) == 48) = false := ne_i (k := 48) (by omega)
    have e49 : ((c : Int) == 49) = false := ne_i (k := 49) (by omega)
    have hcell := HT.out (by omega)
    rcases Bool.eq_false_or_eq_true (bSimple c) with hs | hs
    all_goals (
      have ER := Lib.hid (EK.out.trans (by rw [hs]))
      rw [hs] at hcell
      clear hs
      go_enter Tryd.func49, Tryd.ntmps49
      go_wp2
      go_ret
      exact ⟨ret_z (by rw [ER.out]; rfl), rfl⟩)
  · have EK := Lib.hid (KEY.out false false false 0 (by first | (rw [bBin_iff]; omega) | (rw [← Bool.not_eq_true, bBin_iff]; omega)) (by first | (rw [bDig_iff]; omega) | (rw [← Bool.not_eq_true, bDig_iff]; omega)) (by first | (rw [bHex_iff]; omega) | (rw [← Bool.not_eq_true, bHex_iff]; omega)) rfl)
    have e48 : ((c : Int) == 48) = false := ne_i (k := 48) (by omega)
    have e49 : ((c : Int) == 49) = false := ne_i (k := 49) (by omega)
    have hcell := HT.out (by omega)
    rcases Bool.eq_false_or_eq_true (bSimple c) with hs | hs
    all_goals (
      have ER := Lib.hid (EK.out.trans (by rw [hs]))
      rw [hs] at hcell
      clear hs
      go_enter Tryd.func49, Tryd.ntmps49
      go_wp2
      go_ret
      exact ⟨ret_z (by rw [ER.out]; rfl), rfl⟩)
  · have EK := Lib.hid (KEY.out false false false 0 (by first | (rw [bBin_iff]; omega) | (rw [← Bool.not_eq_true, bBin_iff]; omega)) (by first | (rw [bDig_iff]; omega) | (rw [← Bool.not_eq_true, bDig_iff]; omega)) (by first | (rw [bHex_iff]; omega) | (rw [← Bool.not_eq_true, bHex_iff]; omega)) rfl)
    have e48 : ((c : Int) == 48) = false := ne_i (k := 48) (by omega)
    have e49 : ((c : Int) == 49) = false := ne_i (k := 49) (by omega)
    have hcell := HT.out (by omega)
    rcases Bool.eq_false_or_eq_true (bSimple c) with hs | hs
    all_goals (
      have ER := Lib.hid (EK.out.trans (by rw [hs]))
      rw [hs] at hcell
      clear hs
      go_enter Tryd.func49, Tryd.ntmps49
      go_wp2
      go_ret
      exact ⟨ret_z (by rw [ER.out]; rfl), rfl⟩)
  · have EK := Lib.hid (KEY.out false false false 0 (by first | (rw [bBin_iff]; omega) | (rw [← Bool.not_eq_true, bBin_iff]; omega)) (by first | (rw [bDig_iff]; omega) | (rw [← Bool.not_eq_true, bDig_iff]; omega)) (by first | (rw [bHex_iff]; omega) | (rw [← Bool.not_eq_true, bHex_iff]; omega)) rfl)
    have e48 : ((c : Int) == 48) = false := ne_i (k := 48) (by omega)
    have e49 : ((c : Int) == 49) = false := ne_i (k := 49) (by omega)
    have hcell := HT.out (by omega)
    rcases Bool.eq_false_or_eq_true (bSimple c) with hs | hs
    all_goals (
      have ER := Lib.hid (EK.out.trans (by rw [hs]))
      rw [hs] at hcell
      clear hs
      go_enter Tryd.func49, Tryd.ntmps49
      go_wp2
      go_ret
      exact ⟨ret_z (by rw [ER.out]; rfl), rfl⟩)
  · have EK := Lib.hid (KEY.out false false false 0 (by first | (rw [bBin_iff]; omega) | (rw [← Bool.not_eq_true, bBin_iff]; omega)) (by first | (rw [bDig_iff]; omega) | (rw [← Bool.not_eq_true, bDig_iff]; omega)) (by first | (rw [bHex_iff]; omega) | (rw [← Bool.not_eq_true, bHex_iff]; omega)) rfl)
    have e48 : ((c : Int) == 48) = false := ne_i (k := 48) (by omega)
    have e49 : ((c : Int) == 49) = false := ne_i (k := 49) (by omega)
    have hcell := HT.out (by omega)
    rcases Bool.eq_false_or_eq_true (bSimple c) with hs | hs
    all_goals (
      have ER := Lib.hid (EK.out.trans (by rw [hs]))
      rw [hs] at hcell
      clear hs
      go_enter Tryd.func49, Tryd.ntmps49
      go_wp2
      go_ret
      exact ⟨ret_z (by rw [ER.out]; rfl), rfl⟩)
  · have EK := Lib.hid (KEY.out false false false 0 (by first | (rw [bBin_iff]; omega) | (rw [← Bool.not_eq_true, bBin_iff]; omega)) (by first | (rw [bDig_iff]; omega) | (rw [← Bool.not_eq_true, bDig_iff]; omega)) (by first | (rw [bHex_iff]; omega) | (rw [← Bool.not_eq_true, bHex_iff]; omega)) rfl)
    have e48 : ((c : Int) == 48) = false := ne_i (k := 48) (by omega)
    have e49 : ((c : Int) == 49) = false := ne_i (k := 49) (by omega)
    have hs : bSimple c = false := by
      rw [← Bool.not_eq_true]; intro h; have := HL.out h; omega
    have ER := Lib.hid (EK.out.trans (by rw [hs]))
    clear hs
    go_enter Tryd.func49, Tryd.ntmps49
    go_wp2
    go_ret
    exact ⟨ret_z (by rw [ER.out]; rfl), rfl⟩
end Go.Proofs.YtpkdiciinhjfjaaDoor

/- The reader of package lexis in memory; its small methods. -/
namespace Go.Proofs.YtpkdiciinhjfjaaDoor
open Go.RowKit Mth

/-- the reader in memory -/
def Rdr (w : World) (g : Nat) (s : ByteArray) (a l f : Nat) : Prop := w.heap[g]? = some (.cells #[.string s, .int .i64 (a : Int), .int .i64 (l : Int), .int .i64 (f : Int)] 65 (0, 0))
theorem Rdr.lt {w : World} {g : Nat} {s : ByteArray} {a l f : Nat} (h : Rdr w g s a l f) : g < w.heap.size := (Array.getElem?_eq_some_iff.1 h).1
theorem Rdr.cells {w : World} {g : Nat} {s : ByteArray} {a l f : Nat} (h : Rdr w g s a l f) :
    w.cell? ⟨g, 0, none⟩ = some (.string s) ∧ w.cell? ⟨g, 1, none⟩ = some (.int .i64 (a : Int)) ∧ w.cell? ⟨g, 2, none⟩ = some (.int .i64 (l : Int)) ∧ w.cell? ⟨g, 3, none⟩ = some (.int .i64 (f : Int)) ∧
    w.frozen? ⟨g, 0, none⟩ = false ∧ w.frozen? ⟨g, 1, none⟩ = false ∧ w.frozen? ⟨g, 2, none⟩ = false ∧ w.frozen? ⟨g, 3, none⟩ = false := by
  refine ⟨?_, ?_, ?_, ?_, frozen_of_row w g 0 _ _ h, frozen_of_row w g 1 _ _ h, frozen_of_row w g 2 _ _ h, frozen_of_row w g 3 _ _ h⟩ <;> (rw [cell_of_row w g _ _ _ (0, 0) h]; rfl)
theorem heap_setCell_row {w : World} {g i : Nat} {cs ds : Array Value} {T : TypeId} {v : Value} (h : w.heap[g]? = some (.cells cs T (0, 0))) (hd : cs.setIfInBounds i v = ds) : (w.setCell ⟨g, i, none⟩ v).heap[g]? = some (.cells ds T (0, 0)) := by
  have hlt := (Array.getElem?_eq_some_iff.1 h).1
  have h' : w.heap[g] = .cells cs T (0, 0) := by simpa [Array.getElem?_eq_getElem hlt] using h
  show (w.heap.modify g _)[g]? = _
  rw [Array.getElem?_eq_getElem (by simpa using hlt), Array.getElem_modify_self, h']
  subst hd
  rfl
theorem Rdr.setAt {w : World} {g : Nat} {s : ByteArray} {a l f a' : Nat} (h : Rdr w g s a l f) : Rdr (w.setCell ⟨g, 1, none⟩ (.int .i64 (a' : Int))) g s a' l f := heap_setCell_row h rfl
theorem Rdr.setLine {w : World} {g : Nat} {s : ByteArray} {a l f l' : Nat} (h : Rdr w g s a l f) : Rdr (w.setCell ⟨g, 2, none⟩ (.int .i64 (l' : Int))) g s a l' f := heap_setCell_row h rfl
theorem Rdr.setFirst {w : World} {g : Nat} {s : ByteArray} {a l f f' : Nat} (h : Rdr w g s a l f) : Rdr (w.setCell ⟨g, 3, none⟩ (.int .i64 (f' : Int))) g s a l f' := heap_setCell_row h rfl
theorem Rdr.drewN {w : World} {g : Nat} {s : ByteArray} {a l f : Nat} (h : Rdr w g s a l f) (n : Nat) : Rdr (w.drewN n) g s a l f := h
theorem grown_refl (w : World) (o : Option Nat) : w.grownBy w o := ⟨rfl, rfl, rfl, Nat.le_refl _, fun _ _ _ => rfl⟩
theorem grown_tr {a b c : World} {g : Nat} (h : a.grownBy b (some g)) (k : b.grownBy c (some g)) : a.grownBy c (some g) :=
  ⟨k.os.trans h.os, k.tape.trans h.tape, k.output.trans h.output, Nat.le_trans h.size k.size, fun i hi hn => (k.block i (Nat.lt_of_lt_of_le hi h.size) hn).trans (h.block i hi hn)⟩
theorem grown_drewN {a w : World} {o : Option Nat} (h : a.grownBy w o) (n : Nat) : a.grownBy (w.drewN n) o := ⟨h.os, h.tape, h.output, h.size, h.block⟩
theorem grown_set {a w : World} {g i : Nat} (h : a.grownBy w (some g)) (v : Value) : a.grownBy (w.setCell ⟨g, i, none⟩ v) (some g) :=
  ⟨h.os, h.tape, h.output, by simp [World.setCell]; exact h.size, fun k hk hn => (Below.heap_setCell _ _ _ _ (fun e => hn (by rw [e]))).trans (h.block k hk hn)⟩
theorem grown_alloc {a w : World} {o : Option Nat} (h : a.grownBy w o) (x : Obj) : a.grownBy (w.alloc x) o :=
  ⟨h.os, h.tape, h.output, by simp; exact Nat.le_succ_of_le h.size, fun k hk hn => (Below.heap_alloc _ _ _ (Nat.lt_of_lt_of_le hk h.size)).trans (h.block k hk hn)⟩
/-- the reader has gone on; all other blocks stay -/
def Adv (w w' : World) (g : Nat) (s : ByteArray) (a l f : Nat) : Prop := w.grownBy w' (some g) ∧ Rdr w' g s a l f
theorem Adv.trans {w w1 w2 : World} {g : Nat} {s : ByteArray} {a l f a' l' f' : Nat} (h : Adv w w1 g s a l f) (k : Adv w1 w2 g s a' l' f') : Adv w w2 g s a' l' f' := ⟨grown_tr h.1 k.1, k.2⟩

/-- the byte at i -/
def cb (s : ByteArray) (i : Nat) : Nat := if h : i < s.size then (s[i]'h).toNat else 0
theorem cb_at {s : ByteArray} {i : Nat} (h : i < s.size) : (s[i]'h).toNat = cb s i := by unfold cb; rw [dif_pos h]
theorem cb_lt (s : ByteArray) (i : Nat) : cb s i ≤ 255 := by
  unfold cb
  split
  · have := (s[i]'(by assumption)).toNat_lt; omega
  · omega

/-- where the reader is -/
def atIn (w : World) (g : Nat) : Nat := match w.cell? ⟨g, 1, none⟩ with | some (.int _ z) => z.toNat | _ => 0
theorem atIn_of {w : World} {g : Nat} {s : ByteArray} {a l f : Nat} (h : Rdr w g s a l f) : atIn w g = a := by
  unfold atIn; rw [h.cells.2.1]; simp

theorem meas_lt {w w' : World} {g : Nat} {s : ByteArray} {a a' l f : Nat} (h : atIn w g = a) (h' : Rdr w' g s a' l f) (h1 : a < a') (h2 : a' ≤ s.size) : s.size - atIn w' g < s.size - atIn w g := by
  rw [h, atIn_of h']; omega

set_option maxRecDepth 100000 in
theorem past_yes (g : Nat) (s : ByteArray) (a l f b : Nat) (w : World) (h : Rdr w g s a l f) (hs : s.size ≤ 1048576) (ha : a < s.size) (hb : cb s a = b) :
    Calls Tryd.prog 57 #[.pointer (some ⟨g, 0, none⟩), .int .u8 (b : Int)] w fun e w' => e = .returned (.bool true) ∧ Adv w w' g s (a + 1) l f := by
  obtain ⟨c0, c1, c2, c3, f0, f1, f2, f3⟩ := h.cells
  have HR := Lib.hid h
  have hbk := cb_at ha
  rw [hb] at hbk
  have e0 : ((a : Int) == (s.size : Int)) = false := ne_i (by omega)
  have hb255 : b ≤ 255 := by rw [← hb]; exact cb_lt s a
  clear hb h
  go_enter Tryd.func57, Tryd.ntmps57
  go_wp2
  go_quiet (fail)
  go_wp2
  go_ret
  exact ⟨rfl, grown_set (grown_drewN (grown_refl _ _) _) _, (HR.out.drewN _).setAt⟩
set_option maxRecDepth 100000 in
theorem past_end (g : Nat) (s : ByteArray) (l f b : Nat) (w : World) (h : Rdr w g s s.size l f) (hs : s.size ≤ 1048576) :
    Calls Tryd.prog 57 #[.pointer (some ⟨g, 0, none⟩), .int .u8 (b : Int)] w fun e w' => e = .returned (.bool false) ∧ Adv w w' g s s.size l f := by
  obtain ⟨c0, c1, c2, c3, f0, f1, f2, f3⟩ := h.cells
  have HR := Lib.hid h
  clear h
  go_enter Tryd.func57, Tryd.ntmps57
  go_wp2
  go_quiet (fail)
  go_wp2
  go_ret
  exact ⟨rfl, grown_drewN (grown_refl _ _) _, HR.out.drewN _⟩
set_option maxRecDepth 100000 in
theorem past_not (g : Nat) (s : ByteArray) (a l f b : Nat) (w : World) (h : Rdr w g s a l f) (hs : s.size ≤ 1048576) (ha : a < s.size) (hb : cb s a ≠ b) :
    Calls Tryd.prog 57 #[.pointer (some ⟨g, 0, none⟩), .int .u8 (b : Int)] w fun e w' => e = .returned (.bool false) ∧ Adv w w' g s a l f := by
  obtain ⟨c0, c1, c2, c3, f0, f1, f2, f3⟩ := h.cells
  have HR := Lib.hid h
  have hbk := cb_at ha
  generalize cb s a = c at *
  have e0 : ((a : Int) == (s.size : Int)) = false := ne_i (by omega)
  have e1 : ((c : Int) != (b : Int)) = true := by rw [bne_iff_ne]; omega
  clear hb h
  go_enter Tryd.func57, Tryd.ntmps57
  go_wp2
  go_quiet (fail)
  go_wp2
  go_ret
  exact ⟨rfl, grown_drewN (grown_refl _ _) _, HR.out.drewN _⟩
/-- past a byte -/
def pastB (s : ByteArray) (a b : Nat) : Bool := decide (a < s.size) && cb s a == b
theorem past_any (g : Nat) (s : ByteArray) (a l f b : Nat) (w : World) (h : Rdr w g s a l f) (hs : s.size ≤ 1048576) (ha : a ≤ s.size) :
    Calls Tryd.prog 57 #[.pointer (some ⟨g, 0, none⟩), .int .u8 (b : Int)] w fun e w' => e = .returned (.bool (pastB s a b)) ∧ Adv w w' g s (if pastB s a b then a + 1 else a) l f := by
  by_cases h1 : a < s.size
  · by_cases h2 : cb s a = b
    · have e : pastB s a b = true := by simp [pastB, h1, h2]
      rw [e]; exact past_yes g s a l f b w h hs h1 h2
    · have e : pastB s a b = false := by simp [pastB, h1, h2]
      rw [e]; exact past_not g s a l f b w h hs h1 h2
  · obtain rfl : a = s.size := by omega
    have e : pastB s s.size b = false := by simp [pastB]
    rw [e]; exact past_end g s l f b w h hs

set_option maxRecDepth 100000 in
theorem newLine_any (g : Nat) (s : ByteArray) (a l f : Nat) (w : World) (h : Rdr w g s a l f) (ha : a ≤ 1048576) (hl : l ≤ 1048577) :
    Calls Tryd.prog 48 #[.pointer (some ⟨g, 0, none⟩)] w fun e w' => e = .returned (.tuple #[]) ∧ Adv w w' g s a (l + 1) (a + 1) := by
  obtain ⟨c0, c1, c2, c3, f0, f1, f2, f3⟩ := h.cells
  have HR := Lib.hid h
  clear h
  go_enter Tryd.func48, Tryd.ntmps48
  go_wp2
  go_end0
  exact ⟨rfl, grown_set (grown_set (grown_refl _ _) _) _, (HR.out.setLine (l' := l + 1)).setFirst⟩
set_option maxRecDepth 100000 in
theorem column_any (g : Nat) (s : ByteArray) (a l f : Nat) (w : World) (h : Rdr w g s a l f) (ha : a ≤ 1048576) (hl : f ≤ a) :
    Calls Tryd.prog 21 #[.pointer (some ⟨g, 0, none⟩)] w fun e w' => e = .returned (.int .i64 ((a - f + 1 : Nat) : Int)) ∧ ∃ n, w' = w.drewN n := by
  obtain ⟨c0, c1, c2, c3, f0, f1, f2, f3⟩ := h.cells
  have E : Hid ((a : Int) - (f : Int) + 1 = ((a - f + 1 : Nat) : Int)) := Lib.hid (by omega)
  clear h
  go_enter Tryd.func21, Tryd.ntmps21
  go_wp2
  go_quiet (fail)
  go_wp2
  go_ret
  exact ⟨ret_z E.out, _, rfl⟩
def OvR (w wr : World) (g : Nat) (s : ByteArray) (P : Nat → Bool) (a l f : Nat) : Prop := ∃ p : Nat, a ≤ p ∧ p ≤ s.size ∧ Adv w wr g s p l f ∧ ∀ i, a ≤ i → i < p → P (cb s i) = true
set_option maxRecDepth 100000 in
theorem comment_any (g : Nat) (s : ByteArray) (a l f : Nat) (w : World) (h : Rdr w g s a l f) (hs : s.size ≤ 1048576) (ha : a ≤ s.size) :
    Calls Tryd.prog 47 #[.pointer (some ⟨g, 0, none⟩)] w fun e w' => e = .returned (.tuple #[]) ∧ ∃ q, a ≤ q ∧ q ≤ s.size ∧ (∀ i, a ≤ i → i < q → (cb s i != 10) = true) ∧ (q = s.size ∨ cb s q = 10) ∧ Adv w w' g s q l f := by
  have HR := Lib.hid h
  clear h
  go_enter Tryd.func47, Tryd.ntmps47
  go_wp2
  go_loopw [] (fun wr => OvR w wr g s (fun c => c != 10) a l f) (fun wr => s.size - atIn wr g)
  case atStart => exact ⟨a, Nat.le_refl _, ha, ⟨grown_refl _ _, HR.out⟩, fun i h1 h2 => by omega⟩
  case round =>
    obtain ⟨p, h1, h2, hadv, hall⟩ := hrel
    have HA := Lib.hid hadv
    have HALL := Lib.hid hall
    have hr := hadv.2
    have HM : Hid (atIn wr g = p) := Lib.hid (atIn_of hr)
    obtain ⟨c0, c1, c2, c3, f0, f1, f2, f3⟩ := hr.cells
    clear hadv hall hr
    by_cases hlt : p < s.size
    · have hbk := cb_at hlt
      by_cases hb : cb s p = 10
      · have HE := Lib.hid hb
        rw [hb] at hbk
        clear hb
        go_wp2
        go_quiet (fail)
        go_wp2
        go_end0
        exact ⟨rfl, p, h1, h2, HALL.out, .inr HE.out, grown_drewN HA.out.1 _, HA.out.2.drewN _⟩
      · have HN : Hid ((cb s p != 10) = true) := Lib.hid (by rw [bne_iff_ne]; exact hb)
        have e1 : ((cb s p : Int) != 10) = true := by rw [bne_iff_ne]; omega
        have HS : Hid (∀ i, a ≤ i → i < p + 1 → (cb s i != 10) = true) := Lib.hid (fun i i1 i2 => by
          by_cases e : i = p
          · subst e; exact HN.out
          · exact HALL.out i i1 (by omega))
        clear hb
        go_wp2
        go_quiet (fail)
        go_wp2
        go_roundw
        case rel => exact ⟨p + 1, by omega, by omega, ⟨grown_set (grown_drewN HA.out.1 _) _, (HA.out.2.drewN _).setAt⟩, HS.out⟩
        case measure => exact meas_lt HM.out ((HA.out.2.drewN _).setAt (a' := p + 1)) (by omega) (by omega)
    · obtain rfl : p = s.size := by omega
      go_wp2
      go_quiet (fail)
      go_wp2
      go_end0
      exact ⟨rfl, s.size, h1, h2, HALL.out, .inl rfl, grown_drewN HA.out.1 _, HA.out.2.drewN _⟩
end Go.Proofs.YtpkdiciinhjfjaaDoor

/- lexis: over, through, skip, ended. -/
namespace Go.Proofs.YtpkdiciinhjfjaaDoor
open Go.RowKit Mth

/-- what the calls of lexis read of the package-level variables -/
structure LexW (w : World) : Prop where
  tab : STab w
  max : ∃ m, w.cell? ⟨2, 0, none⟩ = some (.int .i64 m)
theorem LexW.drewN {w : World} (h : LexW w) (n : Nat) : LexW (w.drewN n) := ⟨h.tab, h.max⟩
theorem LexW.blocks {w w' : World} (h : LexW w) (h1 : w'.heap[(0 : Nat)]? = w.heap[(0 : Nat)]?) (h2 : w'.heap[(2 : Nat)]? = w.heap[(2 : Nat)]?) : LexW w' :=
  ⟨fun j hj => (World.cell?_of_block (w := w) (a := ⟨0, j, none⟩) h1).trans (h.tab j hj), by
    obtain ⟨m, hm⟩ := h.max
    exact ⟨m, (World.cell?_of_block (w := w) (a := ⟨2, 0, none⟩) h2).trans hm⟩⟩
theorem LexW.lt1 {w : World} (h : LexW w) : 0 < w.heap.size := World.block_lt_of_cell? w _ (h.tab 0 (by omega))
theorem LexW.lt2 {w : World} (h : LexW w) : 2 < w.heap.size := by obtain ⟨m, hm⟩ := h.max; exact World.block_lt_of_cell? w _ hm
theorem LexW.below {w w' : World} (h : LexW w) (hb : Below w.heap.size w w') : LexW w' := h.blocks (hb.block _ h.lt1) (hb.block _ h.lt2)
theorem LexW.ne {w : World} (h : LexW w) {g : Nat} {s : ByteArray} {a l f : Nat} (hr : Rdr w g s a l f) : 0 ≠ g ∧ 2 ≠ g := by
  constructor
  · intro e
    have h1 := h.tab 0 (by omega)
    have h2 := hr.cells.1
    rw [← e, h1] at h2; cases h2
  · intro e
    obtain ⟨m, hm⟩ := h.max
    have h2 := hr.cells.1
    rw [← e, hm] at h2; cases h2
theorem LexW.grown {w w' : World} (h : LexW w) {g : Nat} {s : ByteArray} {a l f : Nat} (hr : Rdr w g s a l f) (hg : w.grownBy w' (some g)) : LexW w' :=
  h.blocks (hg.block _ h.lt1 (fun e => (h.ne hr).1 (Option.some.inj e))) (hg.block _ h.lt2 (fun e => (h.ne hr).2 (Option.some.inj e)))

/-- of the kinds k -/
def kin (k : Nat) (c : Nat) : Bool := bits BinOp.and IntKind.i64 ((bKinds c : Nat) : Int) (k : Int) != 0
theorem kinds_cases (c : Nat) : (bKinds c = 15 ∧ bBin c = true ∧ bDig c = true ∧ bHex c = true ∧ bSimple c = true) ∨ (bKinds c = 14 ∧ bBin c = false ∧ bDig c = true ∧ bHex c = true ∧ bSimple c = true) ∨
    (bKinds c = 12 ∧ bBin c = false ∧ bDig c = false ∧ bHex c = true ∧ bSimple c = true) ∨ (bKinds c = 8 ∧ bBin c = false ∧ bDig c = false ∧ bHex c = false ∧ bSimple c = true) ∨ (bKinds c = 0 ∧ bBin c = false ∧ bDig c = false ∧ bHex c = false ∧ bSimple c = false) := by
  have e1 : bBin c = true → bDig c = true := by rw [bBin_iff, bDig_iff]; omega
  have e2 : bDig c = true → bHex c = true := by rw [bDig_iff, bHex_iff]; omega
  have e3 : bHex c = true → bSimple c = true := by
    rw [bHex_iff, bSimple_iff]
    intro h
    rcases h with h | h | h
    · exact .inr (.inr (.inl h))
    · exact .inl ⟨h.1, by omega⟩
    · exact .inr (.inl ⟨h.1, by omega⟩)
  unfold bKinds
  cases h1 : bBin c <;> cases h2 : bDig c <;> cases h3 : bHex c <;> cases h4 : bSimple c <;> simp_all
theorem kin_bin (c : Nat) : kin 1 c = bBin c := by
  unfold kin; rcases kinds_cases c with ⟨h, h1, _⟩ | ⟨h, h1, _⟩ | ⟨h, h1, _⟩ | ⟨h, h1, _⟩ | ⟨h, h1, _⟩ <;> (rw [h, h1]; decide)
theorem kin_dig (c : Nat) : kin 2 c = bDig c := by
  unfold kin; rcases kinds_cases c with ⟨h, _, h1, _⟩ | ⟨h, _, h1, _⟩ | ⟨h, _, h1, _⟩ | ⟨h, _, h1, _⟩ | ⟨h, _, h1, _⟩ <;> (rw [h, h1]; decide)
theorem kin_hex (c : Nat) : kin 4 c = bHex c := by
  unfold kin; rcases kinds_cases c with ⟨h, _, _, h1, _⟩ | ⟨h, _, _, h1, _⟩ | ⟨h, _, _, h1, _⟩ | ⟨h, _, _, h1, _⟩ | ⟨h, _, _, h1, _⟩ <;> (rw [h, h1]; decide)
theorem kin_simple (c : Nat) : kin 8 c = bSimple c := by
  unfold kin; rcases kinds_cases c with ⟨h, _, _, _, h1⟩ | ⟨h, _, _, _, h1⟩ | ⟨h, _, _, _, h1⟩ | ⟨h, _, _, _, h1⟩ | ⟨h, _, _, _, h1⟩ <;> (rw [h, h1]; decide)
theorem kin_none (c : Nat) : kin 0 c = false := by
  unfold kin; rcases kinds_cases c with ⟨h, _⟩ | ⟨h, _⟩ | ⟨h, _⟩ | ⟨h, _⟩ | ⟨h, _⟩ <;> (rw [h]; decide)

/-- from a to q are bytes of the kind, and no more -/
def RunTo (s : ByteArray) (P : Nat → Bool) (a q : Nat) : Prop := a ≤ q ∧ q ≤ s.size ∧ (∀ i, a ≤ i → i < q → P (cb s i) = true) ∧ (q = s.size ∨ P (cb s q) = false)
theorem run_more {s : ByteArray} {P : Nat → Bool} {a p : Nat} (h : ∀ i, a ≤ i → i < p → P (cb s i) = true) (hp : P (cb s p) = true) : ∀ i, a ≤ i → i < p + 1 → P (cb s i) = true := by
  intro i i1 i2
  by_cases e : i = p
  · subst e; exact hp
  · exact h i i1 (by omega)
def OverO (w w' : World) (g : Nat) (s : ByteArray) (P : Nat → Bool) (a l f : Nat) (e : Ending) : Prop := ∃ q, e = .returned (.int .i64 ((q - a : Nat) : Int)) ∧ RunTo s P a q ∧ Adv w w' g s q l f
set_option maxRecDepth 100000 in
theorem over_any (g : Nat) (s : ByteArray) (a l f k : Nat) (w : World) (h : Rdr w g s a l f) (hL : LexW w) (hs : s.size ≤ 1048576) (ha : a ≤ s.size) :
    Calls Tryd.prog 58 #[.pointer (some ⟨g, 0, none⟩), .int .i64 (k : Int)] w fun e w' => OverO w w' g s (kin k) a l f e := by
  have HR := Lib.hid h
  have HL := Lib.hid hL
  obtain ⟨c0, c1, c2, c3, f0, f1, f2, f3⟩ := h.cells
  clear h hL
  go_enter Tryd.func58, Tryd.ntmps58
  go_wp2
  go_loopw [] (fun wr => OvR w wr g s (kin k) a l f) (fun wr => s.size - atIn wr g)
  case atStart => exact ⟨a, Nat.le_refl _, ha, ⟨grown_refl _ _, HR.out⟩, fun i h1 h2 => by omega⟩
  case round =>
    obtain ⟨p, h1, h2, hadv, hall⟩ := hrel
    have HA := Lib.hid hadv
    have HALL := Lib.hid hall
    have hr := hadv.2
    have HM : Hid (atIn wr g = p) := Lib.hid (atIn_of hr)
    have HLw := Lib.hid (HL.out.grown HR.out hadv.1)
    obtain ⟨d0, d1, d2, d3, g0, g1, g2, g3⟩ := hr.cells
    have EQ : Hid ((p : Int) - (a : Int) = ((p - a : Nat) : Int)) := Lib.hid (by omega)
    clear hadv hall hr c0 c1 c2 c3 f0 f1 f2 f3
    by_cases hlt : p < s.size
    · have hbk := cb_at hlt
      have KO : Hid (∀ n, Calls Tryd.prog 49 #[.int .u8 ((cb s p : Nat) : Int)] (wr.drewN n) fun e w' => e = .returned (.int .i64 ((bKinds (cb s p) : Nat) : Int)) ∧ w' = wr.drewN n) :=
        Lib.hid (fun n => (kindsOf_any _ (cb_lt s p) _ (HLw.out.drewN n).tab).mono fun _ _ ⟨x, y⟩ => ⟨x, y.symm⟩)
      rcases Bool.eq_false_or_eq_true (kin k (cb s p)) with hb | hb
      · have HS := Lib.hid (run_more HALL.out hb)
        unfold kin at hb
        go_wp2
        go_quiet ((go_at_call 49; exact Calls.quiet_of_same (KO.out _)))
        go_wp2
        go_roundw
        case rel => exact ⟨p + 1, by omega, by omega, ⟨grown_set (grown_drewN HA.out.1 _) _, (HA.out.2.drewN _).setAt⟩, HS.out⟩
        case measure => exact meas_lt HM.out ((HA.out.2.drewN _).setAt (a' := p + 1)) (by omega) (by omega)
      · have HE := Lib.hid hb
        unfold kin at hb
        go_wp2
        go_quiet ((go_at_call 49; exact Calls.quiet_of_same (KO.out _)))
        go_wp2
        go_ret
        exact ⟨p, ret_z EQ.out, ⟨h1, h2, HALL.out, .inr HE.out⟩, grown_drewN HA.out.1 _, HA.out.2.drewN _⟩
    · obtain rfl : p = s.size := by omega
      go_wp2
      go_quiet (fail)
      go_wp2
      go_ret
      exact ⟨s.size, ret_z EQ.out, ⟨h1, h2, HALL.out, .inl rfl⟩, grown_drewN HA.out.1 _, HA.out.2.drewN _⟩
end Go.Proofs.YtpkdiciinhjfjaaDoor
