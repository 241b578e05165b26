/- Tokens of SMT-LIB in plain mathematics: kinds of bytes; where a token ends. -/
namespace Go.Proofs.YtlgcmpiobglbbaaDoor.Mth

def bBlank (c : Nat) : Bool := c == 9 || c == 10 || c == 13 || c == 32
def bInner (c : Nat) : Bool := bBlank c || (decide (32 ≤ c) && c != 127)
def bDig (c : Nat) : Bool := decide (48 ≤ c) && decide (c ≤ 57)
def bBin (c : Nat) : Bool := c == 48 || c == 49
def bHex (c : Nat) : Bool := bDig c || (decide (97 ≤ c) && decide (c ≤ 102)) || (decide (65 ≤ c) && decide (c ≤ 70))
def bEnd (c : Nat) : Bool := bBlank c || c == 40 || c == 41 || c == 59 || c == 34 || c == 124
/-- the bytes beside letters and digits that may stand in a symbol -/
def bMore (c : Nat) : Bool := [126, 33, 64, 36, 37, 94, 38, 42, 95, 45, 43, 61, 60, 62, 46, 63, 47].contains c
def bSimple (c : Nat) : Bool := (decide (97 ≤ c) && decide (c ≤ 122)) || (decide (65 ≤ c) && decide (c ≤ 90)) || bDig c || bMore c
/-- the kinds of a byte, as the program keeps them -/
def bKinds (c : Nat) : Nat := (if bBin c then 1 else 0) + (if bDig c then 2 else 0) + (if bHex c then 4 else 0) + (if bSimple c then 8 else 0)
theorem bBlank_iff {c : Nat} : bBlank c = true ↔ c = 9 ∨ c = 10 ∨ c = 13 ∨ c = 32 := by simp [bBlank]; omega
theorem bInner_iff {c : Nat} : bInner c = true ↔ c = 9 ∨ c = 10 ∨ c = 13 ∨ (32 ≤ c ∧ c ≠ 127) := by simp [bInner, bBlank]; omega
theorem bDig_iff {c : Nat} : bDig c = true ↔ 48 ≤ c ∧ c ≤ 57 := by simp [bDig]
theorem bBin_iff {c : Nat} : bBin c = true ↔ c = 48 ∨ c = 49 := by simp [bBin]
theorem bHex_iff {c : Nat} : bHex c = true ↔ (48 ≤ c ∧ c ≤ 57) ∨ (97 ≤ c ∧ c ≤ 102) ∨ (65 ≤ c ∧ c ≤ 70) := by simp [bHex, bDig]; omega
theorem bEnd_iff {c : Nat} : bEnd c = true ↔ c = 9 ∨ c = 10 ∨ c = 13 ∨ c = 32 ∨ c = 40 ∨ c = 41 ∨ c = 59 ∨ c = 34 ∨ c = 124 := by simp [bEnd, bBlank]; omega
def moreL : List Nat := [126, 33, 64, 36, 37, 94, 38, 42, 95, 45, 43, 61, 60, 62, 46, 63, 47]
theorem bMore_iff {c : Nat} : bMore c = true ↔ ∃ k, k < 17 ∧ moreL.getD k 0 = c := by
  show moreL.contains c = true ↔ _
  rw [List.contains_iff_mem, List.mem_iff_getElem]
  constructor
  · rintro ⟨k, hk, e⟩
    exact ⟨k, hk, by rw [List.getD_eq_getElem?_getD, List.getElem?_eq_getElem hk, ← e]; rfl⟩
  · rintro ⟨k, hk, e⟩
    have hk' : k < moreL.length := hk
    refine ⟨k, hk', ?_⟩
    rw [List.getD_eq_getElem?_getD, List.getElem?_eq_getElem hk'] at e; exact e
theorem bMore_or {c : Nat} : bMore c = true ↔ c = 126 ∨ c = 33 ∨ c = 64 ∨ c = 36 ∨ c = 37 ∨ c = 94 ∨ c = 38 ∨ c = 42 ∨ c = 95 ∨ c = 45 ∨ c = 43 ∨ c = 61 ∨ c = 60 ∨ c = 62 ∨ c = 46 ∨ c = 63 ∨ c = 47 := by simp [bMore]
theorem bSimple_iff {c : Nat} : bSimple c = true ↔ (97 ≤ c ∧ c ≤ 122) ∨ (65 ≤ c ∧ c ≤ 90) ∨ (48 ≤ c ∧ c ≤ 57) ∨ bMore c = true := by simp [bSimple, bDig, or_assoc]
theorem simple_not_end {c : Nat} (h : bSimple c = true) : bEnd c = false := by
  rw [← Bool.not_eq_true, bEnd_iff]
  rw [bSimple_iff, bMore_or] at h
  omega
end Go.Proofs.YtlgcmpiobglbbaaDoor.Mth
