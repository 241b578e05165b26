/- lexis: what a whole text is, in plain mathematics: blanks and comments gone past, tokens one behind the other. -/
import Derived.Test.YtlgcmpiobglbbaaDoorLH
set_option linter.unusedVariables false
set_option linter.unusedSimpArgs false
namespace Go.Proofs.YtlgcmpiobglbbaaDoor
open Go.RowKit Mth

/-- where a comment ends -/
def cmtF (s : ByteArray) (p : Nat) : Nat := if p < s.size then if cb s p = 10 then p else cmtF s (p + 1) else p
termination_by s.size - p
theorem cmt_ge {s : ByteArray} : ∀ (k : Nat) {p : Nat}, s.size - p ≤ k → p ≤ cmtF s p
  | 0, p, h => by rw [cmtF, if_neg (by omega)]; exact Nat.le_refl _
  | k + 1, p, h => by
    rw [cmtF]
    split
    · split
      · exact Nat.le_refl _
      · have := cmt_ge (s := s) k (p := p + 1) (by omega); omega
    · exact Nat.le_refl _
/-- where the next token begins -/
def skipF (s : ByteArray) (p : Nat) : Nat :=
  if p < s.size then if bBlank (cb s p) then skipF s (p + 1) else if cb s p = 59 then skipF s (cmtF s (p + 1)) else p else p
termination_by s.size - p
decreasing_by
  · omega
  · have := cmt_ge (s := s) s.size (p := p + 1) (by omega); omega
theorem skip_blank {s : ByteArray} {p : Nat} (h : p < s.size) (hb : bBlank (cb s p) = true) : skipF s p = skipF s (p + 1) := by rw [skipF, if_pos h, if_pos hb]
theorem skip_cmt {s : ByteArray} {p : Nat} (h : p < s.size) (hb : cb s p = 59) : skipF s p = skipF s (cmtF s (p + 1)) := by
  rw [skipF, if_pos h, if_neg (by rw [hb]; decide), if_pos hb]
theorem skip_here {s : ByteArray} {p : Nat} (hb : bBlank (cb s p) = false) (hc : cb s p ≠ 59) : skipF s p = p := by
  rw [skipF]; split
  · simp [hb]
  · rfl
theorem skip_end {s : ByteArray} {p : Nat} (h : s.size ≤ p) : skipF s p = p := by rw [skipF, if_neg (by omega)]
theorem cmt_of {s : ByteArray} : ∀ (k : Nat) {p q : Nat}, q - p ≤ k → p ≤ q → q ≤ s.size → (∀ i, p ≤ i → i < q → cb s i ≠ 10) → (q = s.size ∨ cb s q = 10) → cmtF s p = q
  | 0, p, q, h, h1, h2, h3, h4 => by
    obtain rfl : p = q := by omega
    rw [cmtF]
    split
    · rw [if_pos (h4.resolve_left (by omega))]
    · rfl
  | k + 1, p, q, h, h1, h2, h3, h4 => by
    by_cases e : p = q
    · exact cmt_of 0 (by omega) h1 h2 h3 h4
    · rw [cmtF, if_pos (by omega), if_neg (h3 p (Nat.le_refl _) (by omega))]
      exact cmt_of k (by omega) (by omega) h2 (fun i i1 i2 => h3 i (by omega) i2) h4
theorem skip_ge {s : ByteArray} : ∀ (k : Nat) {p : Nat}, s.size - p ≤ k → p ≤ skipF s p
  | 0, p, h => by rw [skip_end (by omega)]; exact Nat.le_refl _
  | k + 1, p, h => by
    rw [skipF]
    split
    · split
      · have := skip_ge (s := s) k (p := p + 1) (by omega); omega
      · split
        · have h1 := cmt_ge (s := s) s.size (p := p + 1) (by omega)
          have := skip_ge (s := s) k (p := cmtF s (p + 1)) (by omega); omega
        · exact Nat.le_refl _
    · exact Nat.le_refl _

/-- a token: of any kind, at any place -/
structure Tk where
  k : Int
  t : ByteArray
  q : Bool
  l : Int
  c : Int
inductive SR
  | ok (l : List Tk)
  | bad (e x y : Nat)
def SR.pre (L : List Tk) : SR → SR
  | .ok l => .ok (L ++ l)
  | .bad e x y => .bad e x y
theorem SR.pre_nil (r : SR) : r.pre [] = r := by cases r <;> rfl
theorem SR.pre_pre (L M : List Tk) (r : SR) : (r.pre M).pre L = r.pre (L ++ M) := by cases r <;> simp [SR.pre]
/-- line and column of a place -/
def colAt (s : ByteArray) (p : Nat) : Nat := p - fsAt s p + 1
/-- the tokens of a text from a place on -/
noncomputable def scanF (s : ByteArray) (p : Nat) : SR :=
  if skipF s p < s.size then
    match oneF s (skipF s p) with
    | .tok k t q n => if skipF s p < n then (scanF s n).pre [⟨k, t, q, lnAt s (skipF s p), colAt s (skipF s p)⟩] else .bad 0 0 0
    | .err e => .bad e (lnAt s (skipF s p)) (colAt s (skipF s p))
  else .ok []
termination_by s.size - p
decreasing_by
  have := skip_ge (s := s) s.size (p := p) (by omega); omega
theorem scan_end {s : ByteArray} {p : Nat} (h : s.size ≤ skipF s p) : scanF s p = .ok [] := by rw [scanF, if_neg (by omega)]
theorem scan_tok {s : ByteArray} {p k n : Nat} {t : ByteArray} {q : Bool} (h : skipF s p < s.size) (ho : oneF s (skipF s p) = .tok k t q n) (hn : skipF s p < n) :
    scanF s p = (scanF s n).pre [⟨k, t, q, lnAt s (skipF s p), colAt s (skipF s p)⟩] := by rw [scanF, if_pos h, ho]; simp only []; rw [if_pos hn]
theorem scan_err {s : ByteArray} {p e : Nat} (h : skipF s p < s.size) (ho : oneF s (skipF s p) = .err e) : scanF s p = .bad e (lnAt s (skipF s p)) (colAt s (skipF s p)) := by rw [scanF, if_pos h, ho]
/-- the tokens of a text, where it is not too long -/
noncomputable def scanS (s : ByteArray) : SR := if s.size ≤ 1048576 then scanF s 0 else .bad 2 0 0
end Go.Proofs.YtlgcmpiobglbbaaDoor
