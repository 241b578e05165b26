/- Tokens in plain mathematics: what stands at a place. -/
import Derived.Test.YtlgcmpiobglbbaaDoorLG
import Derived.Lib.Case
set_option linter.unusedVariables false
set_option linter.unusedSimpArgs false
namespace Go.Proofs.YtlgcmpiobglbbaaDoor
open Go.RowKit Mth

inductive Res
  | tok (k : Nat) (t : ByteArray) (q : Bool) (n : Nat)
  | err (e : Nat)
/-- where the piece that begins at p ends -/
def endAt (s : ByteArray) (p : Nat) : Nat := if p < s.size then if bEnd (cb s p) then p else endAt s (p + 1) else p
termination_by s.size - p
def allP (s : ByteArray) (P : Nat → Bool) (a b : Nat) : Prop := ∀ i, a ≤ i → i < b → P (cb s i) = true
def isNum (s : ByteArray) (p e : Nat) : Prop := p < e ∧ allP s bDig p e ∧ (cb s p ≠ 48 ∨ e = p + 1)
def isDec (s : ByteArray) (p e : Nat) : Prop := ∃ i, i < e ∧ cb s i = 46 ∧ isNum s p i ∧ allP s bDig (i + 1) e ∧ i + 1 < e
def lower (l : List UInt8) : List UInt8 := l.map Lib.lowerB
def lowB (t : ByteArray) : ByteArray := ⟨(lower t.data.toList).toArray⟩
open Classical in
/-- the token of a piece that has no end of its own -/
noncomputable def bareF (s : ByteArray) (p e : Nat) : Res :=
  if isNum s p e then .tok 3 (s.extract p e) false e else
  if isDec s p e then .tok 4 (s.extract p e) false e else
  if cb s p = 35 ∧ cb s (p + 1) = 120 ∧ p + 2 < e ∧ allP s bHex (p + 2) e then .tok 5 (lowB (s.extract (p + 2) e)) false e else
  if cb s p = 35 ∧ cb s (p + 1) = 98 ∧ p + 2 < e ∧ allP s bBin (p + 2) e then .tok 6 (s.extract (p + 2) e) false e else
  if cb s p = 58 ∧ p + 1 < e ∧ allP s bSimple (p + 1) e then .tok 9 (s.extract (p + 1) e) false e else
  if bDig (cb s p) = false ∧ p < e ∧ allP s bSimple p e then .tok 8 (s.extract p e) false e else .err 62
/-- a text, from behind its first mark on -/
def quF (s : ByteArray) (i : Nat) (t : ByteArray) : Res :=
  if i < s.size then
    if cb s i = 34 then (if i + 1 < s.size ∧ cb s (i + 1) = 34 then quF s (i + 2) (t ++ ⟨#[34]⟩) else .tok 7 t false (i + 1))
    else if bInner (cb s i) then quF s (i + 1) (t ++ s.extract i (i + 1)) else .err 61
  else .err 61
termination_by s.size - i
/-- a symbol with bars -/
def baF (s : ByteArray) (a i : Nat) : Res :=
  if i < s.size then
    if cb s i = 124 then .tok 8 (s.extract a i) true (i + 1)
    else if bInner (cb s i) = true ∧ cb s i ≠ 92 then baF s a (i + 1) else .err 61
  else .err 61
termination_by s.size - i
/-- the token at a place where no blank and no comment stands -/
noncomputable def oneF (s : ByteArray) (p : Nat) : Res :=
  if cb s p = 40 then .tok 1 ⟨#[40]⟩ false (p + 1) else
  if cb s p = 41 then .tok 2 ⟨#[41]⟩ false (p + 1) else
  if cb s p = 34 then quF s (p + 1) ⟨#[]⟩ else
  if cb s p = 124 then baF s (p + 1) (p + 1) else
  if cb s p ≠ 35 ∧ cb s p ≠ 58 ∧ bSimple (cb s p) = false then .err 60 else
  bareF s p (endAt s p)

theorem endAt_of {s : ByteArray} : ∀ (k : Nat) {p q : Nat}, q - p ≤ k → p ≤ q → q ≤ s.size → (∀ i, p ≤ i → i < q → bEnd (cb s i) = false) → (q = s.size ∨ bEnd (cb s q) = true) → endAt s p = q
  | 0, p, q, hk, h1, h2, _, h4 => by
    obtain rfl : p = q := by omega
    rw [endAt]
    rcases h4 with h | h
    · rw [if_neg (by omega)]
    · by_cases hp : p < s.size
      · rw [if_pos hp, if_pos h]
      · rw [if_neg hp]
  | k + 1, p, q, hk, h1, h2, h3, h4 => by
    by_cases e : p = q
    · exact endAt_of 0 (by omega) h1 h2 h3 h4
    · rw [endAt, if_pos (by omega), if_neg (by rw [h3 p (Nat.le_refl _) (by omega)]; simp)]
      exact endAt_of k (by omega) (by omega) h2 (fun i i1 i2 => h3 i (by omega) i2) h4
theorem endAt_spec {s : ByteArray} : ∀ (k : Nat) {p : Nat}, s.size - p ≤ k → p ≤ s.size → p ≤ endAt s p ∧ endAt s p ≤ s.size ∧ (∀ i, p ≤ i → i < endAt s p → bEnd (cb s i) = false) ∧ (endAt s p = s.size ∨ bEnd (cb s (endAt s p)) = true)
  | 0, p, hk, hp => by
    obtain rfl : p = s.size := by omega
    have e : endAt s s.size = s.size := by rw [endAt, if_neg (by omega)]
    rw [e]; exact ⟨by omega, by omega, fun i _ _ => by omega, .inl rfl⟩
  | k + 1, p, hk, hp => by
    by_cases h1 : p < s.size
    · by_cases h2 : bEnd (cb s p) = true
      · have e : endAt s p = p := by rw [endAt, if_pos h1, if_pos h2]
        rw [e]; exact ⟨by omega, by omega, fun i _ _ => by omega, .inr h2⟩
      · have e : endAt s p = endAt s (p + 1) := by rw [endAt, if_pos h1, if_neg h2]
        have ih := endAt_spec (s := s) k (p := p + 1) (by omega) (by omega)
        rw [e]
        refine ⟨by omega, ih.2.1, fun i i1 i2 => ?_, ih.2.2.2⟩
        by_cases e : i = p
        · subst e; simpa using h2
        · exact ih.2.2.1 i (by omega) i2
    · exact endAt_spec 0 (by omega) hp
/-- a place that is no end lies ahead of the end -/
theorem endAt_lt {s : ByteArray} {p q : Nat} (hp : p ≤ q) (hq : q < s.size) (h : ∀ i, p ≤ i → i ≤ q → bEnd (cb s i) = false) : q < endAt s p := by
  have hs := endAt_spec (s := s) s.size (p := p) (by omega) (by omega)
  rcases Nat.lt_or_ge q (endAt s p) with h1 | h1
  · exact h1
  · exfalso
    rcases hs.2.2.2 with h2 | h2
    · omega
    · rw [h _ hs.1 h1] at h2; cases h2
theorem dig_no_end {c : Nat} (h : bDig c = true) : bEnd c = false := by rw [← Bool.not_eq_true, bEnd_iff]; rw [bDig_iff] at h; omega
theorem hex_no_end {c : Nat} (h : bHex c = true) : bEnd c = false := by rw [← Bool.not_eq_true, bEnd_iff]; rw [bHex_iff] at h; omega
theorem bin_no_end {c : Nat} (h : bBin c = true) : bEnd c = false := by rw [← Bool.not_eq_true, bEnd_iff]; rw [bBin_iff] at h; omega
theorem dig_simple {c : Nat} (h : bDig c = true) : bSimple c = true := by rw [bSimple_iff]; rw [bDig_iff] at h; exact .inr (.inr (.inl h))
theorem end_of_run {s : ByteArray} {p q : Nat} (hpq : p ≤ q) (hq : q ≤ s.size) (h : ∀ i, p ≤ i → i < q → bEnd (cb s i) = false) (he : q = s.size ∨ bEnd (cb s q) = true) : endAt s p = q := endAt_of (q - p) (Nat.le_refl _) hpq hq h he
theorem allP_app {s : ByteArray} {P : Nat → Bool} {a b c : Nat} (h : allP s P a b) (k : allP s P b c) : allP s P a c := fun i i1 i2 => by
  rcases Nat.lt_or_ge i b with h1 | h1
  · exact h i i1 h1
  · exact k i h1 i2

theorem one_dig {s : ByteArray} {p : Nat} (h : bDig (cb s p) = true) : oneF s p = bareF s p (endAt s p) := by
  have hd := bDig_iff.1 h
  have hs := dig_simple h
  unfold oneF
  rw [if_neg (by omega), if_neg (by omega), if_neg (by omega), if_neg (by omega), if_neg (by rw [hs]; simp)]
theorem bare_dig_err {s : ByteArray} {p e : Nat} (hd : bDig (cb s p) = true) (h1 : ¬ isNum s p e) (h2 : ¬ isDec s p e) : bareF s p e = .err 62 := by
  have hd' := bDig_iff.1 hd
  unfold bareF
  rw [if_neg h1, if_neg h2, if_neg (by omega), if_neg (by omega), if_neg (by omega), if_neg (by rw [hd]; simp)]
theorem num_tok {s : ByteArray} {p q : Nat} (h : isNum s p q) (hq : q ≤ s.size) (he : q = s.size ∨ bEnd (cb s q) = true) : oneF s p = .tok 3 (s.extract p q) false q := by
  have hd := h.2.1 p (Nat.le_refl _) h.1
  have e : endAt s p = q := end_of_run (Nat.le_of_lt h.1) hq (fun i i1 i2 => dig_no_end (h.2.1 i i1 i2)) he
  rw [one_dig hd, e]
  unfold bareF
  rw [if_pos h]
theorem not_num_dot {s : ByteArray} {p q e : Nat} (hpq : p ≤ q) (hqe : q < e) (h : bDig (cb s q) = false) : ¬ isNum s p e := fun hn => by
  have := hn.2.1 q hpq hqe; rw [h] at this; cases this
theorem dot_nd {c : Nat} (h : c = 46) : bDig c = false ∧ bEnd c = false := by subst h; exact ⟨rfl, rfl⟩
theorem dec_tok {s : ByteArray} {p q1 q2 : Nat} (h : isNum s p q1) (hd : cb s q1 = 46) (h2 : allP s bDig (q1 + 1) q2) (hlt : q1 + 1 < q2) (hq : q2 ≤ s.size) (he : q2 = s.size ∨ bEnd (cb s q2) = true) : oneF s p = .tok 4 (s.extract p q2) false q2 := by
  have hdp := h.2.1 p (Nat.le_refl _) h.1
  have hp1 := h.1
  have e : endAt s p = q2 := end_of_run (by omega) hq (fun i i1 i2 => by
    rcases (show i < q1 ∨ i = q1 ∨ q1 + 1 ≤ i by omega) with h9 | h9 | h9
    · exact dig_no_end (h.2.1 i i1 h9)
    · subst h9; exact (dot_nd hd).2
    · exact dig_no_end (h2 i h9 i2)) he
  rw [one_dig hdp, e]
  unfold bareF
  rw [if_neg (not_num_dot (Nat.le_of_lt h.1) (by omega) (dot_nd hd).1), if_pos ⟨q1, by omega, hd, h, h2, hlt⟩]
/-- behind a numeral something else than it may -/
theorem num_err {s : ByteArray} {p q : Nat} (h : isNum s p q) (hq : q < s.size) (he : bEnd (cb s q) = false) (hd : cb s q ≠ 46) (hx : (cb s p = 48 ∧ q = p + 1) ∨ (cb s p ≠ 48 ∧ bDig (cb s q) = false)) : oneF s p = .err 62 := by
  have hdp := h.2.1 p (Nat.le_refl _) h.1
  have hp1 := h.1
  have hlt : q < endAt s p := endAt_lt (by omega) hq (fun i i1 i2 => by
    by_cases e : i = q
    · subst e; exact he
    · exact dig_no_end (h.2.1 i i1 (by omega)))
  rw [one_dig hdp]
  have key : ∀ e, q < e → ¬ isNum s p e := fun e h1 hn => by
    rcases hx with ⟨h2, h3⟩ | ⟨h2, h3⟩
    · rcases hn.2.2 with h4 | h4
      · exact h4 h2
      · omega
    · exact not_num_dot (Nat.le_of_lt hp1) h1 h3 hn
  refine bare_dig_err hdp (key _ hlt) ?_
  rintro ⟨i, i1, i2, i3, _⟩
  rcases (show i < q ∨ i = q ∨ q < i by omega) with h9 | h9 | h9
  · have := h.2.1 i (Nat.le_of_lt i3.1) h9; rw [i2] at this; cases this
  · subst h9; exact hd i2
  · exact key i h9 i3
theorem dec_err {s : ByteArray} {p q1 q2 : Nat} (h : isNum s p q1) (hd : cb s q1 = 46) (hq1 : q1 < s.size) (h2 : allP s bDig (q1 + 1) q2) (hq : q1 + 1 ≤ q2) (hx : (q1 + 1 = q2 ∧ (q2 = s.size ∨ bDig (cb s q2) = false)) ∨ (q2 < s.size ∧ bDig (cb s q2) = false ∧ bEnd (cb s q2) = false)) : oneF s p = .err 62 := by
  have hdp := h.2.1 p (Nat.le_refl _) h.1
  have hp1 := h.1
  have hne : ∀ i, p ≤ i → i < q2 → bEnd (cb s i) = false := fun i i1 i2 => by
    rcases (show i < q1 ∨ i = q1 ∨ q1 + 1 ≤ i by omega) with h9 | h9 | h9
    · exact dig_no_end (h.2.1 i i1 h9)
    · subst h9; exact (dot_nd hd).2
    · exact dig_no_end (h2 i h9 i2)
  have hlt : q1 < endAt s p := endAt_lt (by omega) hq1 (fun i i1 i2 => hne i i1 (by omega))
  rw [one_dig hdp]
  refine bare_dig_err hdp (not_num_dot (Nat.le_of_lt hp1) hlt (dot_nd hd).1) ?_
  rintro ⟨i, i1, i2, i3, i4, i5⟩
  rcases (show i < q1 ∨ i = q1 ∨ q1 < i by omega) with h9 | h9 | h9
  · have := h.2.1 i (Nat.le_of_lt i3.1) h9; rw [i2] at this; cases this
  · subst h9
    rcases hx with ⟨h3, h4⟩ | ⟨h3, h4, h6⟩
    · rcases h4 with h4 | h4
      · have := (endAt_spec (s := s) s.size (p := p) (by omega) (by omega)).2.1; omega
      · have := i4 q2 (by omega) (by omega); rw [h4] at this; cases this
    · have hl2 : q2 < endAt s p := endAt_lt (by omega) h3 (fun i i1 i2 => by
        by_cases e : i = q2
        · subst e; exact h6
        · exact hne i i1 (by omega))
      have := i4 q2 (by omega) hl2; rw [h4] at this; cases this
  · exact not_num_dot (Nat.le_of_lt hp1) h9 (dot_nd hd).1 i3
/-- a piece that begins with no digit is no number -/
theorem no_num {s : ByteArray} {p e : Nat} (h : bDig (cb s p) = false) : ¬ isNum s p e ∧ ¬ isDec s p e := by
  have key : ∀ e, ¬ isNum s p e := fun e hn => by have := hn.2.1 p (Nat.le_refl _) hn.1; rw [h] at this; cases this
  exact ⟨key e, fun ⟨i, _, _, i3, _⟩ => key i i3⟩
theorem one_hash {s : ByteArray} {p : Nat} (h : cb s p = 35) : oneF s p = bareF s p (endAt s p) := by
  unfold oneF
  rw [if_neg (by omega), if_neg (by omega), if_neg (by omega), if_neg (by omega), if_neg (by omega)]
theorem bare_hash {s : ByteArray} {p e : Nat} (h : cb s p = 35) (h1 : ¬ (cb s (p + 1) = 120 ∧ p + 2 < e ∧ allP s bHex (p + 2) e)) (h2 : ¬ (cb s (p + 1) = 98 ∧ p + 2 < e ∧ allP s bBin (p + 2) e)) : bareF s p e = .err 62 := by
  have hn := no_num (s := s) (p := p) (e := e) (by rw [h]; rfl)
  unfold bareF
  rw [if_neg hn.1, if_neg hn.2, if_neg (fun x => h1 x.2), if_neg (fun x => h2 x.2), if_neg (by omega), if_neg ?_]
  rintro ⟨_, x2, x3⟩
  have := x3 p (Nat.le_refl _) x2; rw [h] at this; cases this
theorem hex_tok {s : ByteArray} {p q : Nat} (h : cb s p = 35) (h1 : cb s (p + 1) = 120) (h2 : allP s bHex (p + 2) q) (hlt : p + 2 < q) (hq : q ≤ s.size) (he : q = s.size ∨ bEnd (cb s q) = true) : oneF s p = .tok 5 (lowB (s.extract (p + 2) q)) false q := by
  have e : endAt s p = q := end_of_run (by omega) hq (fun i i1 i2 => by
    rcases (show i = p ∨ i = p + 1 ∨ p + 2 ≤ i by omega) with h9 | h9 | h9
    · subst h9; rw [h]; rfl
    · subst h9; rw [h1]; rfl
    · exact hex_no_end (h2 i h9 i2)) he
  have hn := no_num (s := s) (p := p) (e := q) (by rw [h]; rfl)
  rw [one_hash h, e]
  unfold bareF
  rw [if_neg hn.1, if_neg hn.2, if_pos ⟨h, h1, hlt, h2⟩]
theorem bin_tok {s : ByteArray} {p q : Nat} (h : cb s p = 35) (h1 : cb s (p + 1) = 98) (h2 : allP s bBin (p + 2) q) (hlt : p + 2 < q) (hq : q ≤ s.size) (he : q = s.size ∨ bEnd (cb s q) = true) : oneF s p = .tok 6 (s.extract (p + 2) q) false q := by
  have e : endAt s p = q := end_of_run (by omega) hq (fun i i1 i2 => by
    rcases (show i = p ∨ i = p + 1 ∨ p + 2 ≤ i by omega) with h9 | h9 | h9
    · subst h9; rw [h]; rfl
    · subst h9; rw [h1]; rfl
    · exact bin_no_end (h2 i h9 i2)) he
  have hn := no_num (s := s) (p := p) (e := q) (by rw [h]; rfl)
  rw [one_hash h, e]
  unfold bareF
  rw [if_neg hn.1, if_neg hn.2, if_neg (by omega), if_pos ⟨h, h1, hlt, h2⟩]
theorem hex_err {s : ByteArray} {p q : Nat} (h : cb s p = 35) (h1 : cb s (p + 1) = 120) (hp : p + 1 < s.size) (h2 : allP s bHex (p + 2) q) (hq : p + 2 ≤ q)
    (hx : (q = p + 2 ∧ (q = s.size ∨ bHex (cb s q) = false)) ∨ (q < s.size ∧ bHex (cb s q) = false ∧ bEnd (cb s q) = false)) : oneF s p = .err 62 := by
  rw [one_hash h]
  refine bare_hash h ?_ (by omega)
  rintro ⟨_, x2, x3⟩
  have hs := (endAt_spec (s := s) s.size (p := p) (by omega) (by omega)).2.1
  rcases hx with ⟨h3, h4⟩ | ⟨h3, h4, h6⟩
  · rcases h4 with h4 | h4
    · omega
    · have := x3 q (by omega) (by omega); rw [h4] at this; cases this
  · have hl2 : q < endAt s p := endAt_lt (by omega) h3 (fun i i1 i2 => by
      rcases (show i = p ∨ i = p + 1 ∨ (p + 2 ≤ i ∧ i < q) ∨ i = q by omega) with h9 | h9 | h9 | h9
      · subst h9; rw [h]; rfl
      · subst h9; rw [h1]; rfl
      · exact hex_no_end (h2 i h9.1 h9.2)
      · subst h9; exact h6)
    have := x3 q (by omega) hl2; rw [h4] at this; cases this
theorem bin_err {s : ByteArray} {p q : Nat} (h : cb s p = 35) (h1 : cb s (p + 1) = 98) (hp : p + 1 < s.size) (h2 : allP s bBin (p + 2) q) (hq : p + 2 ≤ q)
    (hx : (q = p + 2 ∧ (q = s.size ∨ bBin (cb s q) = false)) ∨ (q < s.size ∧ bBin (cb s q) = false ∧ bEnd (cb s q) = false)) : oneF s p = .err 62 := by
  rw [one_hash h]
  refine bare_hash h (by omega) ?_
  rintro ⟨_, x2, x3⟩
  have hs := (endAt_spec (s := s) s.size (p := p) (by omega) (by omega)).2.1
  rcases hx with ⟨h3, h4⟩ | ⟨h3, h4, h6⟩
  · rcases h4 with h4 | h4
    · omega
    · have := x3 q (by omega) (by omega); rw [h4] at this; cases this
  · have hl2 : q < endAt s p := endAt_lt (by omega) h3 (fun i i1 i2 => by
      rcases (show i = p ∨ i = p + 1 ∨ (p + 2 ≤ i ∧ i < q) ∨ i = q by omega) with h9 | h9 | h9 | h9
      · subst h9; rw [h]; rfl
      · subst h9; rw [h1]; rfl
      · exact bin_no_end (h2 i h9.1 h9.2)
      · subst h9; exact h6)
    have := x3 q (by omega) hl2; rw [h4] at this; cases this
theorem hash_err {s : ByteArray} {p : Nat} (h : cb s p = 35) (h1 : p + 1 = s.size ∨ (cb s (p + 1) ≠ 120 ∧ cb s (p + 1) ≠ 98)) (hp : p < s.size) : oneF s p = .err 62 := by
  rw [one_hash h]
  have hs := (endAt_spec (s := s) s.size (p := p) (by omega) (by omega)).2.1
  rcases h1 with h1 | ⟨h1, h2⟩
  · exact bare_hash h (fun x => by omega) (fun x => by omega)
  · exact bare_hash h (fun x => h1 x.1) (fun x => h2 x.1)
theorem one_colon {s : ByteArray} {p : Nat} (h : cb s p = 58) : oneF s p = bareF s p (endAt s p) := by
  unfold oneF
  rw [if_neg (by omega), if_neg (by omega), if_neg (by omega), if_neg (by omega), if_neg (by omega)]
theorem key_tok {s : ByteArray} {p q : Nat} (h : cb s p = 58) (h2 : allP s bSimple (p + 1) q) (hlt : p + 1 < q) (hq : q ≤ s.size) (he : q = s.size ∨ bEnd (cb s q) = true) : oneF s p = .tok 9 (s.extract (p + 1) q) false q := by
  have e : endAt s p = q := end_of_run (by omega) hq (fun i i1 i2 => by
    rcases (show i = p ∨ p + 1 ≤ i by omega) with h9 | h9
    · subst h9; rw [h]; rfl
    · exact simple_not_end (h2 i h9 i2)) he
  have hn := no_num (s := s) (p := p) (e := q) (by rw [h]; rfl)
  rw [one_colon h, e]
  unfold bareF
  rw [if_neg hn.1, if_neg hn.2, if_neg (by omega), if_neg (by omega), if_pos ⟨h, hlt, h2⟩]
theorem key_err {s : ByteArray} {p q : Nat} (h : cb s p = 58) (hp : p < s.size) (h2 : allP s bSimple (p + 1) q) (hq : p + 1 ≤ q)
    (hx : (q = p + 1 ∧ (q = s.size ∨ bSimple (cb s q) = false)) ∨ (q < s.size ∧ bSimple (cb s q) = false ∧ bEnd (cb s q) = false)) : oneF s p = .err 62 := by
  have hn := no_num (s := s) (p := p) (e := endAt s p) (by rw [h]; rfl)
  rw [one_colon h]
  have hs := (endAt_spec (s := s) s.size (p := p) (by omega) (by omega)).2.1
  unfold bareF
  rw [if_neg hn.1, if_neg hn.2, if_neg (by omega), if_neg (by omega), if_neg ?_, if_neg ?_]
  · rintro ⟨_, x2, x3⟩
    have := x3 p (Nat.le_refl _) x2; rw [h] at this; cases this
  · rintro ⟨_, x2, x3⟩
    rcases hx with ⟨h3, h4⟩ | ⟨h3, h4, h6⟩
    · rcases h4 with h4 | h4
      · omega
      · have := x3 q (by omega) (by omega); rw [h4] at this; cases this
    · have hl2 : q < endAt s p := endAt_lt (by omega) h3 (fun i i1 i2 => by
        rcases (show i = p ∨ (p + 1 ≤ i ∧ i < q) ∨ i = q by omega) with h9 | h9 | h9
        · subst h9; rw [h]; rfl
        · exact simple_not_end (h2 i h9.1 h9.2)
        · subst h9; exact h6)
      have := x3 q (by omega) hl2; rw [h4] at this; cases this
theorem simple_facts {c : Nat} (h : bSimple c = true) : c ≠ 40 ∧ c ≠ 41 ∧ c ≠ 34 ∧ c ≠ 124 ∧ c ≠ 35 ∧ c ≠ 58 := by
  rw [bSimple_iff, bMore_or] at h; omega
theorem one_word {s : ByteArray} {p : Nat} (h : bSimple (cb s p) = true) : oneF s p = bareF s p (endAt s p) := by
  obtain ⟨h1, h2, h3, h4, _, _⟩ := simple_facts h
  unfold oneF
  rw [if_neg h1, if_neg h2, if_neg h3, if_neg h4, if_neg (by rw [h]; simp)]
theorem word_tok {s : ByteArray} {p q : Nat} (hd : bDig (cb s p) = false) (h2 : allP s bSimple p q) (hlt : p < q) (hq : q ≤ s.size) (he : q = s.size ∨ bEnd (cb s q) = true) : oneF s p = .tok 8 (s.extract p q) false q := by
  have h := h2 p (Nat.le_refl _) hlt
  have hf := simple_facts h
  have e : endAt s p = q := end_of_run (by omega) hq (fun i i1 i2 => simple_not_end (h2 i i1 i2)) he
  have hn := no_num (s := s) (p := p) (e := q) hd
  rw [one_word h, e]
  unfold bareF
  rw [if_neg hn.1, if_neg hn.2, if_neg (by omega), if_neg (by omega), if_neg (by omega), if_pos ⟨hd, hlt, h2⟩]
theorem word_err {s : ByteArray} {p q : Nat} (hd : bDig (cb s p) = false) (h2 : allP s bSimple p q) (hlt : p < q) (h3 : q < s.size) (h4 : bSimple (cb s q) = false) (h6 : bEnd (cb s q) = false) : oneF s p = .err 62 := by
  have h := h2 p (Nat.le_refl _) hlt
  have hf := simple_facts h
  have hn := no_num (s := s) (p := p) (e := endAt s p) hd
  have hl2 : q < endAt s p := endAt_lt (by omega) h3 (fun i i1 i2 => by
    rcases (show i < q ∨ i = q by omega) with h9 | h9
    · exact simple_not_end (h2 i i1 h9)
    · subst h9; exact h6)
  rw [one_word h]
  unfold bareF
  rw [if_neg hn.1, if_neg hn.2, if_neg (by omega), if_neg (by omega), if_neg (by omega), if_neg ?_]
  rintro ⟨_, _, x3⟩
  have := x3 q (by omega) hl2; rw [h4] at this; cases this
end Go.Proofs.YtlgcmpiobglbbaaDoor
