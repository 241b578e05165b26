/- lexis: a token hangs on its own bytes and what may stand behind it. -/
import Derived.Test.YtlgcmpiobglbbaaDoorLQ
set_option linter.unusedVariables false
set_option linter.unusedSimpArgs false
namespace Go.Proofs.YtlgcmpiobglbbaaDoor
open Go.RowKit Mth

inductive Shape (s : ByteArray) (p : Nat) : Nat → ByteArray → Bool → Nat → Prop
  | opn : cb s p = 40 → Shape s p 1 ⟨#[40]⟩ false (p + 1)
  | cls : cb s p = 41 → Shape s p 2 ⟨#[41]⟩ false (p + 1)
  | num (q : Nat) : isNum s p q → q ≤ s.size → (q = s.size ∨ bEnd (cb s q) = true) → Shape s p 3 (s.extract p q) false q
  | dec (i q : Nat) : isNum s p i → cb s i = 46 → allP s bDig (i + 1) q → i + 1 < q → q ≤ s.size → (q = s.size ∨ bEnd (cb s q) = true) → Shape s p 4 (s.extract p q) false q
  | hex (q : Nat) : cb s p = 35 → cb s (p + 1) = 120 → allP s bHex (p + 2) q → p + 2 < q → q ≤ s.size → (q = s.size ∨ bEnd (cb s q) = true) → Shape s p 5 (lowB (s.extract (p + 2) q)) false q
  | bin (q : Nat) : cb s p = 35 → cb s (p + 1) = 98 → allP s bBin (p + 2) q → p + 2 < q → q ≤ s.size → (q = s.size ∨ bEnd (cb s q) = true) → Shape s p 6 (s.extract (p + 2) q) false q
  | str (t : ByteArray) (n : Nat) : cb s p = 34 → quF s (p + 1) ⟨#[]⟩ = .tok 7 t false n → Shape s p 7 t false n
  | bar (t : ByteArray) (n : Nat) : cb s p = 124 → baF s (p + 1) (p + 1) = .tok 8 t true n → Shape s p 8 t true n
  | key (q : Nat) : cb s p = 58 → allP s bSimple (p + 1) q → p + 1 < q → q ≤ s.size → (q = s.size ∨ bEnd (cb s q) = true) → Shape s p 9 (s.extract (p + 1) q) false q
  | wrd (q : Nat) : bDig (cb s p) = false → allP s bSimple p q → p < q → q ≤ s.size → (q = s.size ∨ bEnd (cb s q) = true) → Shape s p 8 (s.extract p q) false q
theorem qu_kind {s : ByteArray} : ∀ (m : Nat) {i : Nat} {t0 : ByteArray}, s.size - i ≤ m → (∃ t n, quF s i t0 = .tok 7 t false n ∧ i < n ∧ n ≤ s.size) ∨ quF s i t0 = .err 61
  | 0, i, t0, h => .inr (by rw [quF, if_neg (by omega)])
  | m + 1, i, t0, h => by
    rw [quF]
    split
    · split
      · split
        · rcases qu_kind (s := s) m (i := i + 2) (t0 := t0 ++ ⟨#[34]⟩) (by omega) with ⟨t, n, h1, h2, h3⟩ | h1
          · exact .inl ⟨t, n, h1, by omega, h3⟩
          · exact .inr h1
        · exact .inl ⟨t0, i + 1, rfl, by omega, by omega⟩
      · split
        · rcases qu_kind (s := s) m (i := i + 1) (t0 := t0 ++ s.extract i (i + 1)) (by omega) with ⟨t, n, h1, h2, h3⟩ | h1
          · exact .inl ⟨t, n, h1, by omega, h3⟩
          · exact .inr h1
        · exact .inr rfl
    · exact .inr rfl
theorem ba_kind {s : ByteArray} {a : Nat} : ∀ (m : Nat) {i : Nat}, s.size - i ≤ m → (∃ n, baF s a i = .tok 8 (s.extract a n) true (n + 1) ∧ i ≤ n ∧ n < s.size ∧ cb s n = 124 ∧ ∀ j, i ≤ j → j < n → bInner (cb s j) = true ∧ cb s j ≠ 92 ∧ cb s j ≠ 124) ∨ baF s a i = .err 61
  | 0, i, h => .inr (by rw [baF, if_neg (by omega)])
  | m + 1, i, h => by
    rw [baF]
    split
    · rename_i hlt
      split
      · rename_i hc
        exact .inl ⟨i, rfl, Nat.le_refl _, hlt, hc, fun j j1 j2 => by omega⟩
      · rename_i hc
        split
        · rename_i hi
          rcases ba_kind (s := s) (a := a) m (i := i + 1) (by omega) with ⟨n, h1, h2, h3, h4, h5⟩ | h1
          · refine .inl ⟨n, h1, by omega, h3, h4, fun j j1 j2 => ?_⟩
            by_cases e : j = i
            · subst e; exact ⟨hi.1, hi.2, hc⟩
            · exact h5 j (by omega) j2
          · exact .inr h1
        · exact .inr rfl
    · exact .inr rfl
theorem shape_of {s : ByteArray} {p k n : Nat} {t : ByteArray} {q : Bool} (hp : p < s.size) (h : oneF s p = .tok k t q n) : Shape s p k t q n := by
  obtain ⟨e1, e2, e3, e4⟩ := endAt_spec (s := s) s.size (p := p) (by omega) (by omega)
  unfold oneF at h
  split at h
  · injection h with h1 h2 h3 h4; subst h1 h2 h3 h4; exact .opn ‹_›
  split at h
  · injection h with h1 h2 h3 h4; subst h1 h2 h3 h4; exact .cls ‹_›
  split at h
  · rcases qu_kind (s := s) s.size (i := p + 1) (t0 := ⟨#[]⟩) (by omega) with ⟨t', n', h1, _⟩ | h1
    · rw [h1] at h; injection h with a1 a2 a3 a4; subst a1 a2 a3 a4; exact .str _ _ ‹_› h1
    · rw [h1] at h; cases h
  split at h
  · rcases ba_kind (s := s) (a := p + 1) s.size (i := p + 1) (by omega) with ⟨n', h1, _⟩ | h1
    · rw [h1] at h; injection h with a1 a2 a3 a4; subst a1 a2 a3 a4; exact .bar _ _ ‹_› h1
    · rw [h1] at h; cases h
  split at h
  · cases h
  unfold bareF at h
  split at h
  · injection h with h1 h2 h3 h4; subst h1 h2 h3 h4; exact .num _ ‹_› e2 e4
  split at h
  · injection h with h1 h2 h3 h4; subst h1 h2 h3 h4
    have hd : isDec s p (endAt s p) := ‹_›
    obtain ⟨i, i1, i2, i3, i4, i5⟩ := hd
    exact .dec i _ i3 i2 i4 i5 e2 e4
  split at h
  · injection h with h1 h2 h3 h4; subst h1 h2 h3 h4
    have hd : cb s p = 35 ∧ cb s (p + 1) = 120 ∧ p + 2 < endAt s p ∧ allP s bHex (p + 2) (endAt s p) := ‹_›
    exact .hex _ hd.1 hd.2.1 hd.2.2.2 hd.2.2.1 e2 e4
  split at h
  · injection h with h1 h2 h3 h4; subst h1 h2 h3 h4
    have hd : cb s p = 35 ∧ cb s (p + 1) = 98 ∧ p + 2 < endAt s p ∧ allP s bBin (p + 2) (endAt s p) := ‹_›
    exact .bin _ hd.1 hd.2.1 hd.2.2.2 hd.2.2.1 e2 e4
  split at h
  · injection h with h1 h2 h3 h4; subst h1 h2 h3 h4
    have hd : cb s p = 58 ∧ p + 1 < endAt s p ∧ allP s bSimple (p + 1) (endAt s p) := ‹_›
    exact .key _ hd.1 hd.2.2 hd.2.1 e2 e4
  split at h
  · injection h with h1 h2 h3 h4; subst h1 h2 h3 h4
    have hd : bDig (cb s p) = false ∧ p < endAt s p ∧ allP s bSimple p (endAt s p) := ‹_›
    exact .wrd _ hd.1 hd.2.2 hd.2.1 e2 e4
  · cases h
/-- a token is not empty and lies within the text -/
theorem shape_lt {s : ByteArray} {p k n : Nat} {t : ByteArray} {q : Bool} (hp : p < s.size) (h : Shape s p k t q n) : p < n ∧ n ≤ s.size := by
  cases h with
  | opn h => omega
  | cls h => omega
  | num q h1 h2 h3 => exact ⟨h1.1, h2⟩
  | dec i q h1 h2 h3 h4 h5 h6 => have := h1.1; omega
  | hex q h1 h2 h3 h4 h5 h6 => omega
  | bin q h1 h2 h3 h4 h5 h6 => omega
  | str t n h1 h2 =>
    rcases qu_kind (s := s) s.size (i := p + 1) (t0 := ⟨#[]⟩) (by omega) with ⟨t', n', h3, h4, h5⟩ | h3
    · rw [h3] at h2; injection h2 with a1 a2 a3 a4; omega
    · rw [h3] at h2; cases h2
  | bar t n h1 h2 =>
    rcases ba_kind (s := s) (a := p + 1) s.size (i := p + 1) (by omega) with ⟨n', h3, h4, h5, _⟩ | h3
    · rw [h3] at h2; injection h2 with a1 a2 a3 a4; omega
    · rw [h3] at h2; cases h2
  | key q h1 h2 h3 h4 h5 => omega
  | wrd q h1 h2 h3 h4 h5 => omega

theorem ext_congr {s s' : ByteArray} {a b a' b' : Nat} (hab : b - a = b' - a') (hb : b ≤ s.size) (hb' : b' ≤ s'.size) (hle : a ≤ b) (hle' : a' ≤ b') (h : ∀ i, i < b - a → cb s' (a' + i) = cb s (a + i)) : s'.extract a' b' = s.extract a b := by
  apply ByteArray.ext_getElem
  · rw [ByteArray.size_extract, ByteArray.size_extract]; omega
  · intro i hi hi'
    rw [ByteArray.getElem_extract, ByteArray.getElem_extract]
    rw [ByteArray.size_extract] at hi hi'
    have h1 := h i (by omega)
    rw [← cb_at (s := s') (i := a' + i) (by omega), ← cb_at (s := s) (i := a + i) (by omega)] at h1
    exact UInt8.toNat_inj.1 h1
/-- what may stand behind a token -/
def Behind (s : ByteArray) (n k : Nat) (q : Bool) : Prop := n = s.size ∨ k = 1 ∨ k = 2 ∨ (k = 8 ∧ q = true) ∨ (bEnd (cb s n) = true ∧ (k = 7 → cb s n ≠ 34))
theorem qu_move {s s' : ByteArray} : ∀ (m : Nat) {i i' n : Nat} {t0 t : ByteArray} {q : Bool} {k : Nat}, s.size - i ≤ m → quF s i t0 = .tok k t q n → i' + (n - i) ≤ s'.size → (∀ j, j < n - i → cb s' (i' + j) = cb s (i + j)) →
    (i' + (n - i) = s'.size ∨ cb s' (i' + (n - i)) ≠ 34) → quF s' i' t0 = .tok k t q (i' + (n - i))
  | 0, i, i', n, t0, t, q, k, hm, h, h1, h2, h3 => by rw [quF, if_neg (by omega)] at h; cases h
  | m + 1, i, i', n, t0, t, q, k, hm, h, h1, h2, h3 => by
    rw [quF] at h
    split at h
    · rename_i hlt
      split at h
      · rename_i hc
        split at h
        · rename_i hd
          rcases qu_kind (s := s) m (i := i + 2) (t0 := t0 ++ ⟨#[34]⟩) (by omega) with ⟨t', n', g1, g2, g3⟩ | g1
          · have e := g1.symm.trans h
            injection e with a1 a2 a3 a4
            have ih := qu_move (s := s) (s' := s') m (i := i + 2) (i' := i' + 2) (by omega) h (by omega) (fun j hj => by rw [Nat.add_assoc, Nat.add_assoc]; exact h2 (2 + j) (by omega)) (by rw [show i' + 2 + (n - (i + 2)) = i' + (n - i) by omega]; exact h3)
            have c0 := h2 0 (by omega); have c1 := h2 1 (by omega)
            rw [Nat.add_zero, Nat.add_zero] at c0
            rw [quF, if_pos (by omega), if_pos (by rw [c0]; exact hc), if_pos ⟨by omega, by rw [c1]; exact hd.2⟩, ih]
            congr 1; omega
          · rw [g1] at h; cases h
        · injection h with a1 a2 a3 a4
          subst a1 a2 a3 a4
          have c0 := h2 0 (by omega)
          rw [Nat.add_zero, Nat.add_zero] at c0
          rw [show i + 1 - i = 1 by omega] at h1 h3 ⊢
          rw [quF, if_pos (by omega), if_pos (by rw [c0]; exact hc), if_neg (by omega)]
      · rename_i hc
        split at h
        · rename_i hi
          rcases qu_kind (s := s) m (i := i + 1) (t0 := t0 ++ s.extract i (i + 1)) (by omega) with ⟨t', n', g1, g2, g3⟩ | g1
          · have e := g1.symm.trans h
            injection e with a1 a2 a3 a4
            have c0 := h2 0 (by omega)
            rw [Nat.add_zero, Nat.add_zero] at c0
            have ex : s'.extract i' (i' + 1) = s.extract i (i + 1) := ext_congr (by omega) (by omega) (by omega) (by omega) (by omega) (fun j hj => by rw [show j = 0 by omega]; exact c0)
            have ih := qu_move (s := s) (s' := s') m (i := i + 1) (i' := i' + 1) (by omega) h (by omega) (fun j hj => by rw [Nat.add_assoc, Nat.add_assoc]; exact h2 (1 + j) (by omega)) (by rw [show i' + 1 + (n - (i + 1)) = i' + (n - i) by omega]; exact h3)
            rw [quF, if_pos (by omega), if_neg (by rw [c0]; exact hc), if_pos (by rw [c0]; exact hi), ex, ih]
            congr 1; omega
          · rw [g1] at h; cases h
        · cases h
    · cases h
theorem ba_of {s : ByteArray} {a : Nat} : ∀ (m : Nat) {i n : Nat}, n - i ≤ m → i ≤ n → n < s.size → cb s n = 124 → (∀ j, i ≤ j → j < n → bInner (cb s j) = true ∧ cb s j ≠ 92 ∧ cb s j ≠ 124) → baF s a i = .tok 8 (s.extract a n) true (n + 1)
  | 0, i, n, hm, h1, h2, h3, h4 => by
    obtain rfl : i = n := by omega
    rw [baF, if_pos h2, if_pos h3]
  | m + 1, i, n, hm, h1, h2, h3, h4 => by
    by_cases e : i = n
    · exact ba_of 0 (by omega) h1 h2 h3 h4
    · have hx := h4 i (Nat.le_refl _) (by omega)
      rw [baF, if_pos (by omega), if_neg hx.2.2, if_pos ⟨hx.1, hx.2.1⟩]
      exact ba_of m (by omega) (by omega) h2 h3 (fun j j1 j2 => h4 j (by omega) j2)
theorem allP_move {s s' : ByteArray} {P : Nat → Bool} {p p' a n : Nat} (h : allP s P a n) (hpa : p ≤ a) (hm : ∀ j, j < n - p → cb s' (p' + j) = cb s (p + j)) : allP s' P (p' + (a - p)) (p' + (n - p)) := fun i i1 i2 => by
  have h1 := hm (i - p') (by omega)
  rw [show p' + (i - p') = i by omega] at h1
  rw [h1]; exact h _ (by omega) (by omega)
theorem isNum_move {s s' : ByteArray} {p p' n : Nat} (h : isNum s p n) (hm : ∀ j, j < n - p → cb s' (p' + j) = cb s (p + j)) : isNum s' p' (p' + (n - p)) := by
  have hl := h.1
  refine ⟨by omega, ?_, ?_⟩
  · have := allP_move (p := p) (p' := p') h.2.1 (Nat.le_refl _) hm
    rwa [Nat.sub_self, Nat.add_zero] at this
  · have c0 := hm 0 (by omega)
    rw [Nat.add_zero, Nat.add_zero] at c0
    rw [c0]
    rcases h.2.2 with h3 | h3
    · exact .inl h3
    · exact .inr (by omega)
theorem one_qu {s : ByteArray} {p : Nat} (h : cb s p = 34) : oneF s p = quF s (p + 1) ⟨#[]⟩ := by unfold oneF; rw [if_neg (by omega), if_neg (by omega), if_pos h]
theorem one_ba {s : ByteArray} {p : Nat} (h : cb s p = 124) : oneF s p = baF s (p + 1) (p + 1) := by unfold oneF; rw [if_neg (by omega), if_neg (by omega), if_neg (by omega), if_pos h]
theorem one_op {s : ByteArray} {p : Nat} (h : cb s p = 40) : oneF s p = .tok 1 ⟨#[40]⟩ false (p + 1) := by unfold oneF; rw [if_pos h]
theorem one_cl {s : ByteArray} {p : Nat} (h : cb s p = 41) : oneF s p = .tok 2 ⟨#[41]⟩ false (p + 1) := by unfold oneF; rw [if_neg (by omega), if_pos h]
/-- the same bytes at another place, with what may stand behind them: the same token -/
theorem tok_move {s s' : ByteArray} {p p' k n : Nat} {t : ByteArray} {q : Bool} (hp : p < s.size) (h : oneF s p = .tok k t q n) (hs : p' + (n - p) ≤ s'.size) (hm : ∀ j, j < n - p → cb s' (p' + j) = cb s (p + j)) (hb : Behind s' (p' + (n - p)) k q) :
    oneF s' p' = .tok k t q (p' + (n - p)) := by
  have hsh := shape_of hp h
  obtain ⟨hl1, hl2⟩ := shape_lt hp hsh
  have c0 := hm 0 (by omega)
  rw [Nat.add_zero, Nat.add_zero] at c0
  cases hsh with
  | opn h1 => rw [one_op (by rw [c0]; exact h1)]; congr 1; omega
  | cls h1 => rw [one_cl (by rw [c0]; exact h1)]; congr 1; omega
  | num q h1 h2 h3 =>
    have e : s'.extract p' (p' + (n - p)) = s.extract p n := ext_congr (by omega) hl2 hs (by omega) (by omega) hm
    rw [num_tok (isNum_move h1 hm) hs ?_, e]
    rcases hb with hb | hb | hb | hb | hb
    · exact .inl hb
    · cases hb
    · cases hb
    · cases hb.1
    · exact .inr hb.1
  | dec i q h1 h2 h3 h4 h5 h6 =>
    have hpi := h1.1
    have e : s'.extract p' (p' + (n - p)) = s.extract p n := ext_congr (by omega) hl2 hs (by omega) (by omega) hm
    have ci := hm (i - p) (by omega)
    rw [show p + (i - p) = i by omega, h2] at ci
    have ha := allP_move (p' := p') h3 (show p ≤ i + 1 by omega) hm
    rw [show p' + (i + 1 - p) = p' + (i - p) + 1 by omega] at ha
    rw [dec_tok (isNum_move h1 (fun j hj => hm j (by omega))) ci ha (by omega) hs ?_, e]
    rcases hb with hb | hb | hb | hb | hb
    · exact .inl hb
    · cases hb
    · cases hb
    · cases hb.1
    · exact .inr hb.1
  | hex q h1 h2 h3 h4 h5 h6 =>
    have ha := allP_move (p' := p') h3 (show p ≤ p + 2 by omega) hm
    rw [show p' + (p + 2 - p) = p' + 2 by omega] at ha
    have e : s'.extract (p' + 2) (p' + (n - p)) = s.extract (p + 2) n := ext_congr (by omega) hl2 hs (by omega) (by omega) (fun i hi => by rw [Nat.add_assoc, Nat.add_assoc]; exact hm (2 + i) (by omega))
    rw [hex_tok (by rw [c0]; exact h1) (by rw [hm 1 (by omega)]; exact h2) ha (by omega) hs ?_, e]
    rcases hb with hb | hb | hb | hb | hb
    · exact .inl hb
    · cases hb
    · cases hb
    · cases hb.1
    · exact .inr hb.1
  | bin q h1 h2 h3 h4 h5 h6 =>
    have ha := allP_move (p' := p') h3 (show p ≤ p + 2 by omega) hm
    rw [show p' + (p + 2 - p) = p' + 2 by omega] at ha
    have e : s'.extract (p' + 2) (p' + (n - p)) = s.extract (p + 2) n := ext_congr (by omega) hl2 hs (by omega) (by omega) (fun i hi => by rw [Nat.add_assoc, Nat.add_assoc]; exact hm (2 + i) (by omega))
    rw [bin_tok (by rw [c0]; exact h1) (by rw [hm 1 (by omega)]; exact h2) ha (by omega) hs ?_, e]
    rcases hb with hb | hb | hb | hb | hb
    · exact .inl hb
    · cases hb
    · cases hb
    · cases hb.1
    · exact .inr hb.1
  | str t n h1 h2 =>
    rw [one_qu (by rw [c0]; exact h1)]
    have := qu_move (s := s) (s' := s') s.size (i := p + 1) (i' := p' + 1) (by omega) h2 (by omega) (fun j hj => by rw [Nat.add_assoc, Nat.add_assoc]; exact hm (1 + j) (by omega)) (by
      rw [show p' + 1 + (n - (p + 1)) = p' + (n - p) by omega]
      rcases hb with hb | hb | hb | hb | hb
      · exact .inl hb
      · cases hb
      · cases hb
      · cases hb.1
      · exact .inr (hb.2 rfl))
    rw [this]; congr 1; omega
  | bar t n h1 h2 =>
    rcases ba_kind (s := s) (a := p + 1) s.size (i := p + 1) (by omega) with ⟨n', g1, g2, g3, g4, g5⟩ | g1
    · rw [g1] at h2; injection h2 with a1 a2 a3 a4
      subst a2 a4
      have cn := hm (n' - p) (by omega)
      rw [show p + (n' - p) = n' by omega, g4] at cn
      have e : s'.extract (p' + 1) (p' + (n' - p)) = s.extract (p + 1) n' := ext_congr (by omega) (by omega) (by omega) (by omega) (by omega) (fun i hi => by rw [Nat.add_assoc, Nat.add_assoc]; exact hm (1 + i) (by omega))
      rw [one_ba (by rw [c0]; exact h1), ba_of (n := p' + (n' - p)) s'.size (by omega) (by omega) (by omega) cn (fun j j1 j2 => by
        have h1 := hm (j - p') (by omega)
        rw [show p' + (j - p') = j by omega] at h1
        rw [h1]; exact g5 _ (by omega) (by omega)), e]
      congr 1; omega
    · rw [g1] at h2; cases h2
  | key q h1 h2 h3 h4 h5 =>
    have ha := allP_move (p' := p') h2 (show p ≤ p + 1 by omega) hm
    rw [show p' + (p + 1 - p) = p' + 1 by omega] at ha
    have e : s'.extract (p' + 1) (p' + (n - p)) = s.extract (p + 1) n := ext_congr (by omega) hl2 hs (by omega) (by omega) (fun i hi => by rw [Nat.add_assoc, Nat.add_assoc]; exact hm (1 + i) (by omega))
    rw [key_tok (by rw [c0]; exact h1) ha (by omega) hs ?_, e]
    rcases hb with hb | hb | hb | hb | hb
    · exact .inl hb
    · cases hb
    · cases hb
    · cases hb.1
    · exact .inr hb.1
  | wrd q h1 h2 h3 h4 h5 =>
    have ha := allP_move (p' := p') h2 (Nat.le_refl p) hm
    rw [Nat.sub_self, Nat.add_zero] at ha
    have e : s'.extract p' (p' + (n - p)) = s.extract p n := ext_congr (by omega) hl2 hs (by omega) (by omega) hm
    rw [word_tok (by rw [c0]; exact h1) ha (by omega) hs ?_, e]
    rcases hb with hb | hb | hb | hb | hb
    · exact .inl hb
    · cases hb
    · cases hb
    · cases hb.2
    · exact .inr hb.1
end Go.Proofs.YtlgcmpiobglbbaaDoor
