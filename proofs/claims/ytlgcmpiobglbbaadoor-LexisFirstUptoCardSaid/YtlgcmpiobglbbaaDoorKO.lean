/- lexis: what stands behind a fault, in plain mathematics. -/
import Derived.Test.YtlgcmpiobglbbaaDoorKN
set_option linter.unusedVariables false
set_option linter.unusedSimpArgs false
namespace Go.Proofs.YtlgcmpiobglbbaaDoor
open Go.RowKit Mth

/-- s stands within s', from d on -/
def Within (s s' : ByteArray) (d : Nat) : Prop := d + s.size ≤ s'.size ∧ ∀ i, i < s.size → cb s' (d + i) = cb s i
theorem cmt_within {s s' : ByteArray} {d : Nat} (h : Within s s' d) : ∀ (m : Nat) {p : Nat}, s.size - p ≤ m → cmtF s p < s.size → cmtF s' (d + p) = d + cmtF s p
  | 0, p, hm, hc => by have := cmt_ge (s := s) s.size (p := p) (by omega); omega
  | m + 1, p, hm, hc => by
    have hp : p < s.size := by have := cmt_ge (s := s) s.size (p := p) (by omega); omega
    have hb := h.2 p hp
    by_cases h10 : cb s p = 10
    · rw [cmt_here (s := s) (k := p) (.inr h10), cmt_here (s := s') (k := d + p) (.inr (by rw [hb]; exact h10))]
    · have e := cmt_next hp h10
      rw [e] at hc ⊢
      rw [cmt_next (s := s') (k := d + p) (by have := h.1; omega) (by rw [hb]; exact h10)]
      exact cmt_within h m (p := p + 1) (by omega) hc
theorem skip_within {s s' : ByteArray} {d : Nat} (h : Within s s' d) : ∀ (m : Nat) {p : Nat}, s.size - p ≤ m → skipF s p < s.size → skipF s' (d + p) = d + skipF s p
  | 0, p, hm, hc => by have := skip_ge (s := s) s.size (p := p) (by omega); omega
  | m + 1, p, hm, hc => by
    have hp : p < s.size := by have := skip_ge (s := s) s.size (p := p) (by omega); omega
    have hb := h.2 p hp
    have hp' : d + p < s'.size := by have := h.1; omega
    rcases Bool.eq_false_or_eq_true (bBlank (cb s p)) with h1 | h1
    · have e := skip_blank hp h1
      rw [e] at hc ⊢
      rw [skip_blank hp' (by rw [hb]; exact h1)]
      exact skip_within h m (p := p + 1) (by omega) hc
    · by_cases h59 : cb s p = 59
      · have e := skip_cmt hp h59
        rw [e] at hc ⊢
        have hg := cmt_ge (s := s) s.size (p := p + 1) (by omega)
        have hsg := skip_ge (s := s) s.size (p := cmtF s (p + 1)) (by omega)
        rw [skip_cmt hp' (by rw [hb]; exact h59), show d + p + 1 = d + (p + 1) by omega, cmt_within h s.size (p := p + 1) (by omega) (by omega)]
        exact skip_within h m (p := cmtF s (p + 1)) (by omega) hc
      · rw [skip_here h1 h59, skip_here (s := s') (by rw [hb]; exact h1) (by rw [hb]; exact h59)]
theorem qu_one_next {s : ByteArray} : ∀ (m : Nat) {i n k : Nat} {t0 t : ByteArray} {q : Bool}, s.size - i ≤ m → quF s i t0 = .tok k t q n → n = s.size ∨ cb s n ≠ 34
  | 0, i, n, k, t0, t, q, hm, h => by rw [quF, if_neg (by omega)] at h; cases h
  | m + 1, i, n, k, t0, t, q, hm, h => by
    rw [quF] at h
    split at h
    · rename_i hlt
      split at h
      · split at h
        · exact qu_one_next m (i := i + 2) (by omega) h
        · rename_i hd
          injection h with a1 a2 a3 a4
          subst a4
          by_cases e : i + 1 = s.size
          · exact .inl e
          · exact .inr (fun e2 => hd ⟨by omega, e2⟩)
      · split at h
        · exact qu_one_next m (i := i + 1) (by omega) h
        · cases h
    · cases h
/-- behind a token that does not end the text -/
theorem tok_within {s s' : ByteArray} {d p k n : Nat} {t : ByteArray} {q : Bool} (h : Within s s' d) (hp : p < s.size) (ho : oneF s p = .tok k t q n) (hn : n < s.size) : oneF s' (d + p) = .tok k t q (d + n) := by
  have hsh := shape_of hp ho
  have hlt := shape_lt hp hsh
  have hbn := h.2 n hn
  have hm : ∀ j, j < n - p → cb s' (d + p + j) = cb s (p + j) := fun j hj => by rw [Nat.add_assoc]; exact h.2 (p + j) (by omega)
  have h1 := h.1
  by_cases h7 : k = 7
  · subst h7
    have key : cb s p = 34 ∧ quF s (p + 1) ⟨#[]⟩ = .tok 7 t false n ∧ q = false := by
      cases hsh with
      | str t n g1 g2 => exact ⟨g1, g2, rfl⟩
    obtain ⟨k1, k2, k3⟩ := key
    subst k3
    obtain ⟨u, g1, g2, g3, g4, g5, g6, _⟩ := qu_raw s.size (by omega) k2
    have hnext : cb s n ≠ 34 := by
      intro e
      have h9 := qu_one_next (s := s) s.size (i := p + 1) (t0 := ⟨#[]⟩) (by omega) k2
      rcases h9 with h9 | h9
      · omega
      · exact h9 e
    have c0 := hm 0 (by omega)
    rw [Nat.add_zero, Nat.add_zero] at c0
    rw [one_qu (by rw [c0]; exact k1)]
    have := qu_move (s := s) (s' := s') s.size (i := p + 1) (i' := d + p + 1) (by omega) k2 (by omega) (fun j hj => by rw [Nat.add_assoc, Nat.add_assoc p]; exact hm (1 + j) (by omega)) (.inr (by rw [show d + p + 1 + (n - (p + 1)) = d + n by omega, hbn]; exact hnext))
    rw [this]; congr 1; omega
  · have hb : Behind s' (d + p + (n - p)) k q := by
      rw [show d + p + (n - p) = d + n by omega]
      have hx : ∀ c, (n = s.size ∨ bEnd (cb s n) = true) → k = c → c ≠ 7 → Behind s' (d + n) k q := fun c he _ _ => .inr (.inr (.inr (.inr ⟨by rw [hbn]; exact he.resolve_left (by omega), fun e => absurd e h7⟩)))
      cases hsh with
      | opn g => exact .inr (.inl rfl)
      | cls g => exact .inr (.inr (.inl rfl))
      | num q g1 g2 g3 => exact hx 3 g3 rfl (by omega)
      | dec i q g1 g2 g3 g4 g5 g6 => exact hx 4 g6 rfl (by omega)
      | hex q g1 g2 g3 g4 g5 g6 => exact hx 5 g6 rfl (by omega)
      | bin q g1 g2 g3 g4 g5 g6 => exact hx 6 g6 rfl (by omega)
      | str t n g1 g2 => exact absurd rfl h7
      | bar t n g1 g2 => exact .inr (.inr (.inr (.inl ⟨rfl, rfl⟩)))
      | key q g1 g2 g3 g4 g5 => exact hx 9 g5 rfl (by omega)
      | wrd q g1 g2 g3 g4 g5 => exact hx 8 g5 rfl (by omega)
    have := tok_move (s := s) (s' := s') (p := p) (p' := d + p) hp ho (by omega) hm hb
    rw [this]; congr 1; omega
theorem err60 {s : ByteArray} {p : Nat} (h : oneF s p = .err 60) : cb s p ≠ 40 ∧ cb s p ≠ 41 ∧ cb s p ≠ 34 ∧ cb s p ≠ 124 ∧ cb s p ≠ 35 ∧ cb s p ≠ 58 ∧ bSimple (cb s p) = false := by
  unfold oneF at h
  split at h
  · cases h
  split at h
  · cases h
  split at h
  · rcases qu_kind (s := s) s.size (i := p + 1) (t0 := ⟨#[]⟩) (by omega) with ⟨t, n, h1, _⟩ | h1
    · rw [h1] at h; cases h
    · rw [h1] at h; cases h
  split at h
  · rcases ba_kind (s := s) (a := p + 1) s.size (i := p + 1) (by omega) with ⟨n, h1, _⟩ | h1
    · rw [h1] at h; cases h
    · rw [h1] at h; cases h
  split at h
  · rename_i a1 a2 a3 a4 a5
    exact ⟨a1, a2, a3, a4, a5.1, a5.2.1, a5.2.2⟩
  · unfold bareF at h
    repeat' split at h
    all_goals cases h
theorem ln_within {s s' : ByteArray} {d : Nat} (h : Within s s' d) (h0 : lnAt s' d = 1) (hf : fsAt s' d = 0) : ∀ p, p ≤ s.size → lnAt s' (d + p) = lnAt s p ∧ ((lnAt s p = 1 ∧ fsAt s p = 0 ∧ fsAt s' (d + p) = 0) ∨ (lnAt s p ≠ 1 ∧ fsAt s' (d + p) = d + fsAt s p))
  | 0, _ => ⟨h0, .inl ⟨rfl, rfl, hf⟩⟩
  | p + 1, hp => by
    have ih := ln_within h h0 hf p (by omega)
    have hb := h.2 p (by omega)
    have hge : 1 ≤ lnAt s p := by
      clear ih hb
      induction p with
      | zero => exact Nat.le_refl _
      | succ p ih => unfold lnAt; split <;> (have := ih (by omega); omega)
    by_cases h10 : cb s p = 10
    · have e1 := ln_nl h10
      have e2 := ln_nl (s := s') (p := d + p) (by rw [hb]; exact h10)
      rw [show d + (p + 1) = d + p + 1 by omega, e1.1, e2.1, e1.2, e2.2, ih.1]
      exact ⟨rfl, .inr ⟨by omega, by omega⟩⟩
    · have e1 := ln_same h10
      have e2 := ln_same (s := s') (p := d + p) (by rw [hb]; exact h10)
      rw [show d + (p + 1) = d + p + 1 by omega, e1.1, e2.1, e1.2, e2.2]
      exact ih
/-- a byte that begins no token: it stays the first fault, whatever stands behind -/
theorem bad_within {s : ByteArray} : ∀ (m : Nat) {p x y : Nat}, s.size - p ≤ m → scanF s p = .bad 60 x y → ∃ q, q < s.size ∧ x = lnAt s q ∧ y = colAt s q ∧ ∀ s' d, Within s s' d → scanF s' (d + p) = .bad 60 (lnAt s' (d + q)) (colAt s' (d + q))
  | m, p, x, y, hm, h => by
    by_cases hlt : skipF s p < s.size
    · have hge := skip_ge (s := s) s.size (p := p) (by omega)
      cases ho : oneF s (skipF s p) with
      | tok k t q n =>
        have hsl := shape_lt hlt (shape_of hlt ho)
        rw [scan_tok hlt ho hsl.1] at h
        have hn : scanF s n = .bad 60 x y := by
          cases hs : scanF s n with
          | ok M => rw [hs] at h; simp [SR.pre] at h
          | bad e a b => rw [hs] at h; exact h
        have hnl : n < s.size := by
          rcases Nat.lt_or_ge n s.size with h1 | h1
          · exact h1
          · rw [scan_end (by rw [skip_end h1]; exact h1)] at hn; cases hn
        cases m with
        | zero => omega
        | succ m =>
          obtain ⟨q0, h1, h2, h3, h4⟩ := bad_within m (p := n) (by omega) hn
          refine ⟨q0, h1, h2, h3, fun s' d hw => ?_⟩
          have e := skip_within hw s.size (p := p) (by omega) hlt
          have hs' := hw.1
          rw [scan_tok (s := s') (p := d + p) (by rw [e]; omega) (by rw [e]; exact tok_within hw hlt ho hnl) (by rw [e]; omega), h4 s' d hw]
          rfl
      | err e =>
        rw [scan_err hlt ho] at h
        injection h with h1 h2 h3
        subst h1 h2 h3
        refine ⟨skipF s p, hlt, rfl, rfl, fun s' d hw => ?_⟩
        have e := skip_within hw s.size (p := p) (by omega) hlt
        have hb := hw.2 _ hlt
        have hs' := hw.1
        rw [scan_err (s := s') (p := d + p) (by rw [e]; omega) (by rw [e]; exact one_none (by rw [hb]; exact err60 ho)), e]
    · rw [scan_end (by omega)] at h; cases h
termination_by m _ _ _ _ _ => m
end Go.Proofs.YtlgcmpiobglbbaaDoor
