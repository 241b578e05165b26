/- lexis: texts and symbols with bars, as the program goes through them. -/
import Derived.Test.YtlgcmpiobglbbaaDoorLT
set_option linter.unusedVariables false
set_option linter.unusedSimpArgs false
namespace Go.Proofs.YtlgcmpiobglbbaaDoor
open Go.RowKit Mth

/-- bytes of a text, none the mark -/
def TxtM (s : ByteArray) (m a q : Nat) : Prop := a ≤ q ∧ q ≤ s.size ∧ ∀ i, a ≤ i → i < q → bInner (cb s i) = true ∧ cb s i ≠ m
theorem ext_split {s : ByteArray} {a b c : Nat} (h1 : a ≤ b) (h2 : b ≤ c) : s.extract a b ++ s.extract b c = s.extract a c := by
  rw [ByteArray.extract_append_extract, Nat.min_eq_left h1, Nat.max_eq_right h2]
theorem ext_none (s : ByteArray) (a : Nat) : s.extract a a = ⟨#[]⟩ := by
  apply ByteArray.ext_getElem
  · rw [ByteArray.size_extract]; show _ = 0; omega
  · intro i hi hi'; rw [ByteArray.size_extract] at hi; omega
theorem qu_txt {s : ByteArray} : ∀ (m : Nat) {a q : Nat} {t0 : ByteArray}, q - a ≤ m → TxtM s 34 a q → quF s a t0 = quF s q (t0 ++ s.extract a q)
  | 0, a, q, t0, hm, h => by
    obtain rfl : a = q := by have := h.1; omega
    rw [ext_none]; rw [show t0 ++ (⟨#[]⟩ : ByteArray) = t0 from ByteArray.append_empty]
  | m + 1, a, q, t0, hm, h => by
    by_cases e : a = q
    · exact qu_txt 0 (by omega) h
    · have h1 := h.1; have h2 := h.2.1
      have hx := h.2.2 a (Nat.le_refl _) (by omega)
      rw [quF, if_pos (by omega), if_neg hx.2, if_pos hx.1, qu_txt m (a := a + 1) (q := q) (by omega) ⟨by omega, h2, fun i i1 i2 => h.2.2 i (by omega) i2⟩, ByteArray.append_assoc, ext_split (by omega) (by omega)]
theorem qu_open {s : ByteArray} {a q : Nat} {t0 : ByteArray} (h : TxtM s 34 a q) (he : q = s.size ∨ (cb s q ≠ 34 ∧ bInner (cb s q) = false)) : quF s a t0 = .err 61 := by
  rw [qu_txt (q - a) (Nat.le_refl _) h, quF]
  rcases he with he | he
  · rw [if_neg (by omega)]
  · split
    · rw [if_neg he.1, if_neg (by rw [he.2]; simp)]
    · rfl
theorem qu_two {s : ByteArray} {q : Nat} {t0 : ByteArray} (h1 : cb s q = 34) (h2 : q + 1 < s.size) (h3 : cb s (q + 1) = 34) : quF s q t0 = quF s (q + 2) (t0 ++ ⟨#[34]⟩) := by
  rw [quF, if_pos (by omega), if_pos h1, if_pos ⟨h2, h3⟩]
theorem qu_one {s : ByteArray} {q : Nat} {t0 : ByteArray} (h1 : cb s q = 34) (h2 : q < s.size) (h3 : ¬ (q + 1 < s.size ∧ cb s (q + 1) = 34)) : quF s q t0 = .tok 7 t0 false (q + 1) := by
  rw [quF, if_pos h2, if_pos h1, if_neg h3]
theorem ba_txt {s : ByteArray} {b : Nat} : ∀ (m : Nat) {a q : Nat}, q - a ≤ m → TxtM s 124 a q → (∀ i, a ≤ i → i < q → cb s i ≠ 92) → baF s b a = baF s b q
  | 0, a, q, hm, h, hn => by
    obtain rfl : a = q := by have := h.1; omega
    rfl
  | m + 1, a, q, hm, h, hn => by
    by_cases e : a = q
    · exact ba_txt 0 (by omega) h hn
    · have h1 := h.1; have h2 := h.2.1
      have hx := h.2.2 a (Nat.le_refl _) (by omega)
      rw [baF, if_pos (by omega), if_neg hx.2, if_pos ⟨hx.1, hn a (Nat.le_refl _) (by omega)⟩]
      exact ba_txt m (a := a + 1) (q := q) (by omega) ⟨by omega, h2, fun i i1 i2 => h.2.2 i (by omega) i2⟩ (fun i i1 i2 => hn i (by omega) i2)
theorem ba_bad {s : ByteArray} {b : Nat} : ∀ (m : Nat) {a q : Nat}, q - a ≤ m → TxtM s 124 a q → (∃ i, a ≤ i ∧ i < q ∧ cb s i = 92) → baF s b a = .err 61
  | 0, a, q, hm, h, ⟨i, i1, i2, _⟩ => by have := h.1; omega
  | m + 1, a, q, hm, h, ⟨i, i1, i2, i3⟩ => by
    have h1 := h.1; have h2 := h.2.1
    have hx := h.2.2 a (Nat.le_refl _) (by omega)
    rw [baF, if_pos (by omega), if_neg hx.2]
    by_cases e : cb s a = 92
    · rw [if_neg (fun x => x.2 e)]
    · rw [if_pos ⟨hx.1, e⟩]
      refine ba_bad m (a := a + 1) (q := q) (by omega) ⟨by omega, h2, fun i i1 i2 => h.2.2 i (by omega) i2⟩ ⟨i, ?_, i2, i3⟩
      rcases Nat.lt_or_ge a i with h9 | h9
      · exact h9
      · obtain rfl : a = i := by omega
        exact absurd i3 e
theorem ba_open {s : ByteArray} {b a q : Nat} (h : TxtM s 124 a q) (he : q = s.size ∨ (cb s q ≠ 124 ∧ bInner (cb s q) = false)) : baF s b a = .err 61 := by
  by_cases hx : ∃ i, a ≤ i ∧ i < q ∧ cb s i = 92
  · exact ba_bad (q - a) (Nat.le_refl _) h hx
  · rw [ba_txt (q - a) (Nat.le_refl _) h (fun i i1 i2 e => hx ⟨i, i1, i2, e⟩), baF]
    rcases he with he | he
    · rw [if_neg (by omega)]
    · split
      · rw [if_neg he.1, if_neg (by rw [he.2]; simp)]
      · rfl
theorem indexB_mem : ∀ (l : List UInt8) (c : UInt8), decide (0 ≤ Lib.indexByte l c) = l.contains c
  | [], c => by simp [Lib.indexByte]
  | b :: l, c => by
    have ih := indexB_mem l c
    have hge := Lib.indexByte_ge l c
    rw [Lib.indexByte, List.contains_cons]
    by_cases h : b = c
    · subst h; simp
    · rw [if_neg (by rw [beq_iff_eq]; exact h)]
      have h1 : (c == b) = false := beq_eq_false_iff_ne.2 (fun e => h e.symm)
      rw [h1, Bool.false_or, ← ih]
      by_cases hm : Lib.indexByte l c = -1
      · rw [hm]; decide
      · rw [if_neg (by rw [beq_iff_eq]; exact hm)]
        have e1 : (0 ≤ Lib.indexByte l c + 1) ↔ (0 ≤ Lib.indexByte l c) := by omega
        exact decide_eq_decide.2 e1
theorem ext_mem {s : ByteArray} {a q c : Nat} (ha : a ≤ q) (hq : q ≤ s.size) (hc : c < 256) : (s.extract a q).data.toList.contains (UInt8.ofNat c) = true ↔ ∃ i, a ≤ i ∧ i < q ∧ cb s i = c := by
  obtain ⟨h1, h2⟩ := byt_of_ext (s := s) (a := a) (b := q) rfl ha hq
  generalize (s.extract a q).data.toList = l at *
  rw [List.contains_iff_mem]
  have hcc : (UInt8.ofNat c).toNat = c := by simp; omega
  constructor
  · intro h
    obtain ⟨j, hj, e⟩ := List.mem_iff_getElem.1 h
    have := byt_at h1 hj
    refine ⟨a + j, by omega, by omega, ?_⟩
    rw [this, List.getD_eq_getElem?_getD, List.getElem?_eq_getElem hj, Option.getD_some, e, hcc]
  · rintro ⟨i, i1, i2, i3⟩
    have hj : i - a < l.length := by omega
    have := byt_at h1 hj
    rw [show a + (i - a) = i by omega, i3, List.getD_eq_getElem?_getD, List.getElem?_eq_getElem hj, Option.getD_some] at this
    exact List.mem_iff_getElem.2 ⟨i - a, hj, UInt8.toNat_inj.1 (by rw [hcc]; exact this.symm)⟩
/-- what the program makes of a text's bytes -/
theorem qu_text {s : ByteArray} {p a : Nat} {t : ByteArray} (h : quF s (p + 1) ⟨#[]⟩ = .tok 7 t false a) : p + 2 ≤ a ∧ a ≤ s.size ∧ (⟨(Lib.replaceAll (s.extract (p + 1) (a - 1)).data.toList [34, 34] [34]).toArray⟩ : ByteArray) = t := by
  obtain ⟨u, h1, h2, h3, h4, h5, h6, h7⟩ := qu_raw s.size (by omega) h
  have e := byt_ext h2 (by omega)
  refine ⟨by omega, h4, ?_⟩
  rw [show a - 1 = p + 1 + (dbl u).length by omega, e]
  show (⟨(Lib.replaceAll (dbl u).toArray.toList [34, 34] [34]).toArray⟩ : ByteArray) = t
  rw [List.toList_toArray, rep_undbl, h1]
  exact ByteArray.empty_append.symm
end Go.Proofs.YtlgcmpiobglbbaaDoor
