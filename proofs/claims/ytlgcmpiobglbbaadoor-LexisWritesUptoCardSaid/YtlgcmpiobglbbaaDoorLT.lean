/- lexis: how a token is written; what is written is read as the token. -/
import Derived.Test.YtlgcmpiobglbbaaDoorLS
set_option linter.unusedVariables false
set_option linter.unusedSimpArgs false
namespace Go.Proofs.YtlgcmpiobglbbaaDoor
open Go.RowKit Mth

/-- the bytes of a text from a place on -/
def Byt (s : ByteArray) : Nat → List UInt8 → Prop
  | _, [] => True
  | i, c :: l => cb s i = c.toNat ∧ Byt s (i + 1) l
theorem byt_at {s : ByteArray} : ∀ {l : List UInt8} {i j : Nat}, Byt s i l → j < l.length → cb s (i + j) = (l.getD j 0).toNat
  | [], i, j, _, h => by simp at h
  | c :: l, i, 0, h, _ => by rw [Nat.add_zero, List.getD_cons_zero]; exact h.1
  | c :: l, i, j + 1, h, hj => by
    rw [List.getD_cons_succ, show i + (j + 1) = i + 1 + j by omega]
    exact byt_at h.2 (by simpa using hj)
theorem byt_of {s : ByteArray} : ∀ {l : List UInt8} {i : Nat}, (∀ j, j < l.length → cb s (i + j) = (l.getD j 0).toNat) → Byt s i l
  | [], i, _ => True.intro
  | c :: l, i, h => ⟨by have := h 0 (by simp); rwa [Nat.add_zero, List.getD_cons_zero] at this, byt_of (fun j hj => by
      have := h (j + 1) (by simp; omega)
      rwa [List.getD_cons_succ, show i + (j + 1) = i + 1 + j by omega] at this)⟩
theorem byt_app {s : ByteArray} : ∀ {l m : List UInt8} {i : Nat}, Byt s i (l ++ m) ↔ Byt s i l ∧ Byt s (i + l.length) m
  | [], m, i => by simp [Byt]
  | c :: l, m, i => by
    rw [List.cons_append, Byt, Byt, byt_app, List.length_cons, show i + (l.length + 1) = i + 1 + l.length by omega]
    exact ⟨fun h => ⟨⟨h.1, h.2.1⟩, h.2.2⟩, fun h => ⟨h.1.1, h.1.2, h.2⟩⟩
theorem cb_list (l : List UInt8) (j : Nat) (h : j < l.length) : cb ⟨l.toArray⟩ j = (l.getD j 0).toNat := by
  have h' : j < (⟨l.toArray⟩ : ByteArray).size := by simpa [ByteArray.size] using h
  rw [← cb_at h', List.getD_eq_getElem?_getD, List.getElem?_eq_getElem h]
  rfl
theorem size_list (l : List UInt8) : (⟨l.toArray⟩ : ByteArray).size = l.length := by simp [ByteArray.size]
theorem byt_self (l : List UInt8) : Byt ⟨l.toArray⟩ 0 l := byt_of (fun j hj => by rw [Nat.zero_add]; exact cb_list l j hj)
theorem byt_ext {s : ByteArray} {l : List UInt8} {i : Nat} (h : Byt s i l) (hs : i + l.length ≤ s.size) : s.extract i (i + l.length) = ⟨l.toArray⟩ := by
  have := ext_congr (s := ⟨l.toArray⟩) (s' := s) (a := 0) (b := l.length) (a' := i) (b' := i + l.length) (by omega) (by rw [size_list]; omega) hs (by omega) (by omega) (fun j hj => by rw [Nat.zero_add, cb_list l j (by omega)]; exact byt_at h (by omega))
  rw [this]
  have e := ByteArray.extract_zero_size (b := ⟨l.toArray⟩)
  rwa [size_list] at e
theorem byt_of_ext {s t : ByteArray} {a b : Nat} (h : s.extract a b = t) (hab : a ≤ b) (hb : b ≤ s.size) : Byt s a t.data.toList ∧ t.data.toList.length = b - a := by
  have hz : t.size = b - a := by rw [← h, ByteArray.size_extract]; omega
  have hl : t.data.toList.length = b - a := by rw [← hz]; exact Array.length_toList
  refine ⟨byt_of (fun j hj => ?_), hl⟩
  have e : t = ⟨t.data.toList.toArray⟩ := by simp
  rw [← cb_list _ _ hj, ← e, ← h]
  unfold cb
  rw [dif_pos (show a + j < s.size by omega), dif_pos (show j < (s.extract a b).size by rw [ByteArray.size_extract]; omega), ByteArray.getElem_extract]

def allIn (u : List UInt8) : Prop := ∀ c ∈ u, bInner c.toNat = true
theorem u34 {c : UInt8} : c = 34 ↔ c.toNat = 34 := by
  constructor
  · intro h; subst h; rfl
  · intro h; exact UInt8.toNat_inj.1 h
theorem qu_dbl {s : ByteArray} : ∀ (u : List UInt8) {i : Nat} {t0 : ByteArray}, Byt s i (dbl u) → i + (dbl u).length < s.size → cb s (i + (dbl u).length) = 34 → (i + (dbl u).length + 1 = s.size ∨ cb s (i + (dbl u).length + 1) ≠ 34) → allIn u →
    quF s i t0 = .tok 7 (t0 ++ ⟨u.toArray⟩) false (i + (dbl u).length + 1)
  | [], i, t0, _, h2, h3, h4, _ => by
    have h2' : i < s.size := h2
    have h3' : cb s i = 34 := h3
    rw [quF, if_pos h2', if_pos h3', if_neg (fun x => h4.elim (fun e => by have e' : i + 1 = s.size := e; omega) (fun e => e x.2))]
    have e : t0 ++ (⟨([] : List UInt8).toArray⟩ : ByteArray) = t0 := ByteArray.append_empty
    rw [e]; rfl
  | c :: u, i, t0, h1, h2, h3, h4, h5 => by
    by_cases hc : c = 34
    · subst hc
      rw [dbl, if_pos rfl] at h1 h2 h3 h4 ⊢
      rw [List.length_cons, List.length_cons] at h2 h3 h4 ⊢
      have ih := qu_dbl (s := s) u (i := i + 1 + 1) (t0 := t0 ++ ⟨#[34]⟩) h1.2.2 (by omega) (by rw [← h3]; congr 1; omega) (by rw [show i + 1 + 1 + (dbl u).length + 1 = i + ((dbl u).length + 1 + 1) + 1 by omega]; exact h4) (fun x hx => h5 x (List.mem_cons_of_mem _ hx))
      rw [quF, if_pos (by omega), if_pos (by rw [h1.1]; rfl), if_pos ⟨by omega, by rw [h1.2.1]; rfl⟩, ih, ByteArray.append_assoc]
      congr 1
      omega
    · rw [dbl, if_neg hc] at h1 h2 h3 h4 ⊢
      rw [List.length_cons] at h2 h3 h4 ⊢
      have ih := qu_dbl (s := s) u (i := i + 1) (t0 := t0 ++ s.extract i (i + 1)) h1.2 (by omega) (by rw [← h3]; congr 1; omega) (by rw [show i + 1 + (dbl u).length + 1 = i + ((dbl u).length + 1) + 1 by omega]; exact h4) (fun x hx => h5 x (List.mem_cons_of_mem _ hx))
      have ex : s.extract i (i + 1) = ⟨#[c]⟩ := byt_ext (l := [c]) ⟨h1.1, True.intro⟩ (by simp; omega)
      rw [quF, if_pos (by omega), if_neg (by rw [h1.1]; exact fun e => hc (u34.2 e)), if_pos (by rw [h1.1]; exact h5 c (List.mem_cons_self ..)), ih, ex, ByteArray.append_assoc]
      congr 1
      omega
theorem qu_bad {s : ByteArray} : ∀ (u : List UInt8) {i : Nat} {t0 : ByteArray}, Byt s i (dbl u) → i + (dbl u).length < s.size → ¬ allIn u → quF s i t0 = .err 61
  | [], i, t0, _, _, h5 => absurd (fun x hx => by simp at hx) h5
  | c :: u, i, t0, h1, h2, h5 => by
    by_cases hc : c = 34
    · subst hc
      rw [dbl, if_pos rfl] at h1 h2
      rw [List.length_cons, List.length_cons] at h2
      rw [quF, if_pos (by omega), if_pos (by rw [h1.1]; rfl), if_pos ⟨by omega, by rw [h1.2.1]; rfl⟩]
      refine qu_bad u h1.2.2 (by omega) (fun h => h5 (fun x hx => ?_))
      rcases List.mem_cons.1 hx with e | e
      · subst e; rfl
      · exact h x e
    · rw [dbl, if_neg hc] at h1 h2
      rw [List.length_cons] at h2
      rw [quF, if_pos (by omega), if_neg (by rw [h1.1]; exact fun e => hc (u34.2 e)), h1.1]
      split
      · rename_i hi
        refine qu_bad u h1.2 (by omega) (fun h => h5 (fun x hx => ?_))
        rcases List.mem_cons.1 hx with e | e
        · subst e; exact hi
        · exact h x e
      · rfl
/-- what a text is made of -/
theorem qu_raw {s : ByteArray} : ∀ (m : Nat) {i n k : Nat} {t0 t : ByteArray} {q : Bool}, s.size - i ≤ m → quF s i t0 = .tok k t q n → ∃ u : List UInt8, t = t0 ++ ⟨u.toArray⟩ ∧ Byt s i (dbl u) ∧ n = i + (dbl u).length + 1 ∧ n ≤ s.size ∧ cb s (i + (dbl u).length) = 34 ∧ allIn u ∧ k = 7 ∧ q = false
  | 0, i, n, k, t0, t, q, hm, h => by rw [quF, if_neg (by omega)] at h; cases h
  | m + 1, i, n, k, t0, t, q, hm, h => by
    rw [quF] at h
    split at h
    · rename_i hlt
      split at h
      · rename_i hc
        split at h
        · rename_i hd
          obtain ⟨u, h1, h2, h3, h4, h5, h6, h7⟩ := qu_raw m (i := i + 2) (by omega) h
          refine ⟨34 :: u, ?_, ?_, ?_, h4, ?_, ?_, h7⟩
          · rw [h1, ByteArray.append_assoc]; rfl
          · rw [dbl, if_pos rfl]; exact ⟨by rw [hc]; rfl, by rw [hd.2]; rfl, h2⟩
          · rw [dbl, if_pos rfl, List.length_cons, List.length_cons]; omega
          · rw [dbl, if_pos rfl, List.length_cons, List.length_cons, ← h5]; congr 1; omega
          · intro x hx
            rcases List.mem_cons.1 hx with e | e
            · subst e; rfl
            · exact h6 x e
        · injection h with a1 a2 a3 a4
          subst a1 a2 a3 a4
          exact ⟨[], ByteArray.append_empty.symm, True.intro, rfl, by omega, hc, fun x hx => by simp at hx, rfl, rfl⟩
      · rename_i hc
        split at h
        · rename_i hi
          obtain ⟨u, h1, h2, h3, h4, h5, h6, h7⟩ := qu_raw m (i := i + 1) (by omega) h
          have ec : cb s i = (s[i]'hlt).toNat := (cb_at hlt).symm
          have hn : s[i]'hlt ≠ 34 := fun e => hc (by rw [ec, e]; rfl)
          have ex : s.extract i (i + 1) = ⟨#[s[i]'hlt]⟩ := byt_ext (l := [s[i]'hlt]) ⟨ec, True.intro⟩ (by simp; omega)
          refine ⟨s[i]'hlt :: u, ?_, ?_, ?_, h4, ?_, ?_, h7⟩
          · rw [h1, ex, ByteArray.append_assoc]; rfl
          · rw [dbl, if_neg hn]; exact ⟨ec, h2⟩
          · rw [dbl, if_neg hn, List.length_cons]; omega
          · rw [dbl, if_neg hn, List.length_cons, ← h5]; congr 1; omega
          · intro x hx
            rcases List.mem_cons.1 hx with e | e
            · subst e; rw [← ec]; exact hi
            · exact h6 x e
        · cases h
    · cases h

/-- a token as it would be written, if it is one -/
def wrL (k : Int) (t : List UInt8) (q : Bool) : List UInt8 :=
  if k = 5 then 35 :: 120 :: t else if k = 6 then 35 :: 98 :: t else if k = 7 then 34 :: (dbl t ++ [34]) else if k = 9 then 58 :: t else
  if k = 8 ∧ q = true then 124 :: (t ++ [124]) else if (1 ≤ k ∧ k ≤ 4) ∨ k = 8 then t else []
def wrB (x : Tk) : ByteArray := ⟨(wrL x.k x.t.data.toList x.q).toArray⟩
theorem low_id {l : List UInt8} (h : ∀ c ∈ l, Lib.isUpperB c = false) : lower l = l := by
  induction l with
  | nil => rfl
  | cons c l ih =>
    show Lib.lowerB c :: lower l = _
    rw [Lib.lowerB_of_not c (h c (List.mem_cons_self ..)), ih (fun x hx => h x (List.mem_cons_of_mem _ hx))]
set_option maxRecDepth 100000 in
theorem low_hex (c : UInt8) (h : bHex c.toNat = true) : bHex (Lib.lowerB c).toNat = true ∧ Lib.isUpperB (Lib.lowerB c) = false := by
  revert h; revert c
  have key : ∀ n : Nat, n < 256 → bHex (UInt8.ofNat n).toNat = true → bHex (Lib.lowerB (UInt8.ofNat n)).toNat = true ∧ Lib.isUpperB (Lib.lowerB (UInt8.ofNat n)) = false := by decide
  intro c
  have := key c.toNat c.toNat_lt
  rwa [UInt8.ofNat_toNat] at this
end Go.Proofs.YtlgcmpiobglbbaaDoor
