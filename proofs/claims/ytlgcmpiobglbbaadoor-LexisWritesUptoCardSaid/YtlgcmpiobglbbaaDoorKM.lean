/- lexis: what is written is read as the token, in plain mathematics. -/
import Derived.Test.YtlgcmpiobglbbaaDoorLU
set_option linter.unusedVariables false
set_option linter.unusedSimpArgs false
namespace Go.Proofs.YtlgcmpiobglbbaaDoor
open Go.RowKit Mth

theorem shape_first {s : ByteArray} {p k n : Nat} {t : ByteArray} {q : Bool} (hp : p < s.size) (h : Shape s p k t q n) : bBlank (cb s p) = false ∧ cb s p ≠ 59 := by
  have key : ∀ c : Nat, (c = 40 ∨ c = 41 ∨ bDig c = true ∨ c = 35 ∨ c = 34 ∨ c = 124 ∨ c = 58 ∨ bSimple c = true) → bBlank c = false ∧ c ≠ 59 := by
    intro c hc
    have h2 : bSimple c = true → c ≠ 9 ∧ c ≠ 10 ∧ c ≠ 13 ∧ c ≠ 32 ∧ c ≠ 59 := fun h => by rw [bSimple_iff, bMore_or] at h; omega
    have h3 : bDig c = true → 48 ≤ c ∧ c ≤ 57 := fun h => bDig_iff.1 h
    have h4 : c ≠ 9 ∧ c ≠ 10 ∧ c ≠ 13 ∧ c ≠ 32 ∧ c ≠ 59 := by
      rcases hc with h | h | h | h | h | h | h | h
      · omega
      · omega
      · have := h3 h; omega
      · omega
      · omega
      · omega
      · omega
      · exact h2 h
    exact ⟨by rw [← Bool.not_eq_true, bBlank_iff]; omega, h4.2.2.2.2⟩
  refine key _ ?_
  cases h with
  | opn h => exact .inl h
  | cls h => exact .inr (.inl h)
  | num q h1 h2 h3 => exact .inr (.inr (.inl (h1.2.1 p (Nat.le_refl _) h1.1)))
  | dec i q h1 h2 h3 h4 h5 h6 => exact .inr (.inr (.inl (h1.2.1 p (Nat.le_refl _) h1.1)))
  | hex q h1 h2 h3 h4 h5 h6 => exact .inr (.inr (.inr (.inl h1)))
  | bin q h1 h2 h3 h4 h5 h6 => exact .inr (.inr (.inr (.inl h1)))
  | str t n h1 h2 => exact .inr (.inr (.inr (.inr (.inl h1))))
  | bar t n h1 h2 => exact .inr (.inr (.inr (.inr (.inr (.inl h1)))))
  | key q h1 h2 h3 h4 h5 => exact .inr (.inr (.inr (.inr (.inr (.inr (.inl h1))))))
  | wrd q h1 h2 h3 h4 h5 => exact .inr (.inr (.inr (.inr (.inr (.inr (.inr (h2 p (Nat.le_refl _) h3)))))))
/-- the bytes of a token are those with which it is written (but a hexadecimal's letters) -/
theorem shape_wr {s : ByteArray} {p k n : Nat} {t : ByteArray} {q : Bool} (h : Shape s p k t q n) (hp : p < s.size) : n = p + (wrL (k : Int) t.data.toList q).length ∧ (k ≠ 5 → Byt s p (wrL (k : Int) t.data.toList q)) := by
  have hlt := shape_lt hp h
  cases h with
  | opn h => exact ⟨rfl, fun _ => ⟨h, True.intro⟩⟩
  | cls h => exact ⟨rfl, fun _ => ⟨h, True.intro⟩⟩
  | num q h1 h2 h3 =>
    obtain ⟨b1, b2⟩ := byt_of_ext (s := s) (a := p) (b := n) rfl (by omega) hlt.2
    exact ⟨by show n = p + _; rw [show wrL ((3 : Nat) : Int) (s.extract p n).data.toList false = (s.extract p n).data.toList from rfl, b2]; omega, fun _ => b1⟩
  | dec i q h1 h2 h3 h4 h5 h6 =>
    obtain ⟨b1, b2⟩ := byt_of_ext (s := s) (a := p) (b := n) rfl (by omega) hlt.2
    exact ⟨by show n = p + _; rw [show wrL ((4 : Nat) : Int) (s.extract p n).data.toList false = (s.extract p n).data.toList from rfl, b2]; omega, fun _ => b1⟩
  | hex q h1 h2 h3 h4 h5 h6 =>
    obtain ⟨b1, b2⟩ := byt_of_ext (s := s) (a := p + 2) (b := n) rfl (by omega) hlt.2
    refine ⟨?_, fun h => absurd rfl h⟩
    show n = p + (35 :: 120 :: (lower (s.extract (p + 2) n).data.toList).toArray.toList).length
    rw [List.length_cons, List.length_cons, List.toList_toArray, lower, List.length_map, b2]; omega
  | bin q h1 h2 h3 h4 h5 h6 =>
    obtain ⟨b1, b2⟩ := byt_of_ext (s := s) (a := p + 2) (b := n) rfl (by omega) hlt.2
    refine ⟨?_, fun _ => ⟨h1, h2, b1⟩⟩
    show n = p + (35 :: 98 :: (s.extract (p + 2) n).data.toList).length
    rw [List.length_cons, List.length_cons, b2]; omega
  | str t n h1 h2 =>
    obtain ⟨u, g1, g2, g3, g4, g5, g6, g7⟩ := qu_raw s.size (by omega) h2
    have e : t.data.toList = u := by rw [g1]; exact congrArg (fun x : ByteArray => x.data.toList) (ByteArray.empty_append (b := ⟨u.toArray⟩))
    rw [e]
    refine ⟨?_, fun _ => ⟨h1, byt_app.2 ⟨g2, g5, True.intro⟩⟩⟩
    show n = p + (34 :: (dbl u ++ [34])).length
    rw [List.length_cons, List.length_append]; show n = p + ((dbl u).length + 1 + 1); omega
  | bar t n h1 h2 =>
    rcases ba_kind (s := s) (a := p + 1) s.size (i := p + 1) (by omega) with ⟨n', g1, g2, g3, g4, g5⟩ | g1
    · rw [g1] at h2; injection h2 with a1 a2 a3 a4
      subst a2 a4
      obtain ⟨b1, b2⟩ := byt_of_ext (s := s) (a := p + 1) (b := n') rfl g2 (by omega)
      refine ⟨?_, fun _ => ⟨h1, byt_app.2 ⟨b1, by rw [b2, show p + 1 + (n' - (p + 1)) = n' by omega]; exact g4, True.intro⟩⟩⟩
      show n' + 1 = p + (124 :: ((s.extract (p + 1) n').data.toList ++ [124])).length
      rw [List.length_cons, List.length_append, b2]; show n' + 1 = p + (n' - (p + 1) + 1 + 1); omega
    · rw [g1] at h2; cases h2
  | key q h1 h2 h3 h4 h5 =>
    obtain ⟨b1, b2⟩ := byt_of_ext (s := s) (a := p + 1) (b := n) rfl (by omega) hlt.2
    refine ⟨?_, fun _ => ⟨h1, b1⟩⟩
    show n = p + (58 :: (s.extract (p + 1) n).data.toList).length
    rw [List.length_cons, b2]; omega
  | wrd q h1 h2 h3 h4 h5 =>
    obtain ⟨b1, b2⟩ := byt_of_ext (s := s) (a := p) (b := n) rfl (by omega) hlt.2
    exact ⟨by show n = p + _; rw [show wrL ((8 : Nat) : Int) (s.extract p n).data.toList false = (s.extract p n).data.toList from rfl, b2]; omega, fun _ => b1⟩
theorem wr_size (x : Tk) : (wrB x).size = (wrL x.k x.t.data.toList x.q).length := size_list _
/-- what is written of a token that was read is read as the token -/
theorem one_wr {s : ByteArray} {p k n : Nat} {t : ByteArray} {q : Bool} (hp : p < s.size) (h : oneF s p = .tok k t q n) (l c : Int) :
    oneF (wrB ⟨k, t, q, l, c⟩) 0 = .tok k t q (wrB ⟨k, t, q, l, c⟩).size ∧ (wrB ⟨k, t, q, l, c⟩).size = n - p := by
  have hsh := shape_of hp h
  have hlt := shape_lt hp hsh
  obtain ⟨w1, w2⟩ := shape_wr hsh hp
  have hz : (wrB ⟨k, t, q, l, c⟩).size = n - p := by rw [wr_size]; show (wrL (k : Int) t.data.toList q).length = n - p; omega
  refine ⟨?_, hz⟩
  by_cases h5 : k = 5
  · subst h5
    cases hsh with
    | hex q h1 h2 h3 h4 h6 h7 =>
      obtain ⟨b1, b2⟩ := byt_of_ext (s := s) (a := p + 2) (b := n) rfl (by omega) hlt.2
      have hx : ∀ x ∈ (s.extract (p + 2) n).data.toList, bHex x.toNat = true := fun x hx => by
        obtain ⟨j, hj, e⟩ := List.mem_iff_getElem.1 hx
        have h8 := byt_at b1 hj
        rw [List.getD_eq_getElem?_getD, List.getElem?_eq_getElem hj, Option.getD_some, e] at h8
        rw [← h8]; exact h3 _ (by omega) (by omega)
      generalize hL : (s.extract (p + 2) n).data.toList = L at *
      have hB : wrB ⟨(5 : Nat), lowB (s.extract (p + 2) n), false, l, c⟩ = ⟨(35 :: 120 :: lower L).toArray⟩ := by
        show (⟨(35 :: 120 :: (lower (s.extract (p + 2) n).data.toList).toArray.toList).toArray⟩ : ByteArray) = _
        rw [hL, List.toList_toArray]
      have hlow : (lowB (s.extract (p + 2) n)) = ⟨(lower L).toArray⟩ := by unfold lowB; rw [hL]
      rw [hB] at hz ⊢
      have hsz := size_list (35 :: 120 :: lower L)
      have hb := byt_self (35 :: 120 :: lower L)
      have hll : (lower L).length = L.length := List.length_map ..
      have ht := hex_tok (s := ⟨(35 :: 120 :: lower L).toArray⟩) (p := 0) (q := (⟨(35 :: 120 :: lower L).toArray⟩ : ByteArray).size) hb.1 hb.2.1 (fun i i1 i2 => by
        have h9 := byt_at hb.2.2 (j := i - 2) (by rw [hsz] at i2; simp at i2; omega)
        rw [show 0 + 1 + 1 + (i - 2) = i by omega] at h9
        have hj : i - 2 < (lower L).length := by rw [hsz] at i2; simp at i2; omega
        rw [h9, List.getD_eq_getElem?_getD, List.getElem?_eq_getElem hj, Option.getD_some]
        have hj' : i - 2 < L.length := by omega
        rw [show (lower L)[i - 2] = Lib.lowerB L[i - 2] from List.getElem_map ..]
        exact (low_hex _ (hx _ (List.getElem_mem hj'))).1) (by rw [hsz]; simp; omega) (Nat.le_refl _) (.inl rfl)
      rw [ht, hlow]
      congr 1
      have e := byt_ext (s := ⟨(35 :: 120 :: lower L).toArray⟩) (l := lower L) (i := 2) hb.2.2 (by rw [hsz]; simp; omega)
      rw [show 2 + (lower L).length = (⟨(35 :: 120 :: lower L).toArray⟩ : ByteArray).size by rw [hsz]; simp; omega] at e
      rw [show 0 + 2 = 2 from rfl, e]
      unfold lowB
      rw [List.toList_toArray, low_id (l := lower L) (fun x hx' => by
        obtain ⟨y, hy, e⟩ := List.mem_map.1 hx'
        rw [← e]; exact (low_hex y (hx y hy)).2)]
  · have hb := w2 h5
    have hm : ∀ j, j < n - p → cb (wrB ⟨k, t, q, l, c⟩) (0 + j) = cb s (p + j) := fun j hj => by
      rw [Nat.zero_add, byt_at hb (by omega)]
      exact cb_list _ _ (by show j < (wrL (k : Int) t.data.toList q).length; omega)
    have := tok_move (s := s) (s' := wrB ⟨k, t, q, l, c⟩) (p := p) (p' := 0) hp h (by rw [hz]; omega) hm (.inl (by rw [hz]; omega))
    rwa [Nat.zero_add, ← hz] at this
/-- a token that is written -/
def Good (x : Tk) : Prop := ∃ kn : Nat, x.k = kn ∧ 0 < (wrB x).size ∧ (wrB x).size ≤ 1048576 ∧ oneF (wrB x) 0 = .tok kn x.t x.q (wrB x).size
theorem scan_inv {s : ByteArray} {p : Nat} {y : Tk} {L : List Tk} (h : scanF s p = .ok (y :: L)) : ∃ k t q n, skipF s p < s.size ∧ oneF s (skipF s p) = .tok k t q n ∧ y = ⟨k, t, q, lnAt s (skipF s p), colAt s (skipF s p)⟩ ∧ scanF s n = .ok L ∧ skipF s p < n ∧ n ≤ s.size := by
  rw [scanF] at h
  split at h
  · rename_i hlt
    cases ho : oneF s (skipF s p) with
    | tok k t q n =>
      rw [ho] at h
      simp only [] at h
      have hsl := shape_lt hlt (shape_of hlt ho)
      rw [if_pos hsl.1] at h
      cases hn : scanF s n with
      | ok M =>
        rw [hn] at h
        simp only [SR.pre] at h
        injection h with h
        injection h with h1 h2
        exact ⟨k, t, q, n, hlt, rfl, h1.symm, by rw [hn]; exact congrArg SR.ok h2, hsl.1, hsl.2⟩
      | bad e x y => rw [hn] at h; simp [SR.pre] at h
    | err e => rw [ho] at h; simp at h
  · simp at h
theorem good_of_scan {x y : Tk} (hs : (wrB x).size ≤ 1048576) (h : scanF (wrB x) 0 = .ok [y]) (h1 : y.k = x.k) (h2 : y.t = x.t) (h3 : y.q = x.q) : Good x := by
  obtain ⟨k, t, q, n, hlt, ho, hy, hn, hl1, hl2⟩ := scan_inv h
  subst hy
  have h1' : (k : Int) = x.k := h1
  have h2' : t = x.t := h2
  have h3' : q = x.q := h3
  subst h2' h3'
  obtain ⟨w1, _⟩ := shape_wr (shape_of hlt ho) hlt
  have hz := wr_size x
  rw [h1'] at w1
  have e0 : skipF (wrB x) 0 = 0 := by omega
  rw [e0] at ho hl1 w1
  have en : n = (wrB x).size := by omega
  rw [en] at ho
  exact ⟨k, h1'.symm, by omega, hs, ho⟩
theorem scan_of_good {x : Tk} (h : Good x) : scanF (wrB x) 0 = .ok [⟨x.k, x.t, x.q, 1, 1⟩] := by
  obtain ⟨kn, hk, h0, hz, ho⟩ := h
  have hf := shape_first h0 (shape_of h0 ho)
  have hs : skipF (wrB x) 0 = 0 := skip_here hf.1 hf.2
  rw [scan_tok (p := 0) (n := (wrB x).size) (by rw [hs]; exact h0) (by rw [hs]; exact ho) (by rw [hs]; exact h0), hs, scan_end (p := (wrB x).size) (by rw [skip_end (Nat.le_refl _)]; exact Nat.le_refl _)]
  rw [hk]; rfl
/-- what was read is written -/
theorem good_tok {s : ByteArray} {p k n : Nat} {t : ByteArray} {q : Bool} (hp : p < s.size) (hs : s.size ≤ 1048576) (h : oneF s p = .tok k t q n) (l c : Int) : Good ⟨k, t, q, l, c⟩ := by
  obtain ⟨h1, h2⟩ := one_wr hp h l c
  have hlt := shape_lt hp (shape_of hp h)
  exact ⟨k, rfl, by omega, by omega, h1⟩
end Go.Proofs.YtlgcmpiobglbbaaDoor
