/- lexis: where tokens stand, in plain mathematics. -/
import Derived.Test.YtlgcmpiobglbbaaDoorKN
set_option linter.unusedVariables false
set_option linter.unusedSimpArgs false
namespace Go.Proofs.YtlgcmpiobglbbaaDoor
open Go.RowKit Mth

theorem ln_ge {s : ByteArray} {p : Nat} : ∀ d, lnAt s p ≤ lnAt s (p + d) ∧ (lnAt s p = lnAt s (p + d) → fsAt s (p + d) = fsAt s p)
  | 0 => ⟨Nat.le_refl _, fun _ => rfl⟩
  | d + 1 => by
    have ih := ln_ge (s := s) (p := p) d
    by_cases h : cb s (p + d) = 10
    · have e := ln_nl h
      rw [show p + (d + 1) = p + d + 1 by omega, e.1]
      exact ⟨by omega, fun e2 => by omega⟩
    · have e := ln_same h
      rw [show p + (d + 1) = p + d + 1 by omega, e.1, e.2]
      exact ih
/-- no two places have the same line and column -/
theorem place_ne {s : ByteArray} {p q : Nat} (h : p < q) : ¬ (lnAt s q = lnAt s p ∧ colAt s q = colAt s p) := by
  rintro ⟨h1, h2⟩
  have h3 := ln_ge (s := s) (p := p) (q - p)
  rw [show p + (q - p) = q by omega] at h3
  have h4 := h3.2 h1.symm
  have h5 := fs_le s p
  unfold colAt at h2
  omega
/-- the state of the walk through a text: L are the tokens, k of them lie behind -/
def At (s : ByteArray) (L : List Tk) (p k : Nat) : Prop := p ≤ s.size ∧ k ≤ L.length ∧ scanF s p = .ok (L.drop k)
theorem at_blank {s : ByteArray} {L : List Tk} {p k : Nat} (h : At s L p k) (hp : p < s.size) (hb : bBlank (cb s p) = true) : At s L (p + 1) k :=
  ⟨by omega, h.2.1, by rw [← scan_congr (skip_blank hp hb)]; exact h.2.2⟩
theorem at_cmt {s : ByteArray} {L : List Tk} {p k j : Nat} (h : At s L p k) (hp : p < s.size) (hb : cb s p = 59) (hj : cmtF s (p + 1) = j) (hjs : j ≤ s.size) : At s L j k :=
  ⟨hjs, h.2.1, by rw [← hj, ← scan_congr (skip_cmt hp hb)]; exact h.2.2⟩
/-- where no token begins -/
theorem at_none {s : ByteArray} {L : List Tk} {p k : Nat} (h : At s L p k) (hp : p < s.size) (hb : bBlank (cb s p) = true ∨ cb s p = 59) {y : Tk} (hy : L[k]? = some y) : ¬ (y.l = lnAt s p ∧ y.c = colAt s p) := by
  have hlt := (List.getElem?_eq_some_iff.1 hy).1
  have hd : L.drop k = y :: L.drop (k + 1) := by
    rw [List.drop_eq_getElem_cons hlt]
    have := (List.getElem?_eq_some_iff.1 hy).2
    rw [this]
  have h2 := h.2.2
  rw [hd] at h2
  obtain ⟨kk, t, q, n, h3, h4, h5, h6, h7, h8⟩ := scan_inv h2
  have hg : p < skipF s p := by
    rcases hb with hb | hb
    · rw [skip_blank hp hb]; have := skip_ge (s := s) s.size (p := p + 1) (by omega); omega
    · rw [skip_cmt hp hb]
      have h1 := cmt_ge (s := s) s.size (p := p + 1) (by omega)
      have := skip_ge (s := s) s.size (p := cmtF s (p + 1)) (by omega); omega
  intro ⟨e1, e2⟩
  rw [h5] at e1 e2
  exact place_ne (s := s) hg ⟨Int.ofNat.inj e1, Int.ofNat.inj e2⟩
theorem hex_not_nl {s : ByteArray} {t : ByteArray} {p n : Nat} {q : Bool} (h : Shape s p 5 t q n) : cb s p = 35 ∧ cb s (p + 1) = 120 ∧ (∀ j, p + 2 ≤ j → j < n → bHex (cb s j) = true) ∧ t = lowB (s.extract (p + 2) n) ∧ p + 2 < n ∧ n ≤ s.size := by
  cases h with
  | hex q h1 h2 h3 h4 h5 h6 => exact ⟨h1, h2, h3, rfl, h4, h5⟩
/-- where a token begins -/
theorem at_token {s : ByteArray} {L : List Tk} {p k : Nat} (hs : s.size ≤ 1048576) (h : At s L p k) (hp : p < s.size) (hb : bBlank (cb s p) = false) (hc : cb s p ≠ 59) :
    ∃ y, L[k]? = some y ∧ y.l = lnAt s p ∧ y.c = colAt s p ∧ Good y ∧ 0 < (wrB y).size ∧ p + (wrB y).size ≤ s.size ∧ (y.k ≠ 5 → s.extract p (p + (wrB y).size) = wrB y) ∧ (y.k = 5 → s.extract p (p + 2) = ⟨#[35, 120]⟩ ∧ p + 2 ≤ s.size) ∧
      (∀ i, i < (wrB y).size → (cb (wrB y) i = 10 ↔ cb s (p + i) = 10)) ∧ At s L (p + (wrB y).size) (k + 1) := by
  have hk := skip_here hb hc
  have hlt : k < L.length := by
    rcases Nat.lt_or_ge k L.length with h1 | h1
    · exact h1
    · exfalso
      have h2 := h.2.2
      rw [List.drop_eq_nil_of_le h1, scanF, if_pos (by rw [hk]; exact hp), hk] at h2
      split at h2
      · split at h2
        · cases hsc : scanF s _ with
          | ok M => rw [hsc] at h2; simp [SR.pre] at h2
          | bad e a b => rw [hsc] at h2; simp [SR.pre] at h2
        · cases h2
      · cases h2
  have hd : L.drop k = L[k] :: L.drop (k + 1) := List.drop_eq_getElem_cons hlt
  have h2 := h.2.2
  rw [hd] at h2
  obtain ⟨kk, t, q, n, h3, h4, h5, h6, h7, h8⟩ := scan_inv h2
  rw [hk] at h3 h4 h5 h7
  have hgy : Good L[k] := by rw [h5]; exact good_tok hp hs h4 _ _
  have hsh := shape_of hp h4
  obtain ⟨hw1, hw2⟩ := shape_wr hsh hp
  have how := one_wr hp h4 (lnAt s p) (colAt s p)
  have hz : (wrB L[k]).size = n - p := by rw [h5]; exact how.2
  have hn : p + (wrB L[k]).size = n := by omega
  have hel : ∀ j, j < (wrB L[k]).size → cb (wrB L[k]) j = ((wrT L[k]).getD j 0).toNat := fun j hj => cb_list (wrT L[k]) j (by rw [wrT_len]; exact hj)
  have hby : (L[k]).k ≠ 5 → Byt s p (wrT L[k]) := fun h => by
    rw [h5] at h ⊢
    exact hw2 (by intro e; apply h; rw [e]; rfl)
  refine ⟨L[k], List.getElem?_eq_getElem hlt, by rw [h5], by rw [h5], hgy, by omega, by omega, fun h => ?_, fun h => ?_, fun i hi => ?_, ⟨by omega, by omega, by rw [hn]; exact h6⟩⟩
  · have := byt_ext (hby h) (by rw [wrT_len]; omega)
    rw [wrT_len] at this
    exact this
  · have hk5 : kk = 5 := by
      rw [h5] at h
      have h' : (kk : Int) = 5 := h
      omega
    subst hk5
    obtain ⟨g1, g2, g3, g4, g5, g6⟩ := hex_not_nl hsh
    refine ⟨?_, by omega⟩
    exact byt_ext (s := s) (l := [35, 120]) (i := p) ⟨g1, g2, True.intro⟩ (by simp; omega)
  · by_cases h9 : (L[k]).k = 5
    · have hk5 : kk = 5 := by
        rw [h5] at h9
        have h' : (kk : Int) = 5 := h9
        omega
      subst hk5
      obtain ⟨g1, g2, g3, g4, g5, g6⟩ := hex_not_nl hsh
      have hno : cb s (p + i) ≠ 10 := by
        rcases (show i = 0 ∨ i = 1 ∨ 2 ≤ i by omega) with rfl | rfl | h10
        · rw [Nat.add_zero, g1]; decide
        · rw [g2]; decide
        · have := g3 (p + i) (by omega) (by omega)
          rw [bHex_iff] at this; omega
      have hno2 : cb (wrB L[k]) i ≠ 10 := by
        rw [hel i hi]
        have hwt : wrT L[k] = 35 :: 120 :: lower (s.extract (p + 2) n).data.toList := by
          rw [h5, g4]
          show 35 :: 120 :: (lower (s.extract (p + 2) n).data.toList).toArray.toList = _
          rw [List.toList_toArray]
        rw [hwt]
        rcases (show i = 0 ∨ i = 1 ∨ 2 ≤ i by omega) with rfl | rfl | h10
        · show (35 : UInt8).toNat ≠ 10; decide
        · show (120 : UInt8).toNat ≠ 10; decide
        · obtain ⟨j, rfl⟩ : ∃ j, i = j + 2 := ⟨i - 2, by omega⟩
          rw [List.getD_cons_succ, List.getD_cons_succ]
          obtain ⟨b1, b2⟩ := byt_of_ext (s := s) (a := p + 2) (b := n) rfl (by omega) g6
          have hj : j < (s.extract (p + 2) n).data.toList.length := by rw [b2]; omega
          have hj' : j < (lower (s.extract (p + 2) n).data.toList).length := by unfold lower; rw [List.length_map]; exact hj
          rw [List.getD_eq_getElem?_getD, List.getElem?_eq_getElem hj', Option.getD_some]
          rw [show (lower (s.extract (p + 2) n).data.toList)[j] = Lib.lowerB ((s.extract (p + 2) n).data.toList[j]) from List.getElem_map ..]
          have hx : bHex ((s.extract (p + 2) n).data.toList[j]).toNat = true := by
            have h11 := byt_at b1 hj
            rw [List.getD_eq_getElem?_getD, List.getElem?_eq_getElem hj, Option.getD_some] at h11
            rw [← h11]; exact g3 _ (by omega) (by omega)
          have := (low_hex _ hx).1
          rw [bHex_iff] at this; omega
      exact ⟨fun e => absurd e hno2, fun e => absurd e hno⟩
    · rw [hel i hi, byt_at (hby h9) (by rw [wrT_len]; exact hi)]
theorem at_end {s : ByteArray} {L : List Tk} {k : Nat} (h : At s L s.size k) : k = L.length := by
  have h2 := h.2.2
  rw [scan_end (by rw [skip_end (Nat.le_refl _)]; exact Nat.le_refl _)] at h2
  injection h2 with h3
  have h4 := congrArg List.length h3
  rw [List.length_drop, List.length_nil] at h4
  have := h.2.1
  omega
end Go.Proofs.YtlgcmpiobglbbaaDoor
