/- lexis's reference: bare, whatever the piece. -/
import Derived.Test.YtlgcmpiobglbbaaDoorND
set_option linter.unusedVariables false
set_option linter.unusedSimpArgs false
namespace Go.Proofs.YtlgcmpiobglbbaaDoor
open Go.RowKit Mth

theorem dec_ext {s : ByteArray} {p e : Nat} (hpe : p ≤ e) (he : e ≤ s.size) : isDec (s.extract p e) 0 (e - p) ↔ isDec s p e := by
  constructor
  · rintro ⟨i, i1, i2, i3, i4, i5⟩
    refine ⟨p + i, by omega, by rw [← i2, cb_ext i1 he], ?_, ?_, by omega⟩
    · have := isNum_move (s' := s) (p' := p) i3 (fun j hj => by rw [Nat.zero_add, cb_ext (by omega) he])
      rwa [Nat.sub_zero] at this
    · intro j j1 j2
      have := i4 (j - p) (by omega) (by omega)
      rwa [cb_ext (by omega) he, show p + (j - p) = j by omega] at this
  · rintro ⟨i, i1, i2, i3, i4, i5⟩
    have hp := i3.1
    refine ⟨i - p, by omega, by rw [cb_ext (by omega) he, show p + (i - p) = i by omega]; exact i2, ?_, ?_, by omega⟩
    · have := isNum_move (s' := s.extract p e) (p' := 0) i3 (fun j hj => by rw [Nat.zero_add, cb_ext (by omega) he])
      rwa [Nat.zero_add] at this
    · intro j j1 j2
      rw [cb_ext j2 he]; exact i4 _ (by omega) (by omega)
theorem ext_tail {s : ByteArray} {p e k : Nat} (hpe : p ≤ e) (he : e ≤ s.size) : (s.extract p e).extract k (s.extract p e).size = s.extract (p + k) e := by
  rw [size_ext he, ByteArray.extract_extract, show p + (e - p) = e by omega, Nat.min_self]
theorem two_iff {x : ByteArray} {a b : UInt8} (h : 2 < x.size) : x.extract 0 2 = ⟨#[a, b]⟩ ↔ cb x 0 = a.toNat ∧ cb x 1 = b.toNat := by
  constructor
  · intro e
    have h1 := (byt_of_ext e (by omega) (by omega)).1
    exact ⟨h1.1, h1.2.1⟩
  · rintro ⟨h1, h2⟩
    exact byt_ext (l := [a, b]) (i := 0) ⟨h1, h2, True.intro⟩ (by simp; omega)
def BareO (w w' : World) (r : Res) (n : Nat) (e : Ending) : Prop :=
  Below w.heap.size w w' ∧ ((∃ k t, r = .tok k t false n ∧ 0 < k ∧ e = .returned (tokV k t false 0 0)) ∨ (r = .err 62 ∧ e = .returned noTok))
theorem bare_any (s : ByteArray) (p n : Nat) (hp : p < n) (hn : n ≤ s.size) (hs : s.size ≤ 1048576) (w : World) :
    Calls Tryd.prog 49 #[.string (s.extract p n)] w fun e w' => BareO w w' (bareF s p n) n e := by
  have hz : (s.extract p n).size = n - p := size_ext hn
  have hxs : (s.extract p n).size ≤ 1048576 := by omega
  have h0 : 0 < (s.extract p n).size := by omega
  have c0 : cb (s.extract p n) 0 = cb s p := by rw [cb_ext (by omega) hn, Nat.add_zero]
  have numI : isNum (s.extract p n) 0 (s.extract p n).size ↔ isNum s p n := by rw [hz]; exact num_ext (by omega) hn
  have decI : isDec (s.extract p n) 0 (s.extract p n).size ↔ isDec s p n := by rw [hz]; exact dec_ext (by omega) hn
  have t2 : (s.extract p n).extract 2 (s.extract p n).size = s.extract (p + 2) n := ext_tail (by omega) hn
  have t1 : (s.extract p n).extract 1 (s.extract p n).size = s.extract (p + 1) n := ext_tail (by omega) hn
  have tok : ∀ {k : Nat} {t : ByteArray}, bareF s p n = .tok k t false n → 0 < k → (Calls Tryd.prog 49 #[.string (s.extract p n)] w fun e w' => e = .returned (tokV k t false 0 0) ∧ Below w.heap.size w w') → Calls Tryd.prog 49 #[.string (s.extract p n)] w fun e w' => BareO w w' (bareF s p n) n e :=
    fun h1 h2 h => h.mono fun e w' ⟨h3, h4⟩ => ⟨h4, .inl ⟨_, _, h1, h2, h3⟩⟩
  have err : bareF s p n = .err 62 → (Calls Tryd.prog 49 #[.string (s.extract p n)] w fun e w' => e = .returned noTok ∧ Below w.heap.size w w') → Calls Tryd.prog 49 #[.string (s.extract p n)] w fun e w' => BareO w w' (bareF s p n) n e :=
    fun h1 h => h.mono fun e w' ⟨h3, h4⟩ => ⟨h4, .inr ⟨h1, h3⟩⟩
  have all2 : ∀ {P : Nat → Bool} {k : Nat}, p + k ≤ n → (allP (s.extract (p + k) n) P 0 (s.extract (p + k) n).size ↔ allP s P (p + k) n) := fun hk => by rw [size_ext hn]; exact all_ext hk hn
  by_cases hnum : isNum s p n
  · refine tok (k := 3) (t := s.extract p n) ?_ (by omega) (bare_num _ hxs w (numI.2 hnum))
    unfold bareF; rw [if_pos hnum]
  by_cases hdec : isDec s p n
  · refine tok (k := 4) (t := s.extract p n) ?_ (by omega) (bare_dec _ hxs w (fun h => hnum (numI.1 h)) (decI.2 hdec))
    unfold bareF; rw [if_neg hnum, if_pos hdec]
  by_cases h35 : cb s p = 35
  · have ns : ¬ (bDig (cb s p) = false ∧ p < n ∧ allP s bSimple p n) := fun h => by have := h.2.2 p (Nat.le_refl _) hp; rw [h35] at this; cases this
    by_cases h2 : 2 < (s.extract p n).size
    · have c1 : cb (s.extract p n) 1 = cb s (p + 1) := cb_ext (by omega) hn
      by_cases hx : cb s (p + 1) = 120
      · have e0 : (s.extract p n).extract 0 2 = ⟨#[35, 120]⟩ := (two_iff h2).2 ⟨by rw [c0]; exact h35, by rw [c1]; exact hx⟩
        by_cases ha : allP s bHex (p + 2) n
        · have h := bare_hex _ hxs w h0 (by rw [c0]; exact h35) h2 e0 (by rw [t2]; exact ⟨by rw [size_ext hn]; omega, (all2 (by omega)).2 ha⟩)
          rw [t2] at h
          refine tok (k := 5) ?_ (by omega) h
          unfold bareF; rw [if_neg hnum, if_neg hdec, if_pos ⟨h35, hx, by omega, ha⟩]
        · refine err ?_ (bare_hexbad _ hxs w h0 (by rw [c0]; exact h35) h2 e0 (fun h => ha (by rw [t2] at h; exact (all2 (by omega)).1 h.2)))
          exact bare_hash h35 (fun h => ha h.2.2) (fun h => by have := h.1; omega)
      · by_cases hb : cb s (p + 1) = 98
        · have e0 : (s.extract p n).extract 0 2 = ⟨#[35, 98]⟩ := (two_iff h2).2 ⟨by rw [c0]; exact h35, by rw [c1]; exact hb⟩
          by_cases ha : allP s bBin (p + 2) n
          · have h := bare_bin _ hxs w h0 (by rw [c0]; exact h35) h2 e0 (by rw [t2]; exact ⟨by rw [size_ext hn]; omega, (all2 (by omega)).2 ha⟩)
            rw [t2] at h
            refine tok (k := 6) ?_ (by omega) h
            unfold bareF; rw [if_neg hnum, if_neg hdec, if_neg (fun h => hx h.2.1), if_pos ⟨h35, hb, by omega, ha⟩]
          · refine err ?_ (bare_binbad _ hxs w h0 (by rw [c0]; exact h35) h2 e0 (fun h => ha (by rw [t2] at h; exact (all2 (by omega)).1 h.2)))
            exact bare_hash h35 (fun h => hx h.1) (fun h => ha h.2.2)
        · refine err ?_ (bare_hashx _ hxs w h0 (by rw [c0]; exact h35) h2 (fun h => hx (by have := ((two_iff h2).1 h).2; rw [c1] at this; exact this)) (fun h => hb (by have := ((two_iff h2).1 h).2; rw [c1] at this; exact this)))
          exact bare_hash h35 (fun h => hx h.1) (fun h => hb h.1)
    · refine err ?_ (bare_short _ hxs w h0 (by rw [c0]; exact h35) (by omega))
      exact bare_hash h35 (fun h => by omega) (fun h => by omega)
  have nhex : ¬ (cb s p = 35 ∧ cb s (p + 1) = 120 ∧ p + 2 < n ∧ allP s bHex (p + 2) n) := fun h => h35 h.1
  have nbin : ¬ (cb s p = 35 ∧ cb s (p + 1) = 98 ∧ p + 2 < n ∧ allP s bBin (p + 2) n) := fun h => h35 h.1
  have f1 : ∀ h2 : 2 < (s.extract p n).size, (s.extract p n).extract 0 2 ≠ ⟨#[35, 120]⟩ := fun h2 h => h35 (by have := ((two_iff h2).1 h).1; rw [c0] at this; exact this)
  have f2 : ∀ h2 : 2 < (s.extract p n).size, (s.extract p n).extract 0 2 ≠ ⟨#[35, 98]⟩ := fun h2 h => h35 (by have := ((two_iff h2).1 h).1; rw [c0] at this; exact this)
  by_cases h58 : cb s p = 58
  · have ns : ¬ (bDig (cb s p) = false ∧ p < n ∧ allP s bSimple p n) := fun h => by have := h.2.2 p (Nat.le_refl _) hp; rw [h58] at this; cases this
    by_cases ha : p + 1 < n ∧ allP s bSimple (p + 1) n
    · have n5 : 0 < ((s.extract p n).extract 1 (s.extract p n).size).size ∧ allP ((s.extract p n).extract 1 (s.extract p n).size) bSimple 0 ((s.extract p n).extract 1 (s.extract p n).size).size := by
        rw [t1]; exact ⟨by rw [size_ext hn]; omega, (all2 (by omega)).2 ha.2⟩
      have hb : bareF s p n = .tok 9 (s.extract (p + 1) n) false n := by
        unfold bareF; rw [if_neg hnum, if_neg hdec, if_neg nhex, if_neg nbin, if_pos ⟨h58, ha⟩]
      by_cases h2 : 2 < (s.extract p n).size
      · have h := bare_key_2 _ hxs w h0 (by rw [c0]; exact h58) n5 h2 (f1 h2) (f2 h2)
        rw [t1] at h
        exact tok hb (by omega) h
      · have h := bare_key_1 _ hxs w h0 (by rw [c0]; exact h58) n5 (by omega)
        rw [t1] at h
        exact tok hb (by omega) h
    · have n5 : ¬ (0 < ((s.extract p n).extract 1 (s.extract p n).size).size ∧ allP ((s.extract p n).extract 1 (s.extract p n).size) bSimple 0 ((s.extract p n).extract 1 (s.extract p n).size).size) := by
        rw [t1]; intro h; rw [size_ext hn] at h; exact ha ⟨by have := h.1; omega, (all_ext (by omega) hn).1 h.2⟩
      have hb : bareF s p n = .err 62 := by
        unfold bareF; rw [if_neg hnum, if_neg hdec, if_neg nhex, if_neg nbin, if_neg (fun h => ha h.2), if_neg ns]
      by_cases h2 : 2 < (s.extract p n).size
      · exact err hb (bare_keybad_2 _ hxs w h0 (by rw [c0]; exact h58) n5 h2 (f1 h2) (f2 h2))
      · exact err hb (bare_keybad_1 _ hxs w h0 (by rw [c0]; exact h58) n5 (by omega))
  have nkey : ¬ (cb s p = 58 ∧ p + 1 < n ∧ allP s bSimple (p + 1) n) := fun h => h58 h.1
  rcases Bool.eq_false_or_eq_true (bDig (cb s p)) with hd | hd
  · have hb : bareF s p n = .err 62 := bare_dig_err hd hnum hdec
    by_cases h2 : 2 < (s.extract p n).size
    · exact err hb (bare_dig_2 _ hxs w h0 (by rw [c0]; exact h58) (by rw [c0]; exact hd) (fun h => hnum (numI.1 h)) (fun h => hdec (decI.1 h)) h2 (f1 h2) (f2 h2))
    · exact err hb (bare_dig_1 _ hxs w h0 (by rw [c0]; exact h58) (by rw [c0]; exact hd) (fun h => hnum (numI.1 h)) (fun h => hdec (decI.1 h)) (by omega))
  · by_cases ha : allP s bSimple p n
    · have n6 : 0 < (s.extract p n).size ∧ allP (s.extract p n) bSimple 0 (s.extract p n).size := ⟨h0, by rw [hz]; exact (all_ext (by omega) hn).2 ha⟩
      have hb : bareF s p n = .tok 8 (s.extract p n) false n := by
        unfold bareF; rw [if_neg hnum, if_neg hdec, if_neg nhex, if_neg nbin, if_neg nkey, if_pos ⟨hd, hp, ha⟩]
      by_cases h2 : 2 < (s.extract p n).size
      · exact tok hb (by omega) (bare_word_2 _ hxs w h0 (by rw [c0]; exact h58) (by rw [c0]; exact hd) n6 h2 (f1 h2) (f2 h2))
      · exact tok hb (by omega) (bare_word_1 _ hxs w h0 (by rw [c0]; exact h58) (by rw [c0]; exact hd) n6 (by omega))
    · have n6 : ¬ (0 < (s.extract p n).size ∧ allP (s.extract p n) bSimple 0 (s.extract p n).size) := fun h => ha (by rw [hz] at h; exact (all_ext (by omega) hn).1 h.2)
      have hb : bareF s p n = .err 62 := by
        unfold bareF; rw [if_neg hnum, if_neg hdec, if_neg nhex, if_neg nbin, if_neg nkey, if_neg (fun h => ha h.2.2)]
      by_cases h2 : 2 < (s.extract p n).size
      · exact err hb (bare_wordbad_2 _ hxs w h0 (by rw [c0]; exact h58) (by rw [c0]; exact hd) n6 h2 (f1 h2) (f2 h2))
      · exact err hb (bare_wordbad_1 _ hxs w h0 (by rw [c0]; exact h58) (by rw [c0]; exact hd) n6 (by omega))
end Go.Proofs.YtlgcmpiobglbbaaDoor
