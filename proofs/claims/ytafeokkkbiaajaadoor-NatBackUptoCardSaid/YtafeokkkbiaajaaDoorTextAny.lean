/- nat.Text at every base. -/
import Derived.Test.YtafeokkkbiaajaaDoorText10
namespace Go.Proofs.YtafeokkkbiaajaaDoor
open Go.RowKit Mth

/-- what Text answers -/
def txE (b : Int) (n : Nat) : Int := if b = 2 ∨ b = 10 ∨ b = 16 then (if Big ≤ n then 5 else 0) else 12
def txS (b : Int) (n : Nat) : List Nat := if b = 2 ∨ b = 10 ∨ b = 16 then (if Big ≤ n then [] else numeral b.toNat n) else []
theorem tx_bad {b : Int} {n : Nat} (h : ¬ (b = 2 ∨ b = 10 ∨ b = 16)) : txS b n = [] ∧ txE b n = 12 := ⟨if_neg h, if_neg h⟩
theorem tx_long {b : Int} {n : Nat} (h : b = 2 ∨ b = 10 ∨ b = 16) (hn : Big ≤ n) : txS b n = [] ∧ txE b n = 5 := by
  unfold txS txE; rw [if_pos h, if_pos h, if_pos hn, if_pos hn]; exact ⟨rfl, rfl⟩
theorem tx_fine {b : Int} {n : Nat} (h : b = 2 ∨ b = 10 ∨ b = 16) (hn : ¬ Big ≤ n) : txS b n = numeral b.toNat n ∧ txE b n = 0 := by
  unfold txS txE; rw [if_pos h, if_pos h, if_neg hn, if_neg hn]; exact ⟨rfl, rfl⟩
theorem textS_num {b w : Nat} (hb : 2 ≤ b) (hw : 0 < w) (hB : B64 = b ^ w) (hc : (b : Int) = 2 ∨ (b : Int) = 10 ∨ (b : Int) = 16) {xs : List Nat} (hl : Lim B64 xs) :
    textS (dgs b w) w xs = txS (b : Int) (val B64 xs) ∧ textE xs = txE (b : Int) (val B64 xs) := by
  have hi := long_iff hl
  by_cases hlong : 4096 < (trimL xs).length
  · obtain ⟨e1, e2⟩ := tx_long hc (hi.1 hlong)
    rw [textS_long hlong, textE_long hlong, e1, e2]; exact ⟨rfl, rfl⟩
  · obtain ⟨e1, e2⟩ := tx_fine hc (fun h => hlong (hi.2 h))
    rw [textE_short hlong, e1, e2]
    refine ⟨?_, rfl⟩
    rw [Int.toNat_natCast, ← val_trimL]
    by_cases h0 : (trimL xs).length = 0
    · rw [textS_zero h0, List.eq_nil_of_length_eq_zero h0]
      simp only [val]
      rw [numeral_low (by omega)]; rfl
    · rw [textS_any hlong h0]
      have hlt := lim_trimL hl
      rw [hB] at hlt ⊢
      exact jnd_numeral hb hw (fun c h => dgs_numeral hb h hw) _ hlt (top_trimL xs) (by omega)
theorem b64_2 : B64 = 2 ^ 64 := rfl
theorem b64_16 : B64 = 16 ^ 16 := rfl
theorem fmts10 : Fmts (numeral 10) chk TZ10 10 := fun n w hn hz => fmt10 n (Nat.lt_trans hn chk_lt) w hz

set_option maxHeartbeats 2000000 in
set_option maxRecDepth 100000 in
theorem text10 (v : Value) (xs : List Nat) (w : World) (hs : Sl w .u64 v xs) (hl : Lim B64 xs) (hz : TZ10 w) :
    Calls Tryd.prog 41 #[v, .int .i64 10] w fun e w' => e = .returned (.tuple #[.string ⟨(toBytes (txS 10 (val B64 xs))).toArray⟩, .int .i64 (txE 10 (val B64 xs))]) ∧ Below w.heap.size w w' := by
  have T := Lib.hid (trim_any hs)
  have G := Lib.hid (long_iff hl)
  have e1 : val B64 (trimL xs) = val B64 xs := val_trimL _ _
  have k1 := lim_trimL hl; have p1 := top_trimL xs
  rw [← e1] at G ⊢
  have HZ := Lib.hid hz
  clear hs hl e1 hz
  generalize trimL xs = ts at *
  have K1 := Lib.hid k1; have P1 := Lib.hid p1
  clear k1 p1
  by_cases hlong : 4096 < ts.length
  · have hd : decide (4096 < ts.length) = true := decide_eq_true hlong
    have E := Lib.hid (tx_long (b := 10) (by omega) (G.out.1 hlong))
    clear hlong
    go_enter Tryd.func41, Tryd.ntmps41
    go_wp2_with fail
    refine T.out.mono ?_
    rintro e w' ⟨v', rfl, hs', rfl⟩
    have HS' := Lib.hid hs'; clear hs'
    go_wp2_with (first | (go_at_call 50; refine (tooLong_any HS'.out).mono ?_; rintro e w' ⟨rfl, rfl⟩) | (go_at_call 72; go_in))
    go_ret2
    exact ⟨by rw [E.out.1, E.out.2]; rfl, Below.refl _ _⟩
  · have hd : decide (4096 < ts.length) = false := decide_eq_false hlong
    have NB : ¬ Big ≤ val B64 ts := fun h => hlong (G.out.2 h)
    have E := Lib.hid (tx_fine (b := 10) (by omega) NB)
    have hNB := Lib.hid (Nat.lt_of_not_le NB)
    clear hlong NB
    by_cases h0 : ts.length = 0
    · have hd0 := len_eq h0
      have E0 : Hid (numeral (10 : Int).toNat (val B64 ts) = [48]) := Lib.hid (by rw [List.eq_nil_of_length_eq_zero h0]; exact numeral_low (by decide))
      clear h0
      go_enter Tryd.func41, Tryd.ntmps41
      go_wp2_with fail
      refine T.out.mono ?_
      rintro e w' ⟨v', rfl, hs', rfl⟩
      obtain ⟨a2, c2, rfl⟩ := hs'.shape
      have HS' := Lib.hid hs'; clear hs'
      go_wp2_with (first | (go_at_call 50; refine (tooLong_any HS'.out).mono ?_; rintro e w' ⟨rfl, rfl⟩) | (go_at_call 72; go_in))
      go_ret2
      exact ⟨by rw [E.out.1, E.out.2, E0.out]; rfl, Below.refl _ _⟩
    · have hd0 := len_ne h0
      have H0 : Hid (0 < ts.length) := Lib.hid (by omega)
      clear h0
      go_enter Tryd.func41, Tryd.ntmps41
      go_wp2_with fail
      refine T.out.mono ?_
      rintro e w' ⟨v', rfl, hs', rfl⟩
      obtain ⟨a2, c2, rfl⟩ := hs'.shape
      have CH := Lib.hid (chunks_any _ ts _ hs' K1.out P1.out H0.out hNB.out)
      have HS' := Lib.hid hs'; clear hs'
      go_wp2_with (first | (go_at_call 50; refine (tooLong_any HS'.out).mono ?_; rintro e w' ⟨rfl, rfl⟩) | (go_at_call 72; go_in))
      refine CH.out.mono ?_
      rintro e w1 ⟨cv, cs, rfl, hsl, hlim, htop, hpos, hval, hb1⟩
      have J := joined_any 10 19 chk (numeral 10) TZ10 (fun _ _ h hb => h.below hb) (fun n hn => numeral_len (by omega) (f := 19) (by rw [← chk_pow]; exact hn) (by omega)) (by omega) fmts10 cv cs w1 hsl hlim hpos (HZ.out.below hb1)
      have hj : jnd (numeral 10) 19 cs = numeral (10 : Int).toNat (val B64 ts) := by
        rw [← hval]
        exact jnd_numeral (b := 10) (w := 19) (by omega) (by omega) (fun _ _ => rfl) cs hlim htop hpos
      rw [hj] at J
      have JJ := Lib.hid J; have B1 := Lib.hid hb1
      clear hsl hlim htop hpos hval hb1 J hj
      go_wp2_with fail
      refine JJ.out.mono ?_
      rintro e w2 ⟨rfl, hb2⟩
      have B2 := Lib.hid (below_step B1.out hb2)
      clear hb2
      go_wp2
      go_ret2
      exact ⟨by rw [E.out.1, E.out.2]; rfl, B2.out⟩

theorem text_bad (v : Value) (xs : List Nat) (b : Int) (w : World) (hs : Sl w .u64 v xs) (hb : ¬ (b = 2 ∨ b = 10 ∨ b = 16)) (hb2 : -9223372036854775808 ≤ b ∧ b ≤ 9223372036854775807) :
    Calls Tryd.prog 41 #[v, .int .i64 b] w fun e w' => e = .returned (.tuple #[.string ⟨(toBytes []).toArray⟩, .int .i64 12]) ∧ Below w.heap.size w w' := by
  have T := Lib.hid (trim_any hs)
  have IB := Lib.hid (isBase_any b false (by simpa using hb) hb2)
  clear hs hb hb2
  go_enter Tryd.func41, Tryd.ntmps41
  go_wp2_with fail
  refine T.out.mono ?_
  rintro e w' ⟨v', rfl, hs', rfl⟩
  clear hs'
  go_wp2_with fail
  refine (IB.out _).mono ?_
  rintro e w' ⟨rfl, rfl⟩
  go_wp2
  go_ret2
  exact ⟨rfl, Below.refl _ _⟩
theorem text_any (v : Value) (xs : List Nat) (b : Int) (w : World) (hs : Sl w .u64 v xs) (hl : Lim B64 xs) (hz : TZ w) (hz10 : TZ10 w) (hb2 : -9223372036854775808 ≤ b ∧ b ≤ 9223372036854775807) :
    Calls Tryd.prog 41 #[v, .int .i64 b] w fun e w' => e = .returned (.tuple #[.string ⟨(toBytes (txS b (val B64 xs))).toArray⟩, .int .i64 (txE b (val B64 xs))]) ∧ Below w.heap.size w w' := by
  by_cases hb : b = 2 ∨ b = 10 ∨ b = 16
  · rcases hb with rfl | rfl | rfl
    · have h := textS_num (b := 2) (w := 64) (by omega) (by omega) b64_2 (.inl rfl) hl
      refine (text2 v xs w hs hl hz).mono fun e w' ⟨h1, h2⟩ => ⟨?_, h2⟩
      rw [h1, h.1, h.2]; rfl
    · exact text10 v xs w hs hl hz10
    · have h := textS_num (b := 16) (w := 16) (by omega) (by omega) b64_16 (.inr (.inr rfl)) hl
      refine (text16 v xs w hs hl hz).mono fun e w' ⟨h1, h2⟩ => ⟨?_, h2⟩
      rw [h1, h.1, h.2]; rfl
  · obtain ⟨e1, e2⟩ := tx_bad (n := val B64 xs) hb
    rw [e1, e2]
    exact text_bad v xs b w hs hb hb2
end Go.Proofs.YtafeokkkbiaajaaDoor
