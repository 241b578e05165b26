/- Text10 TextAny. -/
import Derived.Test.YthgmebnihpjnoaaGreatDoorDV
import Derived.Test.YthgmebnihpjnoaaGreatDoorRF
import Derived.Test.YthgmebnihpjnoaaGreatDoorTX
import Derived.Test.YthgmebnihpjnoaaGreatDoorPA
set_option linter.unusedVariables false
set_option linter.unusedSimpArgs false
/- nat: decimalChunks, Text at the base 10; Text at every base. -/
namespace Go.Proofs.YthgmebnihpjnoaaGreatDoor
open Go.RowKit Mth

/-- the chunk of 19 decimal digits -/
def chk : Nat := 10000000000000000000
theorem chk_pow : chk = 10 ^ 19 := rfl
theorem chk_lt : chk < B64 := by unfold chk B64; omega
theorem append_chunk {w : World} {ops : Array Oper} {rest : List Oper} {o : Oper} {a : Act} {Q : Exit → Act → World → Prop} (hgd : o.guard = none) (s x : Operand)
    (ho : o.op = .call { callee := .builtin .append, args := #[s, x], argTypes := #[22, 22] }) (base : Nat) (v : Value) (xs : List Nat) (y : Nat) (ad : Addr)
    (hs : a.eval s = v) (hx : a.eval x = .slice (some ad) 1 1) (hown : w.ownsRow base 73 1 v xs.length (cellsOf .u64 xs)) (hc : w.cell? ad = some (.int .u64 ((y : Nat) : Int))) (hlen : xs.length ≤ 16777216) (hbase : base ≤ w.heap.size)
    (h : ∀ v' w', w'.ownsRow base 73 1 v' (xs ++ [y]).length (cellsOf .u64 (xs ++ [y])) → w.grownBy w' v.ownBlock → wpList Tryz.prog ops Q rest (a.put o.dst v') w') : wpList Tryz.prog ops Q (o :: rest) a w := by
  obtain ⟨i0, hi, hz0, hz1, hz2⟩ := info_parts info_u64
  refine wpList_append_own w hgd s x 22 ho base 73 i0 _ 1 8 Tryz.underlying22 hi hz0 hz1 hz2 rfl (by decide) v _ _ hs hown ad 1 1 [.int .u64 ((y : Nat) : Int)] hx rfl ?_ ?_
    (by unfold maxLen; omega) (by omega) hbase ?_
  · intro j u hj
    match j, hj with
    | 0, hj => simp at hj; subst hj; simpa [Addr.add] using hc
  · intro u hu
    simp at hu; subst hu; rfl
  · intro v' w' h2 h3 _
    refine h v' w' ?_ h3
    rw [cellsOf_append, List.length_append]
    exact h2

/-- what the loop of decimalChunks holds: cs are the chunks, the rest of the number lies in R -/
structure ChT (N : Nat) (cs R : List Nat) (n : Nat) : Prop where
  lim : Lim chk cs
  rlim : Lim B64 R
  len : n ≤ R.length
  top : Top (R.take n)
  eq : N = val chk cs + chk ^ cs.length * val B64 (R.take n)
  ctop : val B64 (R.take n) = 0 → Top cs
theorem lim_snoc' {B x : Nat} {xs : List Nat} (h : Lim B xs) (hx : x < B) : Lim B (xs ++ [x]) := by
  intro j
  simp only [List.getD_eq_getElem?_getD, List.getElem?_append]
  split
  · have := h j; simpa [List.getD_eq_getElem?_getD] using this
  · rcases Nat.eq_zero_or_pos (j - xs.length) with h0 | h0
    · rw [h0]; simpa using hx
    · rw [List.getElem?_eq_none (by simp; omega)]
      simp; omega
theorem chT_val {N n : Nat} {cs R : List Nat} (h : ChT N cs R n) (hn : 0 < n) : 0 < val B64 (R.take n) :=
  pos_of_top h.top (by rw [List.length_take]; have := h.len; omega)
theorem chT_step {N n r : Nat} {cs R R' : List Nat} (h : ChT N cs R n) (hn : 0 < n) (hT : DbT R R' n chk 0 r) : ChT N (cs ++ [r]) R' (tlen (R'.take n)) := by
  have hE := dbT_end hT
  have hl := hT.len
  have hpos := chT_val h hn
  have hle := tlen_le (R'.take n)
  rw [List.length_take] at hle
  have e : (R'.take n).take (tlen (R'.take n)) = R'.take (tlen (R'.take n)) := by rw [List.take_take]; congr 1; omega
  have hv : val B64 (R'.take (tlen (R'.take n))) = val B64 (R'.take n) := by
    have := val_trimL B64 (R'.take n)
    unfold trimL at this
    rwa [e] at this
  have hT2 : Top (R'.take (tlen (R'.take n))) := by
    have := top_trimL (R'.take n)
    unfold trimL at this
    rwa [e] at this
  have e2 := Nat.mod_add_div (val B64 (R.take n)) chk
  rw [← hE.2, ← hE.1] at e2
  refine ⟨lim_snoc' h.lim hT.rlt, hT.lim, by omega, hT2, ?_, fun h0 => ?_⟩
  · have e1 := h.eq
    rw [hv, val_append, List.length_append, List.length_singleton, Nat.pow_succ, Nat.mul_assoc, e1, ← e2]
    simp only [val, Nat.mul_zero, Nat.add_zero, Nat.mul_add]
    omega
  · rw [hv] at h0
    rw [h0, Nat.mul_zero] at e2
    exact top_snoc (by omega)
/-- so many chunks are enough -/
def mch : Nat := 4162
theorem big_chunks {m : Nat} (h : 64 * maxL ≤ 63 * m) : Big ≤ (2 ^ 63) ^ m := by
  rw [big_pow, ← Nat.pow_mul]
  exact Nat.pow_le_pow_right (by omega) h
theorem chT_few {N n : Nat} {cs R : List Nat} (h : ChT N cs R n) (hn : 0 < n) (hN : N < Big) : cs.length < mch := by
  have hpos := chT_val h hn
  have h1 : chk ^ cs.length * 1 ≤ chk ^ cs.length * val B64 (R.take n) := Nat.mul_le_mul_left _ hpos
  have h2 : chk ^ cs.length < Big := by have := h.eq; omega
  rcases Nat.lt_or_ge cs.length mch with h3 | h3
  · exact h3
  · exfalso
    have h6 : Big ≤ (2 ^ 63) ^ mch := big_chunks (by unfold maxL mch; omega)
    have h4 : chk ^ mch ≤ chk ^ cs.length := Nat.pow_le_pow_right (by unfold chk; omega) h3
    have h5 : (2 ^ 63) ^ mch ≤ chk ^ mch := Nat.pow_le_pow_left (by unfold chk; omega) _
    omega
theorem own_len {w : World} {base e n : Nat} {v : Value} {xs : List Value} (h : w.ownsRow base e 1 v n xs) : lenOf v = n := by
  rcases h.2 with ⟨rfl, h0⟩ | ⟨g, cap, cur, rfl, _⟩
  · rw [h0]; rfl
  · rfl
theorem own_kept {w w' : World} {base e n g : Nat} {v : Value} {xs : List Value} (h : w.ownsRow base e 1 v n xs) (hg : w.grownBy w' (some g)) (hb : g < base) : w'.ownsRow base e 1 v n xs := by
  refine h.kept hg ?_
  rcases h.2 with ⟨rfl, _⟩ | ⟨g', cap, cur, rfl, h1, _⟩
  · exact .inl rfl
  · right
    intro e
    have : g' = g := by simpa [Value.ownBlock] using e
    omega

def ChO (w wr : World) (N g : Nat) (cv rv : Value) : Prop := ∃ (cs R : List Nat) (n cap : Nat), rv = .slice (some ⟨g, 0, none⟩) n cap ∧ n ≤ cap ∧ cap ≤ maxLen ∧ ChT N cs R n ∧ Row wr 73 .u64 g R ∧ R.length ≤ 16777216 ∧ wr.ownsRow (g + 1) 73 1 cv cs.length (cellsOf .u64 cs) ∧ cs.length ≤ 4162 ∧ g + 1 ≤ wr.heap.size ∧ Below w.heap.size w wr
set_option maxHeartbeats 2000000 in
set_option maxRecDepth 100000 in
theorem chunks_any (v : Value) (xs : List Nat) (w : World) (h : Sl w .u64 v xs) (hl : Lim B64 xs) (ht : Top xs) (hp : 0 < xs.length) (hN : val B64 xs < Big) :
    Calls Tryz.prog 119 #[v] w fun e w' => ∃ v' cs, e = .returned v' ∧ Sl w' .u64 v' cs ∧ Lim chk cs ∧ Top cs ∧ 0 < cs.length ∧ val chk cs = val B64 xs ∧ Below w.heap.size w w' := by
  have hlen := h.len
  have FR := fresh_any h
  rw [trimL_of_top ht] at FR
  have FRR := Lib.hid FR
  have HL := Lib.hid hl; have HT := Lib.hid ht; have HN := Lib.hid hN
  have HPOS := Lib.hid (pos_of_top ht hp)
  clear FR h hl ht hN
  go_enter Tryz.func119, Tryz.ntmps119
  go_wp2_with fail
  refine FRR.out.mono ?_
  rintro e w1 ⟨v1, rfl, hb1, _, hcase⟩
  rcases hcase with ⟨_, h0⟩ | ⟨rfl, hrow⟩
  · rw [h0] at hp; simp at hp
  · have HB1 := Lib.hid hb1; have HROW := Lib.hid hrow
    have hg := hrow.lt
    clear hb1 hrow
    obtain ⟨g, hg2⟩ : ∃ g, g = w.heap.size := ⟨_, rfl⟩
    rw [← hg2] at HROW hg ⊢
    have HG2 := Lib.hid hg2
    clear hg2
    go_wp2
    go_loopw [3, 4] (fun cv rv wr => ChO w wr (val B64 xs) g cv rv) (fun cv _ _ => 4163 - lenOf cv)
    case atStart =>
      exact ⟨[], xs, xs.length, xs.length, rfl, Nat.le_refl _, maxLen_24 (by omega), ⟨lim_nil (by unfold chk; omega), HL.out, Nat.le_refl _, by rw [List.take_length]; exact HT.out, by rw [List.take_length]; simp [val], fun h0 => by rw [List.take_length] at h0; have := HPOS.out; omega⟩, HROW.out, hlen, World.ownsRow_nil _ _ _ _, by simp, hg, HB1.out⟩
    case round =>
      obtain ⟨cs, R, n, cap, rfl, hnc, hcm, hT, hrow, hRl, hown, hcl, hgs, hbel⟩ := hrel
      have HTT := Lib.hid hT; have HROW2 := Lib.hid hrow; have HO := Lib.hid hown; have HBEL := Lib.hid hbel; have HRL := Lib.hid hRl
      have hcm' := hcm
      unfold maxLen at hcm
      by_cases hn : 0 < n
      · have hfew : cs.length < 4162 := chT_few hT hn HN.out
        have DB := Lib.hid (divideByLimb_any g n cap chk R wr hrow hT.rlim hT.len hnc hcm' (by unfold chk; omega) chk_lt (by omega))
        have hcv : Value.int .u64 10000000000000000000 = Value.int .u64 ((chk : Nat) : Int) := rfl
        have HLEN := Lib.hid (own_len hown)
        have hnR : n ≤ 16777216 := by have := hT.len; omega
        clear hT hrow hown hbel hRl hcm'
        go_wp2_with fail
        refine DB.out.mono ?_
        rintro e w3 ⟨r, R', rfl, hr3, hg3, hD⟩
        have STEP := Lib.hid (chT_step HTT.out hn hD)
        have hR'l : R'.length = R.length := hD.len
        have HR3 := Lib.hid hr3
        have HO3 := Lib.hid (own_kept HO.out hg3 (by omega))
        have hs3 := hg3.size
        have HB3 := Lib.hid (below_of_grown HBEL.out hg3 (by have := HG2.out; omega) HBEL.out.size)
        have hsl : Sl w3 .u64 (.slice (some ⟨g, 0, none⟩) n cap) (R'.take n) := by
          have := hr3.sl (off := 0) (n := n) (cap := cap) (by have := HTT.out.len; omega) hnc (by unfold maxLen; exact hcm) hnR
          rwa [List.drop_zero] at this
        have HSL := Lib.hid hsl
        have htl := tlen_le (R'.take n)
        rw [List.length_take] at htl
        have HTL := Lib.hid htl; have HRL' := Lib.hid hR'l
        clear hr3 hg3 hD hR'l hsl htl
        go_wp2_with (refine append_chunk (o := ⟨some 16, _, _, _, _, _⟩) rfl _ _ rfl (g + 1) _ cs r ⟨w3.heap.size, 0, none⟩ rfl rfl (HO3.out.alloc _) (World.cell?_alloc_new _ _ _ _) (by omega) (by simp; omega) ?_; intro v' w4 hown4 hg4)
        have HO4 := Lib.hid hown4
        have hrow4 := (HR3.out.below ((Below.refl _ _).alloc (Nat.le_refl _) _)).grown hg4 (fun e => absurd (HO3.out.lt g e.symm).1 (by omega))
        have HB4 := Lib.hid (below_own (HB3.out.alloc HB3.out.size _) (own_base (HO3.out.alloc _) (show w.heap.size ≤ g + 1 by have := HG2.out; omega)) hg4 (by have := HB3.out.size; simp; omega))
        have hs4 := hg4.size
        have hsz4 : w3.heap.size + 1 ≤ w4.heap.size := by simpa using hs4
        have hsl : Sl w4 .u64 (.slice (some ⟨g, 0, none⟩) n cap) (R'.take n) := by
          have := hrow4.sl (off := 0) (n := n) (cap := cap) (by have := HTT.out.len; have := HRL'.out; omega) hnc (by unfold maxLen; exact hcm) hnR
          rwa [List.drop_zero] at this
        have TR := Lib.hid (trim_eq' hsl)
        have HROW4 := Lib.hid hrow4
        clear hown4 hg4 hrow4 hsl hs4
        generalize tlen (R'.take n) = m at *
        go_wp2_with fail
        refine TR.out.mono ?_
        rintro e w5 ⟨rfl, rfl⟩
        go_wp2
        go_roundw
        case rel => exact ⟨_, R', m, cap, rfl, by have := HTL.out; omega, by unfold maxLen; exact hcm, STEP.out, HROW4.out, by have := HRL.out; have := HRL'.out; omega, HO4.out, by rw [List.length_append, List.length_singleton]; omega, by omega, HB4.out⟩
        case measure =>
          have h1 := HLEN.out
          have h2 := own_len HO4.out
          rw [List.length_append, List.length_singleton] at h2
          rw [h1]
          have h3 : ∀ v : Value, lenOf v = cs.length + 1 → 4163 - lenOf v < 4163 - cs.length := fun v h => by rw [h]; omega
          exact h3 _ h2
      · obtain rfl : n = 0 := by omega
        have hsl := sl_own hown (by omega)
        have he := hT.eq
        have hct := hT.ctop (by simp [val])
        rw [List.take_zero] at he
        simp only [val, Nat.mul_zero, Nat.add_zero] at he
        have HSL := Lib.hid hsl; have HE := Lib.hid he.symm; have HCT := Lib.hid hct
        have HCP : Hid (0 < cs.length) := Lib.hid (by
          rcases Nat.eq_zero_or_pos cs.length with h0 | h0
          · rw [List.eq_nil_of_length_eq_zero h0] at he
            have := HPOS.out
            simp [val] at he
            omega
          · exact h0)
        clear hT hrow hown hbel hRl hcm' hsl he hct
        go_wp2
        go_ret
        exact ⟨_, cs, rfl, HSL.out, HTT.out.lim, HCT.out, HCP.out, HE.out, HBEL.out⟩
end Go.Proofs.YthgmebnihpjnoaaGreatDoor

/- nat.Text at every base. -/
namespace Go.Proofs.YthgmebnihpjnoaaGreatDoor
open Go.RowKit Mth

/-- what Text answers -/
def txE (b : Int) (n : Nat) : Int := if b = 2 ∨ b = 10 ∨ b = 16 then (if Big ≤ n then 5 else 0) else 12
def txS (b : Int) (n : Nat) : List Nat := if b = 2 ∨ b = 10 ∨ b = 16 then (if Big ≤ n then [] else numeral b.toNat n) else []
theorem tx_long {b : Int} {n : Nat} (h : b = 2 ∨ b = 10 ∨ b = 16) (hn : Big ≤ n) : txS b n = [] ∧ txE b n = 5 := by
  unfold txS txE; rw [if_pos h, if_pos h, if_pos hn, if_pos hn]; exact ⟨rfl, rfl⟩
theorem tx_fine {b : Int} {n : Nat} (h : b = 2 ∨ b = 10 ∨ b = 16) (hn : ¬ Big ≤ n) : txS b n = numeral b.toNat n ∧ txE b n = 0 := by
  unfold txS txE; rw [if_pos h, if_pos h, if_neg hn, if_neg hn]; exact ⟨rfl, rfl⟩
theorem fmts10 : Fmts (numeral 10) chk TZ10 10 := fun n w hn hz => fmt10 n (Nat.lt_trans hn chk_lt) w hz

set_option maxHeartbeats 2000000 in
set_option maxRecDepth 100000 in
theorem text10 (v : Value) (xs : List Nat) (w : World) (hs : Sl w .u64 v xs) (hl : Lim B64 xs) (hz : TZ10 w) :
    Calls Tryz.prog 82 #[v, .int .i64 10] w fun e w' => e = .returned (.tuple #[.string ⟨(toBytes (txS 10 (val B64 xs))).toArray⟩, .int .i64 (txE 10 (val B64 xs))]) ∧ Below w.heap.size w w' := by
  have T := Lib.hid (trim_any hs)
  have G := Lib.hid (long_iff hl)
  have e1 : val B64 (trimL xs) = val B64 xs := val_trimL _ _
  have k1 := lim_trimL hl; have p1 := top_trimL xs
  rw [← e1] at G ⊢
  have HZ := Lib.hid hz
  clear hs hl e1 hz
  generalize trimL xs = ts at *
  have K1 := Lib.hid k1; have P1 := Lib.hid p1
  clear k1 p1
  by_cases hlong : 4096 < ts.length
  · have hd : decide (4096 < ts.length) = true := decide_eq_true hlong
    have E := Lib.hid (tx_long (b := 10) (by omega) (G.out.1 hlong))
    clear hlong
    go_enter Tryz.func82, Tryz.ntmps82
    go_wp2_with fail
    refine T.out.mono ?_
    rintro e w' ⟨v', rfl, hs', rfl⟩
    have HS' := Lib.hid hs'; clear hs'
    go_wp2_with (first | (go_at_call 111; refine (tooLong_any HS'.out).mono ?_; rintro e w' ⟨rfl, rfl⟩) | (go_at_call 108; go_in))
    go_ret2
    exact ⟨by rw [E.out.1, E.out.2]; rfl, Below.refl _ _⟩
  · have hd : decide (4096 < ts.length) = false := decide_eq_false hlong
    have NB : ¬ Big ≤ val B64 ts := fun h => hlong (G.out.2 h)
    have E := Lib.hid (tx_fine (b := 10) (by omega) NB)
    have hNB := Lib.hid (Nat.lt_of_not_le NB)
    clear hlong NB
    by_cases h0 : ts.length = 0
    · have hd0 := len_eq h0
      have E0 : Hid (numeral (10 : Int).toNat (val B64 ts) = [48]) := Lib.hid (by rw [List.eq_nil_of_length_eq_zero h0]; exact numeral_low (by decide))
      clear h0
      go_enter Tryz.func82, Tryz.ntmps82
      go_wp2_with fail
      refine T.out.mono ?_
      rintro e w' ⟨v', rfl, hs', rfl⟩
      obtain ⟨a2, c2, rfl⟩ := hs'.shape
      have HS' := Lib.hid hs'; clear hs'
      go_wp2_with (first | (go_at_call 111; refine (tooLong_any HS'.out).mono ?_; rintro e w' ⟨rfl, rfl⟩) | (go_at_call 108; go_in))
      go_ret2
      exact ⟨by rw [E.out.1, E.out.2, E0.out]; rfl, Below.refl _ _⟩
    · have hd0 := len_ne h0
      have H0 : Hid (0 < ts.length) := Lib.hid (by omega)
      clear h0
      go_enter Tryz.func82, Tryz.ntmps82
      go_wp2_with fail
      refine T.out.mono ?_
      rintro e w' ⟨v', rfl, hs', rfl⟩
      obtain ⟨a2, c2, rfl⟩ := hs'.shape
      have CH := Lib.hid (chunks_any _ ts _ hs' K1.out P1.out H0.out hNB.out)
      have HS' := Lib.hid hs'; clear hs'
      go_wp2_with (first | (go_at_call 111; refine (tooLong_any HS'.out).mono ?_; rintro e w' ⟨rfl, rfl⟩) | (go_at_call 108; go_in))
      refine CH.out.mono ?_
      rintro e w1 ⟨cv, cs, rfl, hsl, hlim, htop, hpos, hval, hb1⟩
      have J := joined_any 10 19 chk (numeral 10) TZ10 (fun _ _ h hb => h.below hb) (fun n hn => numeral_len (by omega) (f := 19) (by rw [← chk_pow]; exact hn) (by omega)) (by omega) fmts10 cv cs w1 hsl hlim hpos (HZ.out.below hb1)
      have hj : jnd (numeral 10) 19 cs = numeral (10 : Int).toNat (val B64 ts) := by
        rw [← hval]
        exact jnd_numeral (b := 10) (w := 19) (by omega) (by omega) (fun _ _ => rfl) cs hlim htop hpos
      rw [hj] at J
      have JJ := Lib.hid J; have B1 := Lib.hid hb1
      clear hsl hlim htop hpos hval hb1 J hj
      go_wp2_with fail
      refine JJ.out.mono ?_
      rintro e w2 ⟨rfl, hb2⟩
      have B2 := Lib.hid (below_step B1.out hb2)
      clear hb2
      go_wp2
      go_ret2
      exact ⟨by rw [E.out.1, E.out.2]; rfl, B2.out⟩

end Go.Proofs.YthgmebnihpjnoaaGreatDoor
