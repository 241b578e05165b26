/- nat: Shl, Shr. -/
import Derived.Test.YtafeokkkbiaajabDoorShift
namespace Go.Proofs.YtafeokkkbiaajabDoor
open Go.RowKit Mth

/-- what Shl answers -/
def shlN (a : Nat) (n : Int) : Nat := if n < 0 then 0 else if Big ≤ a then 0 else cutN (a * 2 ^ n.toNat)
def shlE (a : Nat) (n : Int) : Int := if n < 0 then 1 else if Big ≤ a then 5 else cutE (a * 2 ^ n.toNat)
theorem shl_neg {a : Nat} {n : Int} (h : n < 0) : shlN a n = 0 ∧ shlE a n = 1 := ⟨if_pos h, if_pos h⟩
theorem shl_long {a : Nat} {n : Int} (h : ¬ n < 0) (h2 : Big ≤ a) : shlN a n = 0 ∧ shlE a n = 5 := by
  unfold shlN shlE; rw [if_neg h, if_neg h, if_pos h2, if_pos h2]; exact ⟨rfl, rfl⟩
theorem shl_fine {a : Nat} {n : Nat} (h2 : ¬ Big ≤ a) : shlN a (n : Int) = cutN (a * 2 ^ n) ∧ shlE a (n : Int) = cutE (a * 2 ^ n) := by
  have h : ¬ ((n : Int) < 0) := by omega
  unfold shlN shlE; rw [if_neg h, if_neg h, if_neg h2, if_neg h2, Int.toNat_natCast]; exact ⟨rfl, rfl⟩
theorem shl_zero {n : Nat} : shlN 0 (n : Int) = 0 ∧ shlE 0 (n : Int) = 0 := by
  have h := shl_fine (a := 0) (n := n) (by have := one_lt_big; omega)
  rw [Nat.zero_mul, cut_zero.1, cut_zero.2] at h; exact h
theorem big_pow : Big = 2 ^ (64 * maxL) := by
  unfold Big
  have : B64 = 2 ^ 64 := rfl
  rw [this, ← Nat.pow_mul]
theorem max_bits : 262144 = 64 * maxL := by unfold maxL; rfl
/-- long after a shift, by the numbers of digits -/
theorem shl_big {a n : Nat} (h : a ≠ 0) : Big ≤ a * 2 ^ n ↔ 262144 < n + bl a := by
  obtain ⟨m, hm, h1, h2⟩ := bl_spec h
  rw [hm, big_pow, max_bits]
  generalize 64 * maxL = N
  constructor
  · intro h3
    have h4 : a * 2 ^ n < 2 ^ (m + 1) * 2 ^ n := Nat.mul_lt_mul_of_pos_right h2 (Nat.pow_pos (by omega))
    rw [← Nat.pow_add] at h4
    rcases Nat.lt_or_ge N (n + (m + 1)) with h5 | h5
    · exact h5
    · have : 2 ^ (m + 1 + n) ≤ 2 ^ N := Nat.pow_le_pow_right (by omega) (by omega)
      omega
  · intro h3
    have h4 : 2 ^ m * 2 ^ n ≤ a * 2 ^ n := Nat.mul_le_mul_right _ h1
    rw [← Nat.pow_add] at h4
    exact Nat.le_trans (Nat.pow_le_pow_right (by omega) (by omega)) h4

set_option maxHeartbeats 2000000 in
set_option maxRecDepth 100000 in
theorem shl_any (v : Value) (xs : List Nat) (n : Int) (w : World) (h : Sl w .u64 v xs) (hl : Lim B64 xs) (hn : -9223372036854775808 ≤ n ∧ n ≤ 9223372036854775807) :
    Calls Tryd.prog 7 #[v, .int .i64 n] w fun e w' => ∃ v', e = .returned (.tuple #[v', .int .i64 (shlE (val B64 xs) n)]) ∧ Num w' v' (shlN (val B64 xs) n) ∧ Below w.heap.size w w' := by
  obtain ⟨hn1, hn2⟩ := hn
  have T := Lib.hid (trim_any h)
  have G := Lib.hid (long_iff hl)
  have hv : val B64 (trimL xs) = val B64 xs := val_trimL _ _
  have k1 := lim_trimL hl; have p1 := top_trimL xs
  rw [← hv] at G ⊢
  clear h hl hv
  generalize trimL xs = ts at *
  have K := Lib.hid k1; have P := Lib.hid p1
  clear k1 p1
  go_enter Tryd.func7, Tryd.ntmps7
  go_wp2_with fail
  refine T.out.mono ?_
  rintro e w' ⟨va, rfl, s1, rfl⟩
  obtain ⟨a0, c0, rfl⟩ := s1.shape
  have hts := s1.len
  have S := Lib.hid s1
  clear s1
  by_cases hneg : n < 0
  · have E := Lib.hid (shl_neg (a := val B64 ts) hneg)
    go_wp2
    go_ret2
    exact ⟨_, by rw [E.out.2]; rfl, by rw [E.out.1]; exact num_nil _, Below.refl _ _⟩
  · obtain ⟨n, rfl⟩ : ∃ m : Nat, n = (m : Int) := ⟨n.toNat, by omega⟩
    clear hneg hn1
    have hnn : n ≤ 9223372036854775807 := by omega
    by_cases g1 : 4096 < ts.length
    · have hd : decide (4096 < ts.length) = true := decide_eq_true g1
      have E := Lib.hid (shl_long (a := val B64 ts) (n := n) (by omega) (G.out.1 g1))
      clear g1
      go_wp2_with fail
      refine (tooLong_any S.out).mono ?_
      rintro e w' ⟨rfl, rfl⟩
      go_wp2
      go_ret2
      exact ⟨_, by rw [E.out.2]; rfl, by rw [E.out.1]; exact num_nil _, Below.refl _ _⟩
    · have hd : decide (4096 < ts.length) = false := decide_eq_false g1
      have NB : Hid (¬ Big ≤ val B64 ts) := Lib.hid (fun h => g1 (G.out.2 h))
      have E := Lib.hid (shl_fine (n := n) NB.out)
      have g2 : ts.length ≤ 4096 := by omega
      clear g1
      go_wp2_with fail
      refine (tooLong_any S.out).mono ?_
      rintro e w' ⟨rfl, rfl⟩
      by_cases h0 : ts.length = 0
      · have hnil : ts = [] := List.eq_nil_of_length_eq_zero h0
        have hz : val B64 ts = 0 := by rw [hnil]; rfl
        have E0 : Hid (shlN (val B64 ts) (n : Int) = 0 ∧ shlE (val B64 ts) (n : Int) = 0) := Lib.hid (by rw [hz]; exact shl_zero)
        clear hz hnil
        go_wp2
        go_ret2
        exact ⟨_, by rw [E0.out.2]; rfl, by rw [E0.out.1]; exact num_nil _, Below.refl _ _⟩
      · have hpos : 0 < val B64 ts := pos_of_top P.out (by omega)
        have SB := Lib.hid (shl_big (a := val B64 ts) (n := n) (by omega))
        have LN := Lib.hid (len_any _ ts w S.out K.out)
        have hbl : bl (val B64 ts) ≤ 262144 := bl_le (by rw [max_bits, ← big_pow]; exact Nat.lt_of_not_le NB.out)
        have hd0 : ((ts.length : Int) == 0) = false := len_ne h0
        clear hpos
        generalize hbb : bl (val B64 ts) = bb at *
        clear hbb
        by_cases hbig : 262144 < n + bb
        · have E2 := Lib.hid (cut_big (SB.out.2 hbig))
          go_wp2_with fail
          refine LN.out.mono ?_
          rintro e w1 ⟨rfl, hb1⟩
          have B1 := Lib.hid hb1; clear hb1
          go_wp2
          go_ret2
          exact ⟨_, by rw [E.out.2, E2.out.2]; rfl, by rw [E.out.1, E2.out.1]; exact num_nil _, B1.out⟩
        · have E2 := Lib.hid (cut_small (Nat.lt_of_not_le fun h => hbig (SB.out.1 h)))
          obtain ⟨q, r, hqr, hr⟩ : ∃ q r, n = 64 * q + r ∧ r < 64 := ⟨n / 64, n % 64, by omega, by omega⟩
          have hdiv : (n : Int) / 64 = (q : Int) := by omega
          have hmod : (n : Int) % 64 = (r : Int) := by omega
          have hq : q ≤ 4096 := by omega
          have HQR := Lib.hid hqr
          have hn3 : n ≤ 262144 := by omega
          clear hqr
          go_wp2_with fail
          refine LN.out.mono ?_
          rintro e w1 ⟨rfl, hb1⟩
          have B1 := Lib.hid hb1; clear hb1
          obtain ⟨L, hL⟩ : ∃ L, L = q + ts.length + 1 := ⟨_, rfl⟩
          have HL := Lib.hid hL; have hLl : L ≤ 16777216 := by omega
          have hqL : q < L := by omega
          have HLQ : Hid (L - q = ts.length + 1) := Lib.hid (by omega)
          clear hL
          go_wp2_with (at_make; refine make_nat rfl _ _ rfl _ _ L rfl rfl (by have := HL.out; omega) (by have := HL.out; omega) (by omega) ?_; intro w2 hrow hb2)
          have HROW := Lib.hid hrow; have B2 := Lib.hid (below_step B1.out hb2)
          have S2 := Lib.hid (S.out.below B2.out)
          clear hrow hb2
          have hne : inBlock (.slice a0 ts.length c0) ≠ some w1.heap.size ∨ ts = [] := by
            left
            obtain ⟨b9, o9, c9, e9, _, _, hb9, _⟩ := S.out.pos (by omega)
            simp only [Value.slice.injEq] at e9
            obtain ⟨rfl, _, _⟩ := e9
            have := B1.out.size
            simp [inBlock]; omega
          have UP := Lib.hid (shiftUp_any w1.heap.size q (ts.length + 1) r (64 - r) (List.replicate L 0) ts _ w2 HROW.out (fun j => by rw [getD_replicate]; have := B64_pos; omega) S2.out K.out hne (by rw [List.length_replicate]; have := HL.out; omega) (Nat.le_refl _) (maxLen_24 (by omega)) (by omega) (by omega) (by rw [List.length_replicate]; omega))
          clear hne
          go_wp2_with fail
          rw [HLQ.out]
          refine UP.out.mono ?_
          rintro e w3 ⟨rfl, R', hr3, hg3, hu3⟩
          have hRl : R'.length = L := by rw [hu3.len, List.length_replicate]
          have hsl := hr3.sl_all (by rw [hRl]; exact hLl)
          rw [hRl] at hsl
          have HS3 := Lib.hid hsl; have HG3 := Lib.hid hg3; have HLM := Lib.hid hu3.lim
          have HV : Hid (val B64 R' = val B64 ts * 2 ^ n) := Lib.hid (by
            have h9 := hu3
            rw [HL.out] at h9
            rw [upAll_val h9, HQR.out, Nat.mul_comm])
          have B3 := Lib.hid (below_of_grown B2.out hg3 B1.out.size B2.out.size)
          clear hr3 hg3 hu3 hsl hRl
          go_wp2_with fail
          refine (settle_any HS3.out).mono ?_
          rintro e w4 ⟨v4, rfl, hs4, rfl⟩
          have HN := Lib.hid (num_settle hs4 HLM.out HV.out)
          clear hs4
          go_wp2
          go_ret2
          exact ⟨_, by rw [E.out.2, E2.out.2]; rfl, by rw [E.out.1, E2.out.1]; exact HN.out, B3.out⟩

/-- what Shr answers -/
def shrN (a : Nat) (n : Int) : Nat := if n < 0 then 0 else if Big ≤ a then 0 else a / 2 ^ n.toNat
def shrE (a : Nat) (n : Int) : Int := if n < 0 then 1 else if Big ≤ a then 5 else 0
theorem shr_neg {a : Nat} {n : Int} (h : n < 0) : shrN a n = 0 ∧ shrE a n = 1 := ⟨if_pos h, if_pos h⟩
theorem shr_long {a : Nat} {n : Int} (h : ¬ n < 0) (h2 : Big ≤ a) : shrN a n = 0 ∧ shrE a n = 5 := by
  unfold shrN shrE; rw [if_neg h, if_neg h, if_pos h2, if_pos h2]; exact ⟨rfl, rfl⟩
theorem shr_fine {a : Nat} {n : Nat} (h2 : ¬ Big ≤ a) : shrN a (n : Int) = a / 2 ^ n ∧ shrE a (n : Int) = 0 := by
  have h : ¬ ((n : Int) < 0) := by omega
  unfold shrN shrE; rw [if_neg h, if_neg h, if_neg h2, if_neg h2, Int.toNat_natCast]; exact ⟨rfl, rfl⟩
theorem val_drop_div {B : Nat} {xs : List Nat} (hB : 0 < B) (h : Lim B xs) {q : Nat} (hq : q ≤ xs.length) : val B (xs.drop q) = val B xs / B ^ q := by
  rw [val_split B xs q hq, Nat.add_mul_div_left _ _ (Nat.pow_pos hB), Nat.div_eq_of_lt (val_take_lt hB h q hq)]
  omega
theorem val_shr {s : Nat} {xs : List Nat} (h : Lim (2 ^ s) xs) {q r n : Nat} (hq : q ≤ xs.length) (hn : n = s * q + r) : val (2 ^ s) (xs.drop q) / 2 ^ r = val (2 ^ s) xs / 2 ^ n := by
  rw [val_drop_div (Nat.pow_pos (by omega)) h hq, Nat.div_div_eq_div_mul, hn, Nat.pow_add, Nat.pow_mul]
theorem shr_far {B : Nat} {xs : List Nat} (h : Lim B xs) {n : Nat} (hn : B ^ xs.length ≤ 2 ^ n) : val B xs / 2 ^ n = 0 := Nat.div_eq_of_lt (Nat.lt_of_lt_of_le (val_lt h) hn)

set_option maxHeartbeats 2000000 in
set_option maxRecDepth 100000 in
theorem shr_any (v : Value) (xs : List Nat) (n : Int) (w : World) (h : Sl w .u64 v xs) (hl : Lim B64 xs) (hn : -9223372036854775808 ≤ n ∧ n ≤ 9223372036854775807) :
    Calls Tryd.prog 8 #[v, .int .i64 n] w fun e w' => ∃ v', e = .returned (.tuple #[v', .int .i64 (shrE (val B64 xs) n)]) ∧ Num w' v' (shrN (val B64 xs) n) ∧ Below w.heap.size w w' := by
  obtain ⟨hn1, hn2⟩ := hn
  have T := Lib.hid (trim_any h)
  have G := Lib.hid (long_iff hl)
  have hv : val B64 (trimL xs) = val B64 xs := val_trimL _ _
  have k1 := lim_trimL hl
  rw [← hv] at G ⊢
  clear h hl hv
  generalize trimL xs = ts at *
  have K := Lib.hid k1
  clear k1
  go_enter Tryd.func8, Tryd.ntmps8
  go_wp2_with fail
  refine T.out.mono ?_
  rintro e w' ⟨va, rfl, s1, rfl⟩
  obtain ⟨a0, c0, rfl⟩ := s1.shape
  have hts := s1.len
  have S := Lib.hid s1
  clear s1
  by_cases hneg : n < 0
  · have E := Lib.hid (shr_neg (a := val B64 ts) hneg)
    go_wp2
    go_ret2
    exact ⟨_, by rw [E.out.2]; rfl, by rw [E.out.1]; exact num_nil _, Below.refl _ _⟩
  · obtain ⟨n, rfl⟩ : ∃ m : Nat, n = (m : Int) := ⟨n.toNat, by omega⟩
    clear hneg hn1
    have hnn : n ≤ 9223372036854775807 := by omega
    by_cases g1 : 4096 < ts.length
    · have hd : decide (4096 < ts.length) = true := decide_eq_true g1
      have E := Lib.hid (shr_long (a := val B64 ts) (n := n) (by omega) (G.out.1 g1))
      clear g1
      go_wp2_with fail
      refine (tooLong_any S.out).mono ?_
      rintro e w' ⟨rfl, rfl⟩
      go_wp2
      go_ret2
      exact ⟨_, by rw [E.out.2]; rfl, by rw [E.out.1]; exact num_nil _, Below.refl _ _⟩
    · have hd : decide (4096 < ts.length) = false := decide_eq_false g1
      have NB : Hid (¬ Big ≤ val B64 ts) := Lib.hid (fun h => g1 (G.out.2 h))
      have E := Lib.hid (shr_fine (n := n) NB.out)
      have g2 : ts.length ≤ 4096 := by omega
      obtain ⟨q, r, hqr, hr⟩ : ∃ q r, n = 64 * q + r ∧ r < 64 := ⟨n / 64, n % 64, by omega, by omega⟩
      have hdiv : (n : Int) / 64 = (q : Int) := by omega
      have hmod : (n : Int) % 64 = (r : Int) := by omega
      have HQR := Lib.hid hqr
      clear g1
      by_cases hfar : ts.length ≤ q
      · have E2 : Hid (val B64 ts / 2 ^ n = 0) := Lib.hid (shr_far K.out (by
          have : B64 = 2 ^ 64 := rfl
          rw [this, ← Nat.pow_mul]
          exact Nat.pow_le_pow_right (by omega) (by omega)))
        clear hqr
        go_wp2_with fail
        refine (tooLong_any S.out).mono ?_
        rintro e w' ⟨rfl, rfl⟩
        go_wp2
        go_ret2
        exact ⟨_, by rw [E.out.2]; rfl, by rw [E.out.1, E2.out]; exact num_nil _, Below.refl _ _⟩
      · obtain ⟨b, off, cap, e9, hc1, hc2, hb, hcell⟩ := S.out.pos (by omega)
        simp only [Value.slice.injEq, true_and] at e9
        obtain ⟨rfl, rfl⟩ := e9
        have hqt : q < ts.length := by omega
        have hq : q ≤ 4096 := by omega
        have hsd : Sl w .u64 (.slice (some ⟨b, off + q, none⟩) (ts.length - q) (c0 - q)) (ts.drop q) := by
          have hld : (ts.drop q).length = ts.length - q := List.length_drop
          refine ⟨some ⟨b, off + q, none⟩, c0 - q, by rw [hld], by omega, by omega, by omega, fun e => by simp at e, fun _ => ⟨b, off + q, rfl, hb, fun j hj => ?_⟩⟩
          rw [getD_drop, Nat.add_assoc]
          exact hcell (q + j) (by omega)
        have hlen : (ts.drop q).length = ts.length - q := List.length_drop
        have hkd := lim_drop K.out q
        have hvd : val B64 (ts.drop q) / 2 ^ r = val B64 ts / 2 ^ n := by
          have hB : B64 = 2 ^ 64 := rfl
          have hK := K.out
          rw [hB] at hK ⊢
          exact val_shr hK (by omega) hqr
        obtain ⟨L, hL⟩ : ∃ L, L = ts.length - q := ⟨_, rfl⟩
        rw [← hL] at hlen
        have hL0 : 0 < L := by omega
        have hL2 : L ≤ 4096 := by omega
        have HL := Lib.hid hL
        generalize ts.drop q = us at *
        have SD := Lib.hid hsd; have KD := Lib.hid hkd; have VD := Lib.hid hvd; have LEN := Lib.hid hlen
        unfold maxLen at hc2
        clear hsd hkd hvd hlen hqr hL hcell
        go_wp2_with fail
        refine (tooLong_any S.out).mono ?_
        rintro e w' ⟨rfl, rfl⟩
        go_wp2_with (at_make; refine make_nat rfl _ _ rfl _ _ L rfl rfl (by have := HL.out; omega) (by have := HL.out; omega) (by omega) ?_; intro w2 hrow hb2)
        have hne : inBlock (.slice (some ⟨b, off + q, none⟩) (ts.length - q) (c0 - q)) ≠ some w.heap.size := by
          simp [inBlock]; omega
        have DN := Lib.hid (shiftDown_any w.heap.size L r (64 - r) (List.replicate L 0) us _ w2 hrow (fun j => by rw [getD_replicate]; have := B64_pos; omega) (SD.out.below hb2) KD.out (.inl hne) (by rw [List.length_replicate, LEN.out]; omega) (by rw [LEN.out]; omega) (maxLen_24 (by omega)) (by omega) (by omega) (by rw [List.length_replicate]; omega))
        rw [LEN.out] at DN
        have B2 := Lib.hid hb2
        clear hrow hb2 hne
        go_wp2_with fail
        refine DN.out.mono ?_
        rintro e w3 ⟨rfl, R', c', hr3, hg3, hu3⟩
        have hRl : R'.length = L := by rw [hu3.len, List.length_replicate]
        have hsl := hr3.sl_all (by rw [hRl]; omega)
        rw [hRl] at hsl
        have HS3 := Lib.hid hsl; have HLM := Lib.hid hu3.lim
        have HV : Hid (val B64 R' = val B64 ts / 2 ^ n) := Lib.hid (by
          have h9 := dnT_end hu3
          rw [LEN.out, ← hRl, List.take_length] at h9
          rw [h9, VD.out])
        have B3 := Lib.hid (below_of_grown B2.out hg3 (Nat.le_refl _) B2.out.size)
        clear hr3 hg3 hu3 hsl hRl
        go_wp2_with fail
        refine (settle_any HS3.out).mono ?_
        rintro e w4 ⟨v4, rfl, hs4, rfl⟩
        have HN := Lib.hid (num_settle hs4 HLM.out HV.out)
        clear hs4
        go_wp2
        go_ret2
        exact ⟨_, by rw [E.out.2]; rfl, by rw [E.out.1]; exact HN.out, B3.out⟩
end Go.Proofs.YtafeokkkbiaajabDoor
