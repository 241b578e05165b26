/- nat: numbers of the call's own; divideLong. -/
import Derived.Test.YtafeokkkbiaajabDoorQuoB
import Derived.StillTailTactics
namespace Go.Proofs.YtafeokkkbiaajabDoor
open Go.RowKit Mth

/-- a slice value that is the number n, in a row of its own from the block base on -/
def Own (w : World) (base : Nat) (v : Value) (n : Nat) : Prop :=
  (v = .slice none 0 0 ∧ n = 0) ∨ ∃ g len cap R, v = .slice (some ⟨g, 0, none⟩) len cap ∧ Row w 36 .u64 g R ∧ base ≤ g ∧ len ≤ R.length ∧ len ≤ cap ∧ cap ≤ maxLen ∧ R.length ≤ 16777217 ∧ Lim B64 R ∧ Top (R.take len) ∧ len ≤ 16777216 ∧ val B64 (R.take len) = n
theorem Own.num {w : World} {base n : Nat} {v : Value} (h : Own w base v n) : Num w v n := by
  rcases h with ⟨rfl, rfl⟩ | ⟨g, len, cap, R, rfl, h1, h2, h3, h4, h5, h6, h7, h8, h9, rfl⟩
  · exact num_nil w
  · have := h1.sl (off := 0) (n := len) (cap := cap) (by omega) h4 h5 h9
    rw [List.drop_zero] at this
    exact ⟨_, this, lim_take (by have := B64_pos; omega) h7 _, h8, rfl⟩
theorem Own.below {w w' : World} {base n : Nat} {v : Value} (h : Own w base v n) (hb : Below w.heap.size w w') : Own w' base v n := by
  rcases h with h | ⟨g, len, cap, R, h0, h1, h2⟩
  · exact .inl h
  · exact .inr ⟨g, len, cap, R, h0, h1.below hb, h2⟩
theorem Own.mono {w : World} {base base' n : Nat} {v : Value} (h : Own w base v n) (hb : base' ≤ base) : Own w base' v n := by
  rcases h with h | ⟨g, len, cap, R, h0, h1, h2, h3⟩
  · exact .inl h
  · exact .inr ⟨g, len, cap, R, h0, h1, by omega, h3⟩
theorem Own.drawn {w : World} {base n : Nat} {v : Value} (h : Own w base v n) (k : Nat) : Own (w.drewN k) base v n := h

/-- what settle answers -/
def setV (ao : Option Addr) (cap : Nat) (xs : List Nat) : Value := if tlen xs = 0 then .slice none 0 0 else .slice ao (tlen xs) cap
theorem settle_is {ao : Option Addr} {n cap : Nat} {xs : List Nat} {w : World} (h : Sl w .u64 (.slice ao n cap) xs) :
    Calls Tryd.prog 22 #[.slice ao n cap] w fun e w' => e = .returned (setV ao cap xs) ∧ w' = w := by
  have T := Lib.hid (trim_eq' h)
  have hcap : cap ≤ maxLen := by obtain ⟨_, _, e, _, h2, _⟩ := h; simp only [Value.slice.injEq] at e; obtain ⟨_, _, rfl⟩ := e; exact h2
  have hlen : tlen xs ≤ 16777216 := Nat.le_trans (tlen_le xs) h.len
  unfold maxLen at hcap
  clear h
  unfold setV
  generalize tlen xs = m at *
  by_cases h0 : m = 0
  · have hd := len_eq h0
    go_enter Tryd.func22, Tryd.ntmps22
    go_wp2_with fail
    refine T.out.mono ?_
    rintro e w' ⟨rfl, rfl⟩
    go_wp2
    go_ret
    exact ⟨rfl, rfl⟩
  · have hd := len_ne h0
    go_enter Tryd.func22, Tryd.ntmps22
    go_wp2_with fail
    refine T.out.mono ?_
    rintro e w' ⟨rfl, rfl⟩
    go_wp2
    go_ret
    exact ⟨rfl, rfl⟩
theorem setV_own {w : World} {base g n cap : Nat} {R : List Nat} (h : Row w 36 .u64 g R) (hg : base ≤ g) (hn : n ≤ R.length) (hc : n ≤ cap) (hm : cap ≤ maxLen) (hR : R.length ≤ 16777217) (lR : Lim B64 R) (hn2 : n ≤ 16777216) :
    Own w base (setV (some ⟨g, 0, none⟩) cap (R.take n)) (val B64 (R.take n)) := by
  unfold setV
  have ht := tlen_le (R.take n)
  rw [List.length_take, Nat.min_eq_left hn] at ht
  have e : (R.take n).take (tlen (R.take n)) = R.take (tlen (R.take n)) := by rw [List.take_take, Nat.min_eq_left ht]
  have hv : val B64 (R.take (tlen (R.take n))) = val B64 (R.take n) := by
    have := val_trimL B64 (R.take n)
    unfold trimL at this
    rw [e] at this
    exact this
  have hT : Top (R.take (tlen (R.take n))) := by
    have := top_trimL (R.take n)
    unfold trimL at this
    rw [e] at this
    exact this
  by_cases h0 : tlen (R.take n) = 0
  · rw [if_pos h0]
    rw [h0] at hv
    exact .inl ⟨rfl, by rw [← hv]; rfl⟩
  · rw [if_neg h0]
    exact .inr ⟨g, _, cap, R, rfl, h, hg, by omega, by omega, hm, hR, lR, hT, by omega, hv⟩

theorem long_zero {R0 xs dl : List Nat} {p m s : Nat} (hL : R0.length = p + m + 3) (lR : Lim B64 R0) (lx : Lim B64 xs) (hx : xs.length = p + (m + 2)) (hv : val B64 R0 = 2 ^ s * val B64 xs) (hs : s ≤ 63) {D : Nat} (_hD : val B64 dl = D) (hn : 2 ^ 63 * B64 ^ (m + 1) ≤ D) :
    LongT R0 (List.replicate (p + 1) 0) (p + m + 3) (p + 1) (m + 2) (2 ^ s * val B64 xs) D (p + 1) := by
  refine ⟨hL, by simp, lR, fun j => by rw [getD_replicate]; have := B64_pos; omega, ?_, ?_⟩
  · rw [hv]
    have h1 := val_lt lx
    rw [hx] at h1
    have h2 : 2 ^ s ≤ 2 ^ 63 := Nat.pow_le_pow_right (by omega) hs
    have h3 : 2 ^ s * val B64 xs < 2 ^ 63 * B64 ^ (p + (m + 2)) := Nat.lt_of_le_of_lt (Nat.mul_le_mul_right _ h2) (Nat.mul_lt_mul_of_pos_left h1 (Nat.pow_pos (by omega)))
    have h4 : B64 ^ (p + 1) * (2 ^ 63 * B64 ^ (m + 1)) ≤ B64 ^ (p + 1) * D := Nat.mul_le_mul_left _ hn
    rw [Nat.mul_left_comm, ← Nat.pow_add, show p + 1 + (m + 1) = p + (m + 2) by omega] at h4
    omega
  · rw [hv, List.drop_of_length_le (by simp)]
    simp [val]
/-- what divideLong's loop holds -/
def LongQ (w wr : World) (gd gr gq L p m N D : Nat) (dl : List Nat) (i : Value) : Prop := ∃ (k : Nat) (R Q : List Nat), k ≤ p + 1 ∧ i = .int .i64 ((k : Int) - 1) ∧ LongT R Q L (p + 1) (m + 2) N D k ∧ Row wr 36 .u64 gr R ∧ Row wr 36 .u64 gq Q ∧ Row wr 36 .u64 gd dl ∧ Below gd w wr

set_option maxHeartbeats 4000000 in
set_option maxRecDepth 100000 in
theorem divideLong_any (va vb : Value) (xs ys : List Nat) (m p : Nat) (w : World) (ha : Sl w .u64 va xs) (hb : Sl w .u64 vb ys) (la : Lim B64 xs) (lb : Lim B64 ys) (tb : Top ys) (hyl : ys.length = m + 2) (hxl : xs.length = p + (m + 2)) (hal : xs.length ≤ 1000000) :
    Calls Tryd.prog 46 #[va, vb] w fun e w' => ∃ vq vr, e = .returned (.tuple #[vq, vr]) ∧ Own w' w.heap.size vq (val B64 xs / val B64 ys) ∧ Own w' w.heap.size vr (val B64 xs % val B64 ys) ∧ Below w.heap.size w w' := by
  -- the divisor's highest limb, and how far it is shifted
  have htop := tlen_top ys (by rw [tb]; omega)
  rw [tb, hyl, show m + 2 - 1 = m + 1 by omega] at htop
  obtain ⟨m', hbl, g1, g2⟩ := bl_spec htop
  have hm64 : m' + 1 ≤ 64 := by rw [← hbl]; exact bl_le (lb _)
  obtain ⟨s, hs⟩ : ∃ s, s + (m' + 1) = 64 := ⟨64 - (m' + 1), by omega⟩
  have NF := norm_facts lb (show ys.length = (m + 1) + 1 by omega) g1 g2 hs
  have LZ := Lib.hid (lz_any (ys.getD (m + 1) 0) (m' + 1) s (lb _) hbl hs)
  have hs63 : s ≤ 63 := by omega
  obtain ⟨ab, aoff, acap, rfl, ha1, ha2, hablt, hac⟩ := ha.pos (by omega)
  obtain ⟨bb, boff, bcap, rfl, hb1, hb2, hbblt, hbc⟩ := hb.pos (by omega)
  have hbtop := hbc (m + 1) (by omega)
  have HA := Lib.hid ha; have HB := Lib.hid hb; have LA := Lib.hid la; have LB := Lib.hid lb; have HS := Lib.hid hs; have HNF := Lib.hid NF
  have hm6 : m ≤ 1000000 := by omega
  have hp6 : p ≤ 1000000 := by omega
  unfold maxLen at ha2 hb2
  rw [hyl] at HB hb1 ⊢
  rw [hxl] at HA ha1 ⊢
  have HYL := Lib.hid hyl; have HXL := Lib.hid hxl
  clear ha hb la lb tb hac hbc htop hbl g1 g2 NF hyl hxl hs hal
  generalize ys.getD (m + 1) 0 = tb at *
  go_enter Tryd.func46, Tryd.ntmps46
  go_wp2_with fail
  refine (LZ.out _).mono ?_
  rintro e w' ⟨rfl, rfl⟩
  go_wp2_with (at_make; refine make_nat rfl _ _ rfl _ _ (m + 3) rfl rfl (by omega) (by omega) (by omega) ?_; intro w1 hrow hb1)
  have S0 := Lib.hid (shiftUp_any w.heap.size 0 (m + 3) s (m' + 1) (List.replicate (m + 3) 0) ys _ w1 hrow (fun j => by rw [getD_replicate]; have := B64_pos; omega) (HB.out.below hb1) LB.out (by simp [inBlock]; omega) (by rw [List.length_replicate, HYL.out]; omega) (by rw [HYL.out]; omega) (maxLen_24 (by omega)) HS.out hs63 (by rw [List.length_replicate]; omega))
  rw [HYL.out] at S0
  have B1 := Lib.hid hb1
  clear hrow hb1
  go_wp2_with fail
  refine S0.out.mono ?_
  rintro e w2 ⟨rfl, D', hrd, hgd, hud⟩
  -- the divisor
  have hDl : D'.length = m + 3 := by rw [hud.len, List.length_replicate]
  have hDv : val B64 (D'.take (m + 2)) = 2 ^ s * val B64 ys := by
    have h1 := hud.eq
    rw [HYL.out] at h1
    have h2 := seg_succ D' 0 (m + 2) (by omega)
    rw [h1] at h2
    have h3 := HNF.out.1
    rw [show m + 1 + 1 = m + 2 from rfl] at h3
    have h4 : D'.getD (0 + (m + 2)) 0 = 0 := by
      rcases Nat.eq_zero_or_pos (D'.getD (0 + (m + 2)) 0) with h0 | h0
      · exact h0
      · have : B64 ^ (m + 2) * 1 ≤ B64 ^ (m + 2) * D'.getD (0 + (m + 2)) 0 := Nat.mul_le_mul_left _ h0
        omega
    rw [h4, Nat.mul_zero, Nat.add_zero] at h2
    rw [h2]
    simp [seg]
  have hDn := norm_top hud.lim (n := m + 1) (by omega) hDv HNF.out.2
  have hDs : Sl w2 .u64 (.slice (some ⟨w.heap.size, 0, none⟩) (m + 2) (m + 3)) (D'.take (m + 2)) := by
    have := hrd.sl (off := 0) (n := m + 2) (cap := m + 3) (by omega) (by omega) (maxLen_24 (by omega)) (by omega)
    rwa [List.drop_zero] at this
  have B2 := Lib.hid (below_of_grown B1.out hgd (Nat.le_refl _) B1.out.size)
  have HDS := Lib.hid hDs; have HDN := Lib.hid hDn; have HDV := Lib.hid hDv; have HDL := Lib.hid hDl; have LD := Lib.hid hud.lim
  have HRD := Lib.hid hrd
  clear hrd hgd hud hDl hDv hDn hDs
  have hszd : w.heap.size < w2.heap.size := HRD.out.lt
  go_wp2_with (at_make; refine make_nat rfl _ _ rfl _ _ (p + m + 3) rfl rfl (by omega) (by omega) (by omega) ?_; intro w3 hrow hb3)
  have S1 := Lib.hid (shiftUp_any w2.heap.size 0 (p + m + 3) s (m' + 1) (List.replicate (p + m + 3) 0) xs _ w3 hrow (fun j => by rw [getD_replicate]; have := B64_pos; omega) (HA.out.below (below_step B2.out hb3)) LA.out (by simp [inBlock]; omega) (by rw [List.length_replicate, HXL.out]; omega) (by rw [HXL.out]; omega) (maxLen_24 (by omega)) HS.out hs63 (by rw [List.length_replicate]; omega))
  rw [HXL.out] at S1
  have B3 := Lib.hid (below_step B2.out hb3)
  have HRD3 := Lib.hid (HRD.out.below hb3)
  clear hrow hb3
  go_wp2_with fail
  refine S1.out.mono ?_
  rintro e w4 ⟨rfl, R0, hrr, hgr, hur⟩
  have hRl : R0.length = p + m + 3 := by rw [hur.len, List.length_replicate]
  have hRv : val B64 R0 = 2 ^ s * val B64 xs := by
    have h1 := hur
    rw [show p + m + 3 = 0 + xs.length + 1 by rw [HXL.out]; omega] at h1
    have := upAll_val h1
    rwa [Nat.mul_zero, Nat.zero_add] at this
  have ZZ := Lib.hid (long_zero hRl hur.lim LA.out HXL.out hRv hs63 HDV.out HNF.out.2)
  have B4 := Lib.hid (below_of_grown B3.out hgr B2.out.size B3.out.size)
  have HRR := Lib.hid hrr
  have HRD4 := Lib.hid (HRD3.out.grown hgr (by simp; omega))
  clear hrr hgr hur hRl hRv
  have hszr : w2.heap.size < w4.heap.size := HRR.out.lt
  go_wp2_with (at_make; refine make_nat rfl _ _ rfl _ _ (p + 1) rfl rfl (by omega) (by omega) (by omega) ?_; intro w5 hrow hb5)
  have HRQ := Lib.hid hrow; have B5 := Lib.hid (below_step B4.out hb5)
  have HRD5 := Lib.hid (HRD4.out.below hb5); have HRR5 := Lib.hid (HRR.out.below hb5)
  clear hrow hb5
  have hszw := B2.out.size
  have hszw4 := B4.out.size
  generalize hgd : w.heap.size = gd at *
  generalize hgr : w2.heap.size = gr at *
  generalize hgq : w4.heap.size = gq at *
  have HGD := Lib.hid hgd; have HGR := Lib.hid hgr; have HGQ := Lib.hid hgq
  clear hgd hgr hgq
  go_loopw [11] (fun i wr => LongQ w wr gd gr gq (p + m + 3) p m (2 ^ s * val B64 xs) (2 ^ s * val B64 ys) D' i) (fun i _ => (intOf i + 1).toNat)
  case atStart => exact ⟨p + 1, _, _, Nat.le_refl _, by congr 1; omega, ZZ.out, HRR5.out, HRQ.out, HRD5.out, B5.out⟩
  case round =>
    obtain ⟨k0, R, Q, hk, rfl, hT, hrow, hroq, hrod, hbel⟩ := hrel
    have HT := Lib.hid hT; have HROW := Lib.hid hrow; have HROQ := Lib.hid hroq; have HROD := Lib.hid hrod; have HBEL := Lib.hid hbel
    by_cases hlt : 0 < k0
    · obtain ⟨k, rfl⟩ : ∃ k, k0 = k + 1 := ⟨k0 - 1, by omega⟩
      have he : ((k + 1 : Nat) : Int) - 1 = (k : Int) := by omega
      rw [he]
      have hD0 : 0 < 2 ^ s * val B64 ys := by have h1 := hT.lt; rcases Nat.eq_zero_or_pos (2 ^ s * val B64 ys) with h0 | h0; (rw [h0] at h1; omega); exact h0
      have hDle : 2 ^ s * val B64 ys ≤ B64 ^ (m + 2) := Nat.le_of_lt HNF.out.1
      have hP := long_part hT hDle (by omega)
      have hln : (D'.take (m + 2)).length = m + 2 := by rw [List.length_take, HDL.out]; omega
      have TQ := takeQuotient_any gr k (p + m + 3 - k) gd m (m + 3) R (D'.take (m + 2)) wr hrow hT.lim (by
          have := hrod.sl (off := 0) (n := m + 2) (cap := m + 3) (by rw [HDL.out]; omega) (by omega) (maxLen_24 (by omega)) (by omega)
          rwa [List.drop_zero] at this) (lim_take (by have := B64_pos; omega) LD.out _) hln (by omega) (by rw [getD_take, if_pos (by omega)]; exact HDN.out) (by rw [hT.len]; omega) (by omega) (maxLen_24 (by omega)) (by rw [HDV.out]; exact hP.2.2) (by rw [hT.len]; omega)
      have ST := Lib.hid (fun R' h => long_step (R' := R') hT hD0 hDle (by omega) (by omega) h)
      rw [HDV.out] at TQ
      have hzz : seg R k (m + 2 + 1) = seg R k (m + 3) := rfl
      rw [hzz] at ST
      obtain ⟨z, hz⟩ : ∃ z, z = seg R k (m + 3) / (2 ^ s * val B64 ys) := ⟨_, rfl⟩
      rw [← hz] at TQ ST
      have TQQ := Lib.hid TQ
      have hql := hT.qlen
      have HQL := Lib.hid hql
      have hkp : k ≤ p := by omega
      clear hT hrow hroq hrod hbel hP hln TQ hz hzz hD0 hDle hql
      go_wp2_with fail
      rw [show k + (m + 2) + 1 - k = m + 3 by omega]
      refine TQQ.out.mono ?_
      rintro e w6 ⟨R', rfl, hr6, hg6, hd6⟩
      have hq6 := HROQ.out.grown hg6 (by simp; omega)
      have hcq : w6.cell? ⟨gq, k, none⟩ = some (.int .u64 ((Q.getD k 0 : Nat) : Int)) := hq6.cell (by rw [HQL.out]; omega)
      have hfq : w6.frozen? ⟨gq, k, none⟩ = false := hq6.free _
      have HR6 := Lib.hid hr6; have HG6 := Lib.hid hg6; have HQ6 := Lib.hid hq6; have HN6 := Lib.hid (ST.out _ hd6)
      have HD6 := Lib.hid (HROD.out.grown hg6 (by simp; omega))
      generalize Q.getD k 0 = qo at hcq
      clear hr6 hg6 hd6 hq6
      go_wp2
      go_roundw
      case rel =>
        have hset := HQ6.out.set k z
        have hb6 := below_of_grown HBEL.out HG6.out (by omega) (by have := HBEL.out.size; have := HGD.out; omega)
        exact ⟨k, R', _, by omega, by go_num, HN6.out, HR6.out.grown hset.2 (by simp; omega), hset.1, HD6.out.grown hset.2 (by simp; omega), below_of_grown hb6 hset.2 (by omega) (by have := hb6.size; have := HGD.out; omega)⟩
      case measure => simp [intOf]
    · obtain rfl : k0 = 0 := by omega
      have hE := long_end hT
      have hNY : 0 < 2 ^ s := Nat.pow_pos (by omega)
      have hDS := div_shifted (N := val B64 xs) (y := val B64 ys) (s := s) hNY
      rw [Nat.mul_comm (val B64 xs), Nat.mul_comm (val B64 ys)] at hDS
      have hq : val B64 Q = val B64 xs / val B64 ys := by rw [hE.1]; exact hDS.1
      have hRlt : val B64 R < B64 ^ (m + 2) := by
        have h1 := hT.lt
        simp only [Nat.pow_zero, Nat.one_mul] at h1
        exact Nat.lt_trans h1 HNF.out.1
      have hRt : val B64 (R.take (m + 2)) = val B64 R := by
        have h1 := val_split B64 R (m + 2) (by rw [hT.len]; omega)
        rcases Nat.eq_zero_or_pos (val B64 (R.drop (m + 2))) with h0 | h0
        · rw [h0] at h1; omega
        · have : B64 ^ (m + 2) * 1 ≤ B64 ^ (m + 2) * val B64 (R.drop (m + 2)) := Nat.mul_le_mul_left _ h0
          omega
      have hr : val B64 (R.take (m + 2)) / 2 ^ s = val B64 xs % val B64 ys := by rw [hRt, hE.2]; exact hDS.2
      have hln : (R.take (m + 2)).length = m + 2 := by rw [List.length_take, hT.len]; omega
      have SD := shiftDown_any gr (p + m + 3) s (m' + 1) R (R.take (m + 2)) (.slice (some ⟨gr, 0, none⟩) (m + 2) (p + m + 3)) wr.drew hrow hT.lim (by
          have := Row.sl (w := wr.drew) hrow (off := 0) (n := m + 2) (cap := p + m + 3) (by rw [hT.len]; omega) (by omega) (maxLen_24 (by omega)) (by omega)
          rwa [List.drop_zero] at this) (lim_take (by have := B64_pos; omega) hT.lim _) (.inr ⟨⟨_, by rw [hln]⟩, by rw [hln]⟩) (by rw [hln, hT.len]; omega) (by rw [hln]; omega) (maxLen_24 (by omega)) HS.out hs63 (by rw [hT.len]; omega)
      rw [hln] at SD
      have SDD := Lib.hid SD; have HRL := Lib.hid hT.len; have HQL := Lib.hid hT.qlen; have HQM := Lib.hid hT.qlim
      have HQV := Lib.hid hq; have HRV := Lib.hid hr
      clear hE hDS hRlt hRt hln SD hq hr hT hrow hroq hrod hbel
      go_wp2
      have k1 : (0 : Int) ≤ (m : Int) + 2 := by omega
      have k2 : (m : Int) + 2 ≤ (p : Int) + (m : Int) + 3 := by omega
      have k3 : ((m : Int) + 2).toNat = m + 2 := by omega
      go_still_tail 7, (by kernel_rfl)
      change wpList _ _ _ _ _ wr.drew
      have HQ2 : Hid (Row wr.drew 36 .u64 gq Q) := Lib.hid HROQ.out
      have HB2 : Hid (Below gd w wr.drew) := Lib.hid HBEL.out.drew
      generalize wr.drew = w2 at *
      go_wp2_with fail
      refine SDD.out.mono ?_
      rintro e w7 ⟨rfl, R', c', hr7, hg7, hdn⟩
      have hq7 := HQ2.out.grown hg7 (by simp; omega)
      have B7 := Lib.hid (below_of_grown HB2.out hg7 (by omega) (by have := HB2.out.size; have := HGD.out; omega))
      have hRl := hdn.len
      rw [HRL.out] at hRl
      have hRe := dnT_end hdn
      rw [show (R.take (m + 2)).length = m + 2 by rw [List.length_take, HRL.out]; omega, HRV.out] at hRe
      have hqs : Sl w7 .u64 (.slice (some ⟨gq, 0, none⟩) (p + 1) (p + 1)) (Q.take (p + 1)) := by
        have := hq7.sl (off := 0) (n := p + 1) (cap := p + 1) (by rw [HQL.out]; omega) (by omega) (maxLen_24 (by omega)) (by omega)
        rwa [List.drop_zero] at this
      have hrs : Sl w7 .u64 (.slice (some ⟨gr, 0, none⟩) (m + 2) (p + m + 3)) (R'.take (m + 2)) := by
        have := hr7.sl (off := 0) (n := m + 2) (cap := p + m + 3) (by rw [hRl]; omega) (by omega) (maxLen_24 (by omega)) (by omega)
        rwa [List.drop_zero] at this
      have O1 := setV_own (base := gd) hq7 (by omega) (show p + 1 ≤ Q.length by rw [HQL.out]; omega) (Nat.le_refl (p + 1)) (maxLen_24 (by omega)) (by rw [HQL.out]; omega) HQM.out (by omega)
      have O2 := setV_own (base := gd) hr7 (by omega) (show m + 2 ≤ R'.length by rw [hRl]; omega) (show m + 2 ≤ p + m + 3 by omega) (maxLen_24 (by omega)) (by rw [hRl]; omega) hdn.lim (by omega)
      rw [List.take_of_length_le (show Q.length ≤ p + 1 by rw [HQL.out]; omega), HQV.out] at O1
      rw [List.take_of_length_le (show Q.length ≤ p + 1 by rw [HQL.out]; omega)] at hqs
      rw [hRe] at O2
      have Q1 := fun nn => settle_is (w := w7.drewN nn) hqs
      have Q2 := fun nn => settle_is (w := w7.drewN nn) hrs
      generalize setV (some ⟨gq, 0, none⟩) (p + 1) Q = vq at *
      generalize setV (some ⟨gr, 0, none⟩) (p + m + 3) (R'.take (m + 2)) = vr at *
      have OO1 := Lib.hid O1; have OO2 := Lib.hid O2; have QQ1 := Lib.hid Q1; have QQ2 := Lib.hid Q2
      clear hr7 hg7 hdn hq7 hRl hRe hqs hrs O1 O2 Q1 Q2
      go_wp2
      go_quiet ((first | (go_at_call 22; have GG := QQ1.out; exact Calls.quiet_of_same (GG _)) | (go_at_call 22; have GG := QQ2.out; exact Calls.quiet_of_same (GG _))))
      go_wp2
      go_ret2
      rw [HGD.out]
      exact ⟨_, _, rfl, OO1.out.drawn _, OO2.out.drawn _, bdrawn B7.out _⟩
end Go.Proofs.YtafeokkkbiaajabDoor
