/- nat.takeFrom, nat.Sub, tribunalref01.Sub, NatSubs. -/
import Derived.Test.YtafeokkkbiaajaaDoorRefB
import Derived.Test.YtafeokkkbiaajaaDoorAlive
namespace Go.Proofs.YtafeokkkbiaajaaDoor
open Go.RowKit Mth

/-- what takeFrom's loops hold -/
def TakeO (w wr : World) (g : Nat) (R b : List Nat) (c i : Value) (least most : Nat) : Prop := ∃ (k cc : Nat) (R' : List Nat), least ≤ k ∧ k ≤ most ∧ i = .int .i64 k ∧ c = .int .u64 (cc : Int) ∧ TakeT R R' b k cc ∧ Row wr 24 .u64 g R' ∧ w.grownBy wr (some g)

set_option maxHeartbeats 2000000 in
set_option maxRecDepth 100000 in
theorem takeFrom_pos (g : Nat) (R b : List Nat) (bv : Value) (w : World) (hR : Row w 24 .u64 g R) (lR : Lim B64 R) (hb : Sl w .u64 bv b) (lb : Lim B64 b) (hne : inBlock bv ≠ some g ∨ b = []) (hlen : b.length ≤ R.length) (hle : val B64 b ≤ val B64 R) (hRl : R.length ≤ 16777216) :
    Calls Tryd.prog 57 #[.slice (some ⟨g, 0, none⟩) R.length R.length, bv] w fun e w' => e = .returned (.tuple #[]) ∧ ∃ R', Row w' 24 .u64 g R' ∧ w.grownBy w' (some g) ∧ Lim B64 R' ∧ R'.length = R.length ∧ val B64 R' = val B64 R - val B64 b := by
  have hbl := hb.len
  obtain ⟨ao, cap, rfl, h1, h2, h3, h4, h5⟩ := hb
  have H5 := Lib.hid h5; have HR := Lib.hid hR; have LR := Lib.hid lR; have LB := Lib.hid lb; have HLE := Lib.hid hle; have HNE := Lib.hid hne
  unfold maxLen at h2
  clear h3 h4 h5 hR lR lb hle hne
  go_enter Tryd.func57, Tryd.ntmps57
  go_wp2
  go_loopw [4, 10] (fun c i wr => TakeO w wr g R b c i 0 b.length) (fun _ i _ => b.length - (intOf i).toNat)
  case atStart => exact ⟨0, 0, R, Nat.le_refl _, Nat.zero_le _, rfl, rfl, takeT_zero b LR.out, HR.out, World.grownBy.refl _ _⟩
  case round =>
    obtain ⟨k, c, R', _, hk, rfl, rfl, hT, hrow, hgr⟩ := hrel
    have HT := Lib.hid hT; have HROW := Lib.hid hrow; have HG := Lib.hid hgr
    by_cases hlt : k < b.length
    · obtain ⟨bb, off, rfl, hblt, hc⟩ := H5.out (by omega)
      have hne : bb ≠ g := by
        rcases HNE.out with h | h
        · simpa [inBlock] using h
        · subst h; simp at hlt
      have hcb : wr.cell? ⟨bb, off + k, none⟩ = some (.int .u64 ((b.getD k 0 : Nat) : Int)) := hgr.cell (hc k hlt) (by simpa using hne)
      have hcr : wr.cell? ⟨g, k, none⟩ = some (.int .u64 ((R'.getD k 0 : Nat) : Int)) := hrow.cell (by rw [hT.len]; omega)
      have hfr : wr.frozen? ⟨g, k, none⟩ = false := hrow.free _
      have HST := Lib.hid (takeT_step hT LB.out (show k < R.length by omega))
      have hc1 := hT.cle
      generalize b.getD k 0 = y at *
      generalize R'.getD k 0 = x at *
      have hsub := fun w => sub64_run x y c hc1 w
      have hkr : k < R.length := by omega
      clear hc hT hrow hgr hne
      go_wp2
      go_roundw
      case rel =>
        have hset := HROW.out.set k (sLo x y c)
        exact ⟨k + 1, sHi x y c, _, Nat.zero_le _, by omega, by go_num, rfl, HST.out, hset.1, grown_trans' HG.out hset.2⟩
      case measure => simp [intOf]; omega
    · have hkb : k = b.length := by omega
      have HKB := Lib.hid hkb
      clear hT hrow hgr hkb
      obtain ⟨wo, rfl⟩ : ∃ wo : World, wo = wr := ⟨_, rfl⟩
      go_wp2
      go_loopw [4, 7] (fun c i wr => TakeO w wr g R b c i b.length R.length) (fun _ i _ => R.length - (intOf i).toNat)
      case atStart => exact ⟨b.length, c, R', Nat.le_refl _, hlen, rfl, rfl, by rw [← HKB.out]; exact HT.out, HROW.out, HG.out⟩
      case round =>
        obtain ⟨k2, c2, R2, hlo, hhi, rfl, rfl, hT, hrow, hgr⟩ := hrel
        have HT2 := Lib.hid hT; have HROW2 := Lib.hid hrow; have HG2 := Lib.hid hgr
        by_cases hc0 : c2 = 0
        · have hd : ((c2 : Int) != 0) = false := by rw [hc0]; rfl
          subst hc0
          have HE := Lib.hid (takeT_end (by have := takeT_more hT hlo hhi (R.length - k2) (by omega); rwa [show k2 + (R.length - k2) = R.length by omega] at this) LR.out hlen HLE.out)
          clear hT hrow hgr
          go_wp2
          go_end0
          exact ⟨rfl, R2, HROW2.out, HG2.out, HT2.out.lim, HT2.out.len, HE.out.2⟩
        · have hd : ((c2 : Int) != 0) = true := by rw [bne_iff_ne]; omega
          by_cases hend : k2 < R.length
          · have hcr : wr.cell? ⟨g, k2, none⟩ = some (.int .u64 ((R2.getD k2 0 : Nat) : Int)) := hrow.cell (by rw [hT.len]; omega)
            have hfr : wr.frozen? ⟨g, k2, none⟩ = false := hrow.free _
            have HST := Lib.hid (takeT_step hT LB.out hend)
            have hc1 := hT.cle
            rw [getD_ge b k2 hlo] at HST
            generalize R2.getD k2 0 = x at *
            have hsub : ∀ w, (callFunc 83 #[.int .u64 (x : Int), .int .u64 0, .int .u64 (c2 : Int)]).run Tryd.prog w = .ok (.value (.tuple #[.int .u64 ((sLo x 0 c2 : Nat) : Int), .int .u64 ((sHi x 0 c2 : Nat) : Int)])) w := fun w => sub64_run x 0 c2 hc1 w
            clear hT hrow hgr hc0
            go_wp2
            go_roundw
            case rel =>
              have hset := HROW2.out.set k2 (sLo x 0 c2)
              exact ⟨k2 + 1, sHi x 0 c2, _, by omega, by omega, by go_num, rfl, HST.out, hset.1, grown_trans' HG2.out hset.2⟩
            case measure => simp [intOf]; omega
          · have hk2 : k2 = R.length := by omega
            rw [hk2] at hT
            have HE := Lib.hid (takeT_end hT LR.out hlen HLE.out)
            exact absurd HE.out.1 hc0

theorem takeFrom_zero (ao : Option Addr) (cap : Nat) (w : World) (_hm : cap ≤ maxLen) : Calls Tryd.prog 57 #[.slice none 0 0, .slice ao 0 cap] w fun e w' => e = .returned (.tuple #[]) ∧ w = w' := by
  unfold maxLen at _hm
  go_enter Tryd.func57, Tryd.ntmps57
  go_wp2
  refine wp_loop_rounds 1 ?_
  rw [rounds_succ]
  go_wp2
  refine wp_loop_rounds 1 ?_
  rw [rounds_succ]
  go_wp2
  go_end0
  exact ⟨rfl, rfl⟩
theorem num_settle {w : World} {v : Value} {R : List Nat} {n : Nat} (h : Sl w .u64 v (trimL R)) (hl : Lim B64 R) (hv : val B64 R = n) : Num w v n := by
  rw [← hv]; exact num_trim h hl

/-- what Sub answers -/
def subN (m n : Nat) : Nat := if Big ≤ m ∨ Big ≤ n then 0 else if m < n then 0 else m - n
def subE (m n : Nat) : Int := if Big ≤ m ∨ Big ≤ n then 5 else if m < n then 10 else 0
theorem sub_long {m n : Nat} (h : Big ≤ m ∨ Big ≤ n) : subN m n = 0 ∧ subE m n = 5 := ⟨if_pos h, if_pos h⟩
theorem sub_below {m n : Nat} (h : ¬ (Big ≤ m ∨ Big ≤ n)) (h2 : m < n) : subN m n = 0 ∧ subE m n = 10 := by
  unfold subN subE; rw [if_neg h, if_neg h, if_pos h2, if_pos h2]; exact ⟨rfl, rfl⟩
theorem sub_fine {m n : Nat} (h : ¬ (Big ≤ m ∨ Big ≤ n)) (h2 : ¬ m < n) : subN m n = m - n ∧ subE m n = 0 := by
  unfold subN subE; rw [if_neg h, if_neg h, if_neg h2, if_neg h2]; exact ⟨rfl, rfl⟩

set_option maxHeartbeats 1000000 in
set_option maxRecDepth 100000 in
theorem sub_any (v1 v2 : Value) (xs ys : List Nat) (w : World) (h1 : Sl w .u64 v1 xs) (h2 : Sl w .u64 v2 ys) (l1 : Lim B64 xs) (l2 : Lim B64 ys) :
    Calls Tryd.prog 29 #[v1, v2] w fun e w' => ∃ v', e = .returned (.tuple #[v', .int .i64 (subE (val B64 xs) (val B64 ys))]) ∧ Num w' v' (subN (val B64 xs) (val B64 ys)) ∧ Below w.heap.size w w' := by
  have T1 := Lib.hid (trim_any h1); have T2 := Lib.hid (trim_any h2)
  have G1 := Lib.hid (long_iff l1); have G2 := Lib.hid (long_iff l2)
  have e1 : val B64 (trimL xs) = val B64 xs := val_trimL _ _
  have e2 : val B64 (trimL ys) = val B64 ys := val_trimL _ _
  have k1 := lim_trimL l1; have k2 := lim_trimL l2; have p1 := top_trimL xs; have p2 := top_trimL ys
  rw [← e1] at G1 ⊢
  rw [← e2] at G2 ⊢
  clear h1 h2 l1 l2 e1 e2
  generalize trimL xs = ts at *
  generalize trimL ys = us at *
  have K1 := Lib.hid k1; have K2 := Lib.hid k2; have P1 := Lib.hid p1; have P2 := Lib.hid p2
  clear k1 k2 p1 p2
  go_enter Tryd.func29, Tryd.ntmps29
  go_wp2_with fail
  refine T1.out.mono ?_
  rintro e w' ⟨va, rfl, s1, rfl⟩
  go_wp2_with fail
  refine T2.out.mono ?_
  rintro e w' ⟨vb, rfl, s2, rfl⟩
  have S1 := Lib.hid s1; have S2 := Lib.hid s2
  clear s1 s2
  by_cases g1 : 4096 < ts.length
  · have hd : decide (4096 < ts.length) = true := decide_eq_true g1
    have E := Lib.hid (sub_long (n := val B64 us) (.inl (G1.out.1 g1)))
    clear g1
    go_wp2_with fail
    refine (tooLong_any S1.out).mono ?_
    rintro e w' ⟨rfl, rfl⟩
    go_wp2
    go_ret2
    exact ⟨_, by rw [E.out.2]; rfl, by rw [E.out.1]; exact num_nil _, Below.refl _ _⟩
  · have hd : decide (4096 < ts.length) = false := decide_eq_false g1
    by_cases g2 : 4096 < us.length
    · have hd2 : decide (4096 < us.length) = true := decide_eq_true g2
      have E := Lib.hid (sub_long (m := val B64 ts) (.inr (G2.out.1 g2)))
      clear g1 g2
      go_wp2_with fail
      refine (tooLong_any S1.out).mono ?_
      rintro e w' ⟨rfl, rfl⟩
      go_wp2_with fail
      refine (tooLong_any S2.out).mono ?_
      rintro e w' ⟨rfl, rfl⟩
      go_wp2
      go_ret2
      exact ⟨_, by rw [E.out.2]; rfl, by rw [E.out.1]; exact num_nil _, Below.refl _ _⟩
    · have hd2 : decide (4096 < us.length) = false := decide_eq_false g2
      have NB : Hid (¬ (Big ≤ val B64 ts ∨ Big ≤ val B64 us)) := Lib.hid (fun h => h.elim (fun h => g1 (G1.out.2 h)) (fun h => g2 (G2.out.2 h)))
      clear g1 g2
      go_wp2_with fail
      refine (tooLong_any S1.out).mono ?_
      rintro e w' ⟨rfl, rfl⟩
      go_wp2_with fail
      refine (tooLong_any S2.out).mono ?_
      rintro e w' ⟨rfl, rfl⟩
      have CM := Lib.hid (cmp_any _ _ ts us w S1.out S2.out K1.out K2.out)
      by_cases hlt : val B64 ts < val B64 us
      · have E := Lib.hid (sub_below NB.out hlt)
        rw [cmp_lt hlt] at CM
        clear hlt
        go_wp2_with fail
        refine CM.out.mono ?_
        rintro e w1 ⟨rfl, hb1⟩
        have B1 := Lib.hid hb1; clear hb1
        go_wp2
        go_ret2
        exact ⟨_, by rw [E.out.2]; rfl, by rw [E.out.1]; exact num_nil _, B1.out⟩
      · have E := Lib.hid (sub_fine NB.out hlt)
        have HC : Hid (0 ≤ cmp3 (val B64 ts) (val B64 us)) := Lib.hid (by unfold cmp3; rw [if_neg hlt]; split <;> omega)
        have hle : val B64 us ≤ val B64 ts := by omega
        have HLE := Lib.hid hle; have HLN := Lib.hid (length_le_of_val B64_pos K1.out P2.out hle)
        have hcg := HC.out
        clear hlt hle
        generalize cmp3 (val B64 ts) (val B64 us) = cv at *
        have hd3 : decide (cv < 0) = false := decide_eq_false (by omega)
        go_wp2_with fail
        refine CM.out.mono ?_
        rintro e w1 ⟨rfl, hb1⟩
        have B1 := Lib.hid hb1; clear hb1
        have FR := Lib.hid (fresh_any (S1.out.below B1.out))
        go_wp2_with fail
        refine FR.out.mono ?_
        rintro e w2 ⟨v2, rfl, hb2, hs2, hcase⟩
        rw [trimL_of_top P1.out] at hs2 hcase
        have B2 := Lib.hid (below_step B1.out hb2); have SB := Lib.hid (S2.out.below B2.out)
        have HS2 := Lib.hid hs2
        rcases hcase with ⟨rfl, h0⟩ | ⟨rfl, hrow⟩
        · have hus : us = [] := List.eq_nil_of_length_eq_zero (by have := HLN.out; rw [h0] at this; simpa using this)
          have H0 := Lib.hid h0; have HU := Lib.hid hus
          have hsb := SB.out
          rw [hus] at hsb
          obtain ⟨a9, c9, rfl, _, q2, _⟩ := hsb
          unfold maxLen at q2
          simp only [List.length_nil]
          clear hb2 hs2 h0 hus
          go_wp2_with fail
          refine (takeFrom_zero a9 c9 _ (by unfold maxLen; exact q2)).mono ?_
          rintro e w3 ⟨rfl, rfl⟩
          go_wp2_with fail
          refine (settle_any (sl_nil w2 .u64)).mono ?_
          rintro e w3 ⟨v3, rfl, hs3, rfl⟩
          have HS3 := Lib.hid hs3; clear hs3
          go_wp2
          go_ret2
          refine ⟨_, by rw [E.out.2]; rfl, ?_, B2.out⟩
          rw [E.out.1, H0.out, HU.out]
          exact num_settle HS3.out (lim_nil (by have := B64_pos; omega)) rfl
        · have hne : inBlock vb ≠ some w1.heap.size ∨ us = [] := by
            by_cases hu : us = []
            · exact .inr hu
            · left
              have hpu : 0 < us.length := List.length_pos_iff.2 hu
              obtain ⟨b9, o9, c9, rfl, _, _, hb9, _⟩ := (S2.out.below B1.out).pos hpu
              simp [inBlock]; omega
          have hRl : ts.length ≤ 16777216 := S1.out.len
          have TF := Lib.hid (takeFrom_pos w1.heap.size ts us vb w2 hrow K1.out SB.out K2.out hne HLN.out HLE.out hRl)
          have HN1 : Hid (Below w.heap.size w w1) := B1
          clear hb2 hs2 hrow hne hRl
          go_wp2_with fail
          refine TF.out.mono ?_
          rintro e w3 ⟨rfl, R', hr3, hg3, hl3, hn3, hv3⟩
          have hsl : Sl w3 .u64 (.slice (some ⟨w1.heap.size, 0, none⟩) ts.length ts.length) R' := by
            have := hr3.sl_all (by rw [hn3]; exact S1.out.len)
            rwa [hn3] at this
          have B3 := Lib.hid (below_of_grown B2.out hg3 B1.out.size B2.out.size)
          have HL3 := Lib.hid hl3; have HV3 := Lib.hid hv3
          have ST := Lib.hid (settle_any hsl)
          clear hr3 hg3 hl3 hn3 hv3 hsl
          go_wp2_with fail
          refine ST.out.mono ?_
          rintro e w4 ⟨v4, rfl, hs4, rfl⟩
          have HS4 := Lib.hid hs4; clear hs4
          go_wp2
          go_ret2
          refine ⟨_, by rw [E.out.2]; rfl, ?_, B3.out⟩
          rw [E.out.1]
          exact num_settle HS4.out HL3.out HV3.out

theorem natList_pair {w : World} {v1 v2 : Value} {xs ys : List Nat} (h1 : Sl w .u64 v1 xs) (h2 : Sl w .u64 v2 ys) :
    NatList (w.alloc (Obj.cells #[v1, v2] 23)) (.slice (some ⟨w.heap.size, 0, none⟩) 2 2) [xs, ys] := by
  obtain ⟨a1, c1, rfl⟩ := h1.shape
  obtain ⟨a2, c2, rfl⟩ := h2.shape
  exact natList_two h1 h2
theorem longB_two (xs ys : List Nat) : longB [xs, ys] 2 = (decide (Big ≤ val B64 xs) || decide (Big ≤ val B64 ys)) := by
  simp [longB]

set_option maxHeartbeats 1000000 in
set_option maxRecDepth 100000 in
theorem rsub_any (v1 v2 : Value) (xs ys : List Nat) (w : World) (h1 : Sl w .u64 v1 xs) (h2 : Sl w .u64 v2 ys) (l1 : Lim B64 xs) (l2 : Lim B64 ys) (n1 : xs.length ≤ 4000000) (n2 : ys.length ≤ 4000000) :
    Calls Tryd.prog 30 #[v1, v2] w fun e w' => ∃ v', e = .returned (.tuple #[v', .int .i64 (subE (val B64 xs) (val B64 ys))]) ∧ Num w' v' (subN (val B64 xs) (val B64 ys)) ∧ Below w.heap.size w w' := by
  have H1 := Lib.hid h1; have H2 := Lib.hid h2; have L1 := Lib.hid l1; have L2 := Lib.hid l2; have N1 := Lib.hid n1; have N2 := Lib.hid n2
  have NL := Lib.hid (natList_pair h1 h2)
  obtain ⟨a1, c1, rfl⟩ := h1.shape
  obtain ⟨a2, c2, rfl⟩ := h2.shape
  have LG := Lib.hid (long_any _ [xs, ys] _ NL.out (fun j => by
    match j with
    | 0 => exact l1
    | 1 => exact l2
    | j + 2 => exact lim_nil (by have := B64_pos; omega)) (fun j => by
    match j with
    | 0 => exact n1
    | 1 => exact n2
    | j + 2 => simp))
  have LB := Lib.hid (longB_two xs ys)
  clear h1 h2 l1 l2 n1 n2
  go_enter Tryd.func30, Tryd.ntmps30
  go_wp2_with fail
  refine LG.out.mono ?_
  rintro e w1 ⟨rfl, hb1⟩
  have B1 : Hid (Below w.heap.size w w1) := Lib.hid (((Below.refl _ _).alloc (Nat.le_refl _) _).trans (hb1.mono (by simp)))
  clear hb1
  rw [show [xs, ys].length = 2 from rfl, LB.out]
  by_cases hlong : Big ≤ val B64 xs ∨ Big ≤ val B64 ys
  · have hd : (decide (Big ≤ val B64 xs) || decide (Big ≤ val B64 ys)) = true := by simpa using hlong
    have E := Lib.hid (sub_long hlong)
    rw [hd]
    clear hlong hd
    go_wp2
    go_ret2
    exact ⟨_, by rw [E.out.2]; rfl, by rw [E.out.1]; exact num_nil _, B1.out⟩
  · have hd : (decide (Big ≤ val B64 xs) || decide (Big ≤ val B64 ys)) = false := by simpa using hlong
    rw [hd]
    clear hd
    have CM := Lib.hid (rcmp_any _ _ xs ys w1 (H1.out.below B1.out) (H2.out.below B1.out) L1.out L2.out N1.out N2.out)
    by_cases hlt : val B64 xs < val B64 ys
    · have E := Lib.hid (sub_below hlong hlt)
      rw [cmp_lt hlt] at CM
      clear hlong hlt
      go_wp2_with fail
      refine CM.out.mono ?_
      rintro e w2 ⟨rfl, hb2⟩
      have B2 := Lib.hid (below_step B1.out hb2); clear hb2
      go_wp2
      go_ret2
      exact ⟨_, by rw [E.out.2]; rfl, by rw [E.out.1]; exact num_nil _, B2.out⟩
    · have E := Lib.hid (sub_fine hlong hlt)
      have CS : Hid (cutN (val B64 xs - val B64 ys) = val B64 xs - val B64 ys ∧ cutE (val B64 xs - val B64 ys) = 0) := Lib.hid (cut_small (by
        have : ¬ Big ≤ val B64 xs := fun h => hlong (.inl h)
        omega))
      have HLE : Hid (val B64 ys ≤ val B64 xs) := Lib.hid (by omega)
      have hcg : 0 ≤ cmp3 (val B64 xs) (val B64 ys) := by unfold cmp3; rw [if_neg hlt]; split <;> omega
      clear hlong hlt
      generalize cmp3 (val B64 xs) (val B64 ys) = cv at *
      have hd3 : decide (cv < 0) = false := decide_eq_false (by omega)
      go_wp2_with fail
      refine CM.out.mono ?_
      rintro e w2 ⟨rfl, hb2⟩
      have B2 := Lib.hid (below_step B1.out hb2); clear hb2
      have F1 := Lib.hid (from_any _ xs w2 (H1.out.below B2.out) L1.out N1.out)
      go_wp2_with fail
      refine F1.out.mono ?_
      rintro e w3 ⟨v3, rfl, hn3, hb3⟩
      have B3 := Lib.hid (below_step B2.out hb3); have N3 := Lib.hid hn3; clear hn3 hb3
      have F2 := Lib.hid (from_any _ ys w3 (H2.out.below B3.out) L2.out N2.out)
      go_wp2_with fail
      refine F2.out.mono ?_
      rintro e w4 ⟨v4, rfl, hn4, hb4⟩
      have B4 := Lib.hid (below_step B3.out hb4); have N4 := Lib.hid hn4; have N3' := Lib.hid (N3.out.below hb4); clear hn4 hb4
      go_wp2_with fail
      refine (subH_any _ _ _ _ _ N3'.out N4.out HLE.out).mono ?_
      rintro e w5 ⟨v5, rfl, hn5, hb5⟩
      have B5 := Lib.hid (below_step B4.out hb5); have N5 := Lib.hid hn5; clear hn5 hb5
      go_wp2_with fail
      refine (result_any _ _ _ N5.out).mono ?_
      rintro e w6 ⟨v6, rfl, hn6, hb6⟩
      have B6 := Lib.hid (below_step B5.out hb6); have N6 := Lib.hid hn6; clear hn6 hb6
      go_wp2
      go_ret2
      exact ⟨_, by rw [E.out.2, CS.out.2]; rfl, by rw [E.out.1]; have := N6.out; rwa [CS.out.1] at this, B6.out⟩

set_option maxRecDepth 100000 in
theorem subs_walk (w : World) (av bv : Value) (xs ys : List Nat) (hz : TZ w) (ha : Sl w .u64 av xs) (hb : Sl w .u64 bv ys) (la : Lim B64 xs) (lb : Lim B64 ys) (na : xs.length ≤ 1048576) (nb : ys.length ≤ 1048576) :
    Calls Tryd.prog 5 #[av, bv] w fun e w' => e = .returned (.bool true) ∧ Below w.heap.size w w' := by
  have HZ := Lib.hid hz; have HA := Lib.hid ha; have HB := Lib.hid hb; have LA := Lib.hid la; have LB := Lib.hid lb; have NA := Lib.hid na; have NB := Lib.hid nb
  clear hz ha hb la lb na nb
  go_enter Tryd.func5, Tryd.ntmps5
  go_wp2_with fail
  refine (sub_any _ _ xs ys _ HA.out HB.out LA.out LB.out).mono ?_
  rintro e w1 ⟨v1, rfl, hn1, hb1⟩
  have B1 := Lib.hid hb1; have N1 := Lib.hid hn1; clear hb1 hn1
  go_wp2_with fail
  refine (rsub_any _ _ xs ys _ (HA.out.below B1.out) (HB.out.below B1.out) LA.out LB.out (by have := NA.out; omega) (by have := NB.out; omega)).mono ?_
  rintro e w2 ⟨v2, rfl, hn2, hb2⟩
  have B2 := Lib.hid (below_step B1.out hb2); have N2 := Lib.hid hn2; have N1' := Lib.hid (N1.out.below hb2); clear hb2 hn2
  generalize subE (val B64 xs) (val B64 ys) = ev
  have hev : (ev == ev) = true := by simp
  go_wp2_with fail
  refine (same_any _ _ _ _ N1'.out N2.out).mono ?_
  rintro e w3 ⟨rfl, hb3⟩
  have B3 := Lib.hid (below_step B2.out hb3); clear hb3
  go_wp2_with fail
  refine (alive_any _ (HZ.out.below B3.out)).mono ?_
  rintro e w4 ⟨rfl, hb4⟩
  have B4 := Lib.hid (below_step B3.out hb4); clear hb4
  go_wp2
  go_ret
  exact ⟨rfl, B4.out⟩
end Go.Proofs.YtafeokkkbiaajaaDoor
