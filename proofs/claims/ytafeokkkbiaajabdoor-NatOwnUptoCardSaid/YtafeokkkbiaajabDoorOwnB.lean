/- nat: Add, Shl, Mul of one: results of the call's own. -/
import Derived.Test.YtafeokkkbiaajabDoorQuoD
import Derived.Test.YtafeokkkbiaajabDoorShl
import Derived.Test.YtafeokkkbiaajabDoorAdds
import Derived.Test.YtafeokkkbiaajabDoorProductB
namespace Go.Proofs.YtafeokkkbiaajabDoor
open Go.RowKit Mth

theorem own_nil (w : World) (base : Nat) : Own w base (.slice none 0 0) 0 := .inl ⟨rfl, rfl⟩
theorem answer_own {base g n : Nat} {R : List Nat} {w : World} (h : Row w 36 .u64 g R) (hg : base ≤ g) (hn : R.length = n) (hR : R.length ≤ 16777216) (lR : Lim B64 R) :
    Calls Tryd.prog 26 #[.slice (some ⟨g, 0, none⟩) n n] w fun e w' => ∃ v', e = .returned (.tuple #[v', .int .i64 (cutE (val B64 R))]) ∧ Own w base v' (cutN (val B64 R)) ∧ w = w' := by
  subst hn
  have hsl := h.sl_all hR
  have hO := setV_own (base := base) h hg (Nat.le_refl R.length) (Nat.le_refl R.length) (maxLen_24 (by omega)) (by omega) lR hR
  rw [List.take_length] at hO
  have ST := Lib.hid (settle_is hsl)
  have hN := hO.num
  have L := long_iff lR
  have hsh : ∃ ao k c, setV (some ⟨g, 0, none⟩) R.length R = .slice ao k c ∧ k = (trimL R).length := by
    unfold setV
    rw [length_trimL]
    by_cases h0 : tlen R = 0
    · rw [if_pos h0]; exact ⟨_, _, _, rfl, h0.symm⟩
    · rw [if_neg h0]; exact ⟨_, _, _, rfl, rfl⟩
  obtain ⟨ao, k, c, hs, hk⟩ := hsh
  rw [hs] at ST hO hN
  have HO := Lib.hid hO; have HN := Lib.hid hN
  have hk2 : k ≤ 16777216 := by rw [hk, length_trimL]; exact Nat.le_trans (tlen_le R) hR
  obtain ⟨ys, s9, _, _, _⟩ := hN
  have hky : k = ys.length := by obtain ⟨_, _, e, _⟩ := s9; simp only [Value.slice.injEq] at e; exact e.2.1
  rw [hky] at s9
  have S9 := Lib.hid s9
  by_cases h0 : 4096 < k
  · have hd : decide (4096 < ys.length) = true := decide_eq_true (by omega)
    have E1 : Hid (cutE (val B64 R) = 5) := Lib.hid (if_pos (L.1 (by omega)))
    have E2 : Hid (cutN (val B64 R) = 0) := Lib.hid (if_pos (L.1 (by omega)))
    subst hky
    clear h hO hsl hs hk s9 L h0 HN
    go_enter Tryd.func26, Tryd.ntmps26
    go_wp2_with fail
    refine ST.out.mono ?_
    rintro e w' ⟨rfl, rfl⟩
    go_wp2_with fail
    refine (tooLong_any S9.out).mono ?_
    rintro e w' ⟨rfl, rfl⟩
    go_wp2
    go_ret2
    exact ⟨_, by rw [E1.out]; rfl, by rw [E2.out]; exact own_nil _ _, rfl⟩
  · have hd : decide (4096 < ys.length) = false := decide_eq_false (by omega)
    have E1 : Hid (cutE (val B64 R) = 0) := Lib.hid (if_neg (fun h => by have := L.2 h; omega))
    have E2 : Hid (cutN (val B64 R) = val B64 R) := Lib.hid (if_neg (fun h => by have := L.2 h; omega))
    subst hky
    clear h hO hsl hs hk s9 L h0 HN
    go_enter Tryd.func26, Tryd.ntmps26
    go_wp2_with fail
    refine ST.out.mono ?_
    rintro e w' ⟨rfl, rfl⟩
    go_wp2_with fail
    refine (tooLong_any S9.out).mono ?_
    rintro e w' ⟨rfl, rfl⟩
    go_wp2
    go_ret2
    exact ⟨_, by rw [E1.out]; rfl, by rw [E2.out]; exact HO.out, rfl⟩

set_option maxHeartbeats 2000000 in
set_option maxRecDepth 100000 in
theorem add_own (v : Value) (xss : List (List Nat)) (w : World) (h : NatList w v xss) (hl : ∀ j, Lim B64 (xss.getD j [])) :
    Calls Tryd.prog 10 #[v] w fun e w' => ∃ v', e = .returned (.tuple #[v', .int .i64 (addE xss)]) ∧ Own w' w.heap.size v' (addN xss) ∧ Below w.heap.size w w' := by
  have hlen := h.len
  obtain ⟨ao, cap, rfl, h1, h2, h3, h4, h5⟩ := h
  have H5 := Lib.hid h5; have HL := Lib.hid hl
  unfold maxLen at h2
  clear h3 h4 h5 hl
  go_enter Tryd.func10, Tryd.ntmps10
  go_wp2
  go_loop [4, 12] (fun l i => AddA xss l i) (fun _ i => xss.length - (intOf i).toNat)
  case atStart => exact ⟨0, 0, Nat.zero_le _, rfl, rfl, by omega, fun j hj => by omega, fun j hj => by omega⟩
  case round =>
    obtain ⟨k, L, hk, rfl, rfl, hL, hA, hB⟩ := hrel
    have HA := Lib.hid hA; have HB := Lib.hid hB
    by_cases hlt : k < xss.length
    · obtain ⟨b, off, rfl, hblt, hc⟩ := H5.out (by omega)
      obtain ⟨u, hu, hsu⟩ := hc k hlt
      obtain ⟨a0, c0, rfl⟩ := hsu.shape
      have HT := Lib.hid (trim_eq' hsu)
      have HS := Lib.hid hsu.trim
      have HI := Lib.hid (long_iff (HL.out k))
      have HLB : Hid (Big ≤ val B64 (xss.getD k []) → longB xss xss.length = true) := Lib.hid fun h => long_of hlt h rfl
      have HA1 : Hid (∀ L', L ≤ L' → (trimL (xss.getD k [])).length ≤ L' → ∀ j, j < k + 1 → (trimL (xss.getD j [])).length ≤ L') := Lib.hid fun L' h h' j hj => by
        rcases Nat.lt_or_ge j k with h1 | h1
        · exact Nat.le_trans (hA j h1) h
        · rw [show j = k by omega]; exact h'
      have HB1 : Hid (¬ Big ≤ val B64 (xss.getD k []) → ∀ j, j < k + 1 → val B64 (xss.getD j []) < Big) := Lib.hid fun h j hj => by
        rcases Nat.lt_or_ge j k with h1 | h1
        · exact hB j h1
        · rw [show j = k by omega]; omega
      have hlt' : tlen (xss.getD k []) = (trimL (xss.getD k [])).length := (length_trimL _).symm
      rw [hlt'] at HT HS
      clear hc hsu hA hB hlt'
      generalize hxx : xss.getD k [] = xx at *
      generalize trimL xx = ts at *
      have HSL := HS.out.len
      go_wp2_with fail
      refine HT.out.mono ?_
      rintro e w' ⟨rfl, rfl⟩
      by_cases hg : 4096 < ts.length
      · have hd : decide (4096 < ts.length) = true := decide_eq_true hg
        have E := Lib.hid (add_long (HLB.out (HI.out.1 hg)))
        clear hg
        go_wp2_with fail
        refine (tooLong_any HS.out).mono ?_
        rintro e w' ⟨rfl, rfl⟩
        go_wp2
        go_ret2
        exact ⟨_, by rw [E.out.2]; rfl, by rw [E.out.1]; exact own_nil _ _, Below.refl _ _⟩
      · have hd : decide (4096 < ts.length) = false := decide_eq_false hg
        have HB2 := Lib.hid (HB1.out (fun h => hg (HI.out.2 h)))
        have hg' : ts.length ≤ 4096 := by omega
        clear hg
        go_wp2_with fail
        refine (tooLong_any HS.out).mono ?_
        rintro e w' ⟨rfl, rfl⟩
        go_wp2
        go_round
        case rel => exact ⟨k + 1, max L ts.length, by omega, by go_num, by congr 1; omega, by omega, HA1.out _ (Nat.le_max_left _ _) (Nat.le_max_right _ _), HB2.out⟩
        case measure => simp [intOf]; omega
    · have HALL : Hid (∀ j, j < xss.length → (trimL (xss.getD j [])).length ≤ L) := Lib.hid fun j hj => hA j (by omega)
      have HNB : Hid (longB xss xss.length = false) := Lib.hid (by
        rw [← Bool.not_eq_true, longB_iff]
        rintro ⟨j, hj, h⟩
        have := hB j (by omega)
        omega)
      clear hA hB
      go_wp2_with (at_make; refine make_nat rfl _ _ rfl _ _ (L + 1) rfl rfl (by simp) (by simp) (by omega) ?_; intro w1 hrow hb1)
      have HROW := Lib.hid hrow; have HB1 := Lib.hid hb1
      clear hrow hb1
      go_loopw [30] (fun i wr => AddB w wr xss L i) (fun i _ => xss.length - (intOf i).toNat)
      case atStart => exact ⟨0, _, Nat.zero_le _, rfl, HROW.out, by simp, fun j => by rw [getD_replicate]; have := B64_pos; omega, by rw [val_zero (fun j => getD_replicate _ _)]; rfl, HB1.out⟩
      case round =>
        obtain ⟨k2, R, hk2, rfl, hrow, hRl, hRm, hRv, hbel⟩ := hrel
        have HB2 := Lib.hid hbel; have HR := Lib.hid hrow; have HRL := Lib.hid hRl; have HRM := Lib.hid hRm; have HRV := Lib.hid hRv
        by_cases hlt2 : k2 < xss.length
        · obtain ⟨b, off, rfl, hblt, hc⟩ := H5.out (by omega)
          obtain ⟨u, hu, hsu0⟩ := hc k2 hlt2
          have hur : wr.cell? ⟨b, off + k2, none⟩ = some u := (hbel.cell (p := ⟨b, off + k2, none⟩) hblt).trans hu
          obtain ⟨a0, c0, rfl⟩ := hsu0.shape
          have hsu := hsu0.below hbel
          have HT := Lib.hid (trim_eq' hsu)
          have HS := Lib.hid hsu.trim
          have hne : inBlock (.slice a0 (tlen (xss.getD k2 [])) c0) ≠ some w.heap.size ∨ trimL (xss.getD k2 []) = [] := by
            by_cases hu : trimL (xss.getD k2 []) = []
            · exact .inr hu
            · left
              have hs0 := hsu0.trim
              obtain ⟨b9, o9, c9, e9, _, _, hb9, _⟩ := hs0.pos (List.length_pos_iff.2 hu)
              simp only [Value.slice.injEq] at e9
              obtain ⟨rfl, _, _⟩ := e9
              simp [inBlock]; omega
          have HSU := Lib.hid (sumL_take_succ hlt2)
          have HROOM := Lib.hid (add_room hlt2 hlen HL.out HALL.out)
          have hlen2 := HALL.out k2 hlt2
          have hlim := lim_trimL (HL.out k2)
          have hval : val B64 (trimL (xss.getD k2 [])) = val B64 (xss.getD k2 []) := val_trimL _ _
          have hlt' : tlen (xss.getD k2 []) = (trimL (xss.getD k2 [])).length := (length_trimL _).symm
          rw [hlt'] at HT HS hne
          rw [← hval] at HSU
          rw [HSU.out, ← HRV.out] at HROOM
          clear hc hsu hsu0 hlt' hval hrow hbel
          generalize xss.getD k2 [] = xx at *
          generalize trimL xx = ts at *
          have HNE := Lib.hid hne; have HLEN2 := Lib.hid hlen2; have HLIM := Lib.hid hlim
          clear hne hlim
          go_wp2_with fail
          refine HT.out.mono ?_
          rintro e w' ⟨rfl, rfl⟩
          have AD := Lib.hid (addTo_any w.heap.size 0 (L + 1) (L + 1) R ts _ _ HR.out HRM.out HS.out HLIM.out HNE.out (by omega) (by rw [HRL.out]; omega) (Nat.le_refl _) (maxLen_24 (by omega)) (by rw [HRL.out]; omega))
          go_wp2_with fail
          refine AD.out.mono ?_
          rintro e w3 ⟨rfl, R', c', hr3, hg3, hp3⟩
          have HR3 := Lib.hid hr3; have HG3 := Lib.hid hg3; have HP3 := Lib.hid hp3
          clear hr3 hg3 hp3
          go_wp2
          go_roundw
          case rel =>
            refine ⟨k2 + 1, R', by omega, by go_num, HR3.out, by rw [HP3.out.len, HRL.out], HP3.out.lim, ?_, below_of_grown HB2.out HG3.out (Nat.le_refl _) HB2.out.size⟩
            rw [HSU.out, ← HRV.out]
            exact putT_all HP3.out HRL.out.symm (by have := HLEN2.out; omega) HROOM.out
          case measure => simp [intOf]; omega
        · have e : xss.take k2 = xss := List.take_of_length_le (by omega)
          rw [e] at hRv
          have HV := Lib.hid hRv
          have HROWF := Lib.hid hrow
          have E := Lib.hid (add_fine HNB.out)
          clear hrow hRl hRm hRv hbel e
          go_wp2_with fail
          refine (answer_own HROWF.out (Nat.le_refl _) HRL.out (by rw [HRL.out]; omega) HRM.out).mono ?_
          rintro e w' ⟨v', rfl, hN, rfl⟩
          have HN := Lib.hid hN
          clear hN
          rw [HV.out] at HN
          go_wp2
          go_ret2
          exact ⟨_, by rw [E.out.2, ← HV.out]; rfl, by rw [E.out.1]; exact HN.out, HB2.out⟩

set_option maxHeartbeats 2000000 in
set_option maxRecDepth 100000 in
theorem shl_own (v : Value) (xs : List Nat) (n : Int) (w : World) (h : Sl w .u64 v xs) (hl : Lim B64 xs) (hn : -9223372036854775808 ≤ n ∧ n ≤ 9223372036854775807) :
    Calls Tryd.prog 7 #[v, .int .i64 n] w fun e w' => ∃ v', e = .returned (.tuple #[v', .int .i64 (shlE (val B64 xs) n)]) ∧ Own w' w.heap.size v' (shlN (val B64 xs) n) ∧ Below w.heap.size w w' := by
  obtain ⟨hn1, hn2⟩ := hn
  have T := Lib.hid (trim_any h)
  have G := Lib.hid (long_iff hl)
  have hv : val B64 (trimL xs) = val B64 xs := val_trimL _ _
  have k1 := lim_trimL hl; have p1 := top_trimL xs
  rw [← hv] at G ⊢
  clear h hl hv
  generalize trimL xs = ts at *
  have K := Lib.hid k1; have P := Lib.hid p1
  clear k1 p1
  go_enter Tryd.func7, Tryd.ntmps7
  go_wp2_with fail
  refine T.out.mono ?_
  rintro e w' ⟨va, rfl, s1, rfl⟩
  obtain ⟨a0, c0, rfl⟩ := s1.shape
  have hts := s1.len
  have S := Lib.hid s1
  clear s1
  by_cases hneg : n < 0
  · have E := Lib.hid (shl_neg (a := val B64 ts) hneg)
    go_wp2
    go_ret2
    exact ⟨_, by rw [E.out.2]; rfl, by rw [E.out.1]; exact own_nil _ _, Below.refl _ _⟩
  · obtain ⟨n, rfl⟩ : ∃ m : Nat, n = (m : Int) := ⟨n.toNat, by omega⟩
    clear hneg hn1
    have hnn : n ≤ 9223372036854775807 := by omega
    by_cases g1 : 4096 < ts.length
    · have hd : decide (4096 < ts.length) = true := decide_eq_true g1
      have E := Lib.hid (shl_long (a := val B64 ts) (n := n) (by omega) (G.out.1 g1))
      clear g1
      go_wp2_with fail
      refine (tooLong_any S.out).mono ?_
      rintro e w' ⟨rfl, rfl⟩
      go_wp2
      go_ret2
      exact ⟨_, by rw [E.out.2]; rfl, by rw [E.out.1]; exact own_nil _ _, Below.refl _ _⟩
    · have hd : decide (4096 < ts.length) = false := decide_eq_false g1
      have NB : Hid (¬ Big ≤ val B64 ts) := Lib.hid (fun h => g1 (G.out.2 h))
      have E := Lib.hid (shl_fine (n := n) NB.out)
      have g2 : ts.length ≤ 4096 := by omega
      clear g1
      go_wp2_with fail
      refine (tooLong_any S.out).mono ?_
      rintro e w' ⟨rfl, rfl⟩
      by_cases h0 : ts.length = 0
      · have hnil : ts = [] := List.eq_nil_of_length_eq_zero h0
        have hz : val B64 ts = 0 := by rw [hnil]; rfl
        have E0 : Hid (shlN (val B64 ts) (n : Int) = 0 ∧ shlE (val B64 ts) (n : Int) = 0) := Lib.hid (by rw [hz]; exact shl_zero)
        clear hz hnil
        go_wp2
        go_ret2
        exact ⟨_, by rw [E0.out.2]; rfl, by rw [E0.out.1]; exact own_nil _ _, Below.refl _ _⟩
      · have hpos : 0 < val B64 ts := pos_of_top P.out (by omega)
        have SB := Lib.hid (shl_big (a := val B64 ts) (n := n) (by omega))
        have LN := Lib.hid (len_any _ ts w S.out K.out)
        have hbl : bl (val B64 ts) ≤ 262144 := bl_le (by rw [max_bits, ← big_pow]; exact Nat.lt_of_not_le NB.out)
        have hd0 : ((ts.length : Int) == 0) = false := len_ne h0
        clear hpos
        generalize hbb : bl (val B64 ts) = bb at *
        clear hbb
        by_cases hbig : 262144 < n + bb
        · have E2 := Lib.hid (cut_big (SB.out.2 hbig))
          go_wp2_with fail
          refine LN.out.mono ?_
          rintro e w1 ⟨rfl, hb1⟩
          have B1 := Lib.hid hb1; clear hb1
          go_wp2
          go_ret2
          exact ⟨_, by rw [E.out.2, E2.out.2]; rfl, by rw [E.out.1, E2.out.1]; exact own_nil _ _, B1.out⟩
        · have E2 := Lib.hid (cut_small (Nat.lt_of_not_le fun h => hbig (SB.out.1 h)))
          obtain ⟨q, r, hqr, hr⟩ : ∃ q r, n = 64 * q + r ∧ r < 64 := ⟨n / 64, n % 64, by omega, by omega⟩
          have hdiv : (n : Int) / 64 = (q : Int) := by omega
          have hmod : (n : Int) % 64 = (r : Int) := by omega
          have hq : q ≤ 4096 := by omega
          have HQR := Lib.hid hqr
          have hn3 : n ≤ 262144 := by omega
          clear hqr
          go_wp2_with fail
          refine LN.out.mono ?_
          rintro e w1 ⟨rfl, hb1⟩
          have B1 := Lib.hid hb1; clear hb1
          obtain ⟨L, hL⟩ : ∃ L, L = q + ts.length + 1 := ⟨_, rfl⟩
          have HL := Lib.hid hL; have hLl : L ≤ 16777216 := by omega
          have hqL : q < L := by omega
          have HLQ : Hid (L - q = ts.length + 1) := Lib.hid (by omega)
          clear hL
          go_wp2_with (at_make; refine make_nat rfl _ _ rfl _ _ L rfl rfl (by have := HL.out; omega) (by have := HL.out; omega) (by omega) ?_; intro w2 hrow hb2)
          have HROW := Lib.hid hrow; have B2 := Lib.hid (below_step B1.out hb2)
          have S2 := Lib.hid (S.out.below B2.out)
          clear hrow hb2
          have hne : inBlock (.slice a0 ts.length c0) ≠ some w1.heap.size ∨ ts = [] := by
            left
            obtain ⟨b9, o9, c9, e9, _, _, hb9, _⟩ := S.out.pos (by omega)
            simp only [Value.slice.injEq] at e9
            obtain ⟨rfl, _, _⟩ := e9
            have := B1.out.size
            simp [inBlock]; omega
          have UP := Lib.hid (shiftUp_any w1.heap.size q (ts.length + 1) r (64 - r) (List.replicate L 0) ts _ w2 HROW.out (fun j => by rw [getD_replicate]; have := B64_pos; omega) S2.out K.out hne (by rw [List.length_replicate]; have := HL.out; omega) (Nat.le_refl _) (maxLen_24 (by omega)) (by omega) (by omega) (by rw [List.length_replicate]; omega))
          clear hne
          go_wp2_with fail
          rw [HLQ.out]
          refine UP.out.mono ?_
          rintro e w3 ⟨rfl, R', hr3, hg3, hu3⟩
          have hRl : R'.length = L := by rw [hu3.len, List.length_replicate]
          have hsl := hr3.sl_all (by rw [hRl]; exact hLl)
          rw [hRl] at hsl
          have HSV := Lib.hid (settle_is hsl); have hO := setV_own (base := w.heap.size) hr3 B1.out.size (Nat.le_of_eq hRl.symm) (Nat.le_refl L) (maxLen_24 (by omega)) (by rw [hRl]; omega) hu3.lim hLl
          rw [List.take_of_length_le (Nat.le_of_eq hRl)] at hO
          have HO := Lib.hid hO
          have HS3 := Lib.hid hsl; have HG3 := Lib.hid hg3; have HLM := Lib.hid hu3.lim
          have HV : Hid (val B64 R' = val B64 ts * 2 ^ n) := Lib.hid (by
            have h9 := hu3
            rw [HL.out] at h9
            rw [upAll_val h9, HQR.out, Nat.mul_comm])
          have B3 := Lib.hid (below_of_grown B2.out hg3 B1.out.size B2.out.size)
          rw [HV.out] at HO
          clear hr3 hg3 hu3 hsl hRl hO
          generalize setV (some ⟨w1.heap.size, 0, none⟩) L R' = v4 at *
          go_wp2_with fail
          refine HSV.out.mono ?_
          rintro e w4 ⟨rfl, rfl⟩
          go_wp2
          go_ret2
          exact ⟨_, by rw [E.out.2, E2.out.2]; rfl, by rw [E.out.1, E2.out.1]; exact HO.out, B3.out⟩

theorem product_own (w : World) (v : Value) (xss : List (List Nat)) (h : NatList w v xss) (hone : ∃ x, xss = [x]) (hall : ∀ x ∈ xss, Lim B64 x ∧ 0 < val B64 x ∧ val B64 x < Big) :
    Calls Tryd.prog 27 #[v] w fun e w' => ∃ v', e = .returned (.tuple #[v', .int .i64 (cutE (prodL xss))]) ∧ Own w' w.heap.size v' (cutN (prodL xss)) ∧ Below w.heap.size w w' := by
  obtain ⟨xs, rfl⟩ := hone
  obtain ⟨hx, _, hlong⟩ := hall xs (by simp)
  have hp : prodL [xs] = val B64 xs := by simp [prodL]
  rw [hp]
  obtain ⟨b, off, cap, rfl, h1, h2, h3, hc⟩ := h.pos (by simp)
  obtain ⟨u, hu, hsu⟩ := hc 0 (by simp)
  have HS := Lib.hid hsu; have HL := Lib.hid hx; have HG := Lib.hid hlong
  unfold maxLen at h2
  clear hc h hsu hx hlong hp hall
  simp only [Nat.add_zero, List.length_singleton] at *
  go_enter Tryd.func27, Tryd.ntmps27
  go_wp2_with fail
  refine (fresh_own HS.out (by simpa using HL.out)).mono ?_
  rintro e w1 ⟨v1, rfl, hn1, hb1⟩
  have HB1 := Lib.hid hb1; have HN1 := Lib.hid hn1
  clear hb1 hn1
  go_wp2
  go_ret2
  obtain ⟨e1, e2⟩ := cut_small HG.out
  exact ⟨v1, by rw [e2]; rfl, by rw [e1]; exact HN1.out, HB1.out⟩

set_option maxHeartbeats 2000000 in
set_option maxRecDepth 100000 in
theorem mul_own (w : World) (v : Value) (xss : List (List Nat)) (h : NatList w v xss) (hone : ∃ x, xss = [x]) (hall : ∀ j, Lim B64 (xss.getD j [])) :
    Calls Tryd.prog 11 #[v] w fun e w' => ∃ v', e = .returned (.tuple #[v', .int .i64 (mulE xss)]) ∧ Own w' w.heap.size v' (mulN xss) ∧ Below w.heap.size w w' := by
  have hlen := h.len
  have HNL := Lib.hid h; have HONE := Lib.hid hone
  obtain ⟨ao, cap, rfl, h1, h2, h3, h4, h5⟩ := h
  have H5 := Lib.hid h5; have HA := Lib.hid hall
  unfold maxLen at h2
  clear h3 h4 h5 hall hone
  go_enter Tryd.func11, Tryd.ntmps11
  go_wp2
  go_loop [4, 9] (fun z i => ∃ k : Nat, k ≤ xss.length ∧ i = .int .i64 k ∧ z = .bool (zeroL xss k) ∧ ¬ longL xss k) (fun _ i => xss.length - (intOf i).toNat)
  case atStart => exact ⟨0, Nat.zero_le _, rfl, rfl, fun ⟨j, hj, _⟩ => by omega⟩
  case round =>
    obtain ⟨k, hk, rfl, hzv, hnl⟩ := hrel
    have HNLO := Lib.hid hnl
    clear hnl
    by_cases hlt : k < xss.length
    · obtain ⟨b, off, rfl, hblt, hc⟩ := H5.out (by omega)
      obtain ⟨u, hu, hsu⟩ := hc k hlt
      obtain ⟨a0, c0, rfl⟩ := hsu.shape
      have hlx := HA.out k
      have HLG := Lib.hid (long_iff hlx); have HZ := Lib.hid (nil_iff (xs := xss.getD k [])); have HZS := Lib.hid (zeroL_succ hlt)
      have HSU := Lib.hid hsu
      clear hc hsu hlx
      generalize hxx : xss.getD k [] = xx at *
      have HXX := Lib.hid hxx
      clear hxx
      by_cases hlong : 4096 < (trimL xx).length
      · have hd : decide (4096 < (trimL xx).length) = true := decide_eq_true hlong
        have HL : Hid (longL xss xss.length) := Lib.hid ⟨k, hlt, by rw [HXX.out]; exact HLG.out.1 hlong⟩
        clear hlong hzv
        go_wp2_with fail
        refine (trim_any HSU.out).mono ?_
        rintro e w' ⟨v', rfl, hs', rfl⟩
        have HS' := Lib.hid hs'; clear hs'
        go_wp2_with fail
        refine (tooLong_any HS'.out).mono ?_
        rintro e w' ⟨rfl, rfl⟩
        go_wp2
        go_ret2
        exact ⟨_, by rw [show mulE xss = 5 from if_pos HL.out]; rfl, by rw [show mulN xss = 0 from if_pos HL.out]; exact own_nil _ _, Below.refl _ _⟩
      · have hd : decide (4096 < (trimL xx).length) = false := decide_eq_false hlong
        have HNL2 : Hid (¬ longL xss (k + 1)) := Lib.hid fun ⟨j, hj, hjl⟩ => by
          by_cases e : j = k
          · subst e; rw [HXX.out] at hjl; exact hlong (HLG.out.2 hjl)
          · exact HNLO.out ⟨j, by omega, hjl⟩
        have hzs := HZS.out
        subst hzv
        generalize hz0 : zeroL xss k = z at *
        have HZ0 := Lib.hid hz0
        clear hlong hz0
        by_cases hn0 : (trimL xx).length = 0
        · have hd0 := len_eq hn0
          have HZZ : Hid (zeroL xss (k + 1) = true) := Lib.hid (by rw [hzs]; simp [HZ.out.1 hn0])
          clear hn0 hzs
          cases z
          all_goals
            go_wp2_with fail
            refine (trim_any HSU.out).mono ?_
            rintro e w' ⟨v', rfl, hs', rfl⟩
            obtain ⟨a2, c2, rfl⟩ := hs'.shape
            have HS' := Lib.hid hs'; clear hs'
            go_wp2_with fail
            refine (tooLong_any HS'.out).mono ?_
            rintro e w' ⟨rfl, rfl⟩
            go_wp2
            go_round
            case rel => exact ⟨k + 1, by omega, by go_num, by rw [HZZ.out], HNL2.out⟩
            case measure => simp [intOf]; omega
        · have hd0 := len_ne hn0
          have HZZ : Hid (zeroL xss (k + 1) = z) := Lib.hid (by
            rw [hzs]
            have : ¬ val B64 xx = 0 := fun h => hn0 (HZ.out.2 h)
            simp [this])
          clear hn0 hzs
          cases z
          all_goals
            go_wp2_with fail
            refine (trim_any HSU.out).mono ?_
            rintro e w' ⟨v', rfl, hs', rfl⟩
            obtain ⟨a2, c2, rfl⟩ := hs'.shape
            have HS' := Lib.hid hs'; clear hs'
            go_wp2_with fail
            refine (tooLong_any HS'.out).mono ?_
            rintro e w' ⟨rfl, rfl⟩
            go_wp2
            go_round
            case rel => exact ⟨k + 1, by omega, by go_num, by rw [HZZ.out], HNL2.out⟩
            case measure => simp [intOf]; omega
    · have hkl : k = xss.length := by omega
      subst hzv
      have HKL := Lib.hid hkl
      have HN : Hid (¬ longL xss xss.length) := Lib.hid (by rw [← hkl]; exact HNLO.out)
      have hz1 : zeroL xss k = zeroL xss xss.length := by rw [← hkl]
      clear hkl
      generalize hz0 : zeroL xss k = z at *
      have e1 : mulE xss = cutE (prodL xss) := if_neg HN.out
      have e2 : mulN xss = cutN (prodL xss) := if_neg HN.out
      have E1 := Lib.hid e1; have E2 := Lib.hid e2; have HZ1 := Lib.hid hz1
      clear e1 e2 hz0 hz1
      cases z
      · have hall : ∀ x ∈ xss, Lim B64 x ∧ 0 < val B64 x ∧ val B64 x < Big := by
          intro x hx
          obtain ⟨j, hj, rfl⟩ := getDL_mem hx
          refine ⟨HA.out j, ?_, ?_⟩
          · have := HZ1.out
            unfold zeroL at this
            rw [List.take_length] at this
            have h0 := List.any_eq_false.1 this.symm _ hx
            exact Nat.pos_of_ne_zero fun e => h0 (by rw [e]; rfl)
          · rcases Nat.lt_or_ge (val B64 (xss.getD j [])) Big with h | h
            · exact h
            · exact absurd ⟨j, hj, h⟩ HN.out
        have HP := Lib.hid (product_own w _ xss HNL.out HONE.out hall)
        clear hall
        go_wp2_with fail
        refine HP.out.mono ?_
        rintro e w1 ⟨v1, rfl, hn1, hb1⟩
        have HN1 := Lib.hid hn1; have HB1 := Lib.hid hb1
        clear hn1 hb1
        go_wp2
        go_ret2
        exact ⟨_, by rw [E1.out]; rfl, by rw [E2.out]; exact HN1.out, HB1.out⟩
      · have hp : prodL xss = 0 := by
          have := HZ1.out
          unfold zeroL at this
          rw [List.take_length] at this
          obtain ⟨x, hx, h0⟩ := List.any_eq_true.1 this.symm
          exact prodL_zero hx (by simpa using h0)
        have hc := cut_small (n := 0) (by have := one_lt_big; omega)
        rw [← hp] at hc
        have HC := Lib.hid hc
        have HP := Lib.hid hp
        clear hc hp
        go_wp2
        go_ret2
        exact ⟨_, by rw [E1.out, HC.out.2]; rfl, by rw [E2.out, HC.out.1, HP.out]; exact own_nil _ _, Below.refl _ _⟩
end Go.Proofs.YtafeokkkbiaajabDoor
