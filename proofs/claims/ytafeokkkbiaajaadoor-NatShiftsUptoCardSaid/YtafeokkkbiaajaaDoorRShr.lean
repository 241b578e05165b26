/- tribunalref01.Shr; NatShifts. -/
import Derived.Test.YtafeokkkbiaajaaDoorRShift
namespace Go.Proofs.YtafeokkkbiaajaaDoor
open Go.RowKit Mth

theorem val_drop_any (B : Nat) (xs : List Nat) (n : Nat) : val B (xs.drop n) = xs.getD n 0 + B * val B (xs.drop (n + 1)) := by
  rcases Nat.lt_or_ge n xs.length with h | h
  · exact val_drop B xs n h
  · rw [List.drop_of_length_le h, List.drop_of_length_le (by omega), getD_ge xs n h]; simp [val]
/-- one half of a number shifted down -/
def shH (x y r : Nat) : Nat := (x + 65536 * y) / 2 ^ r % 65536
theorem shH_eq {x y W r : Nat} : (x + B16 * (y + B16 * W)) / 2 ^ r = shH x y r + B16 * ((y + B16 * W) / 2 ^ r) ∨ ¬ (x < B16 ∧ r < 16) := by
  by_cases hh : x < B16 ∧ r < 16
  · left
    obtain ⟨hx, hr⟩ := hh
    have hp : 0 < 2 ^ r := Nat.pow_pos (by omega)
    have hB : 0 < B16 := by have := B16_pos; omega
    have e1 : (x + B16 * (y + B16 * W)) / 2 ^ r / B16 = (y + B16 * W) / 2 ^ r := by
      rw [Nat.div_div_eq_div_mul, Nat.mul_comm (2 ^ r) B16, ← Nat.div_div_eq_div_mul, Nat.add_mul_div_left _ _ hB, Nat.div_eq_of_lt hx, Nat.zero_add]
    have e2 : (x + B16 * (y + B16 * W)) / 2 ^ r % B16 = shH x y r := by
      have hs : B16 = 2 ^ r * 2 ^ (16 - r) := by rw [← Nat.pow_add, show r + (16 - r) = 16 by omega]; rfl
      have e3 : x + B16 * (y + B16 * W) = x + B16 * y + 2 ^ r * (B16 * (2 ^ (16 - r) * W)) := by
        have h9 : B16 * W = 2 ^ r * (2 ^ (16 - r) * W) := by
          conv => lhs; rw [hs]
          rw [Nat.mul_assoc]
        rw [Nat.mul_add, h9, Nat.mul_left_comm B16 (2 ^ r)]
        omega
      rw [e3, Nat.add_mul_div_left _ _ hp, Nat.add_mul_mod_self_left]
      rfl
    have := Nat.mod_add_div ((x + B16 * (y + B16 * W)) / 2 ^ r) B16
    rw [e1, e2] at this
    omega
  · exact .inr hh
/-- after the halves from q to j -/
structure ShrT (hs os : List Nat) (q r j : Nat) : Prop where
  len : q + os.length = j
  lim : Lim B16 os
  eq : val B16 os + B16 ^ os.length * (val B16 (hs.drop j) / 2 ^ r) = val B16 (hs.drop q) / 2 ^ r
theorem shrT_zero (hs : List Nat) (q r : Nat) : ShrT hs [] q r q := ⟨by simp, lim_nil (by unfold B16; omega), by simp [val]⟩
theorem shrT_step {hs os : List Nat} {q r j : Nat} (h : ShrT hs os q r j) (hl : Lim B16 hs) (hr : r < 16) : ShrT hs (os ++ [shH (hs.getD j 0) (hs.getD (j + 1) 0) r]) q r (j + 1) := by
  have hlen := h.len
  refine ⟨by rw [List.length_append, List.length_singleton]; omega, lim_snoc h.lim (by unfold shH B16; omega), ?_⟩
  rw [val_snoc, List.length_append, List.length_singleton, Nat.pow_succ, Nat.mul_assoc, ← h.eq]
  have e1 := val_drop_any B16 hs j
  have e2 := val_drop_any B16 hs (j + 1)
  have e3 := shH_eq (x := hs.getD j 0) (y := hs.getD (j + 1) 0) (W := val B16 (hs.drop (j + 1 + 1))) (r := r)
  rcases e3 with e3 | e3
  · rw [← e2, ← e1] at e3
    rw [e3, Nat.mul_add]
    omega
  · exact absurd ⟨hl j, hr⟩ e3
theorem shrT_end {hs os : List Nat} {q r : Nat} (h : ShrT hs os q r hs.length) : val B16 os = val B16 (hs.drop q) / 2 ^ r := by
  have := h.eq
  rw [List.drop_of_length_le (Nat.le_refl _)] at this
  simpa [val] using this

/-- what Shr answers, behind a name -/
structure ShrIs (a : Nat) (n : Int) (N : Nat) (ER : Int) : Prop where
  rn : shrN a n = N
  re : shrE a n = ER
theorem ShrIs.neg {a N : Nat} {n ER : Int} (h : ShrIs a n N ER) (hn : n < 0) : N = 0 ∧ ER = 1 := by
  rw [← h.rn, ← h.re]; exact shr_neg hn
theorem ShrIs.long {a N : Nat} {n ER : Int} (h : ShrIs a n N ER) (hn : ¬ n < 0) (h2 : Big ≤ a) : N = 0 ∧ ER = 5 := by
  rw [← h.rn, ← h.re]; exact shr_long hn h2
theorem ShrIs.fine {a N n : Nat} {ER : Int} (h : ShrIs a (n : Int) N ER) (h2 : ¬ Big ≤ a) : N = a / 2 ^ n ∧ ER = 0 := by
  rw [← h.rn, ← h.re]; exact shr_fine h2
theorem u32_or16 {x y : Nat} (hx : x < B16) (hy : y < B16) : bits BinOp.or IntKind.u32 (x : Int) (((65536 * y : Nat) : Int)) = ((x + 65536 * y : Nat) : Int) := by
  unfold B16 at *
  rw [u32_or_nat _ _ (by omega) (by omega)]
  congr 1
  rw [Nat.or_comm, show 65536 * y = 2 ^ 16 * y from rfl, ← Nat.two_pow_add_eq_or_of_lt (by omega : x < 2 ^ 16)]
  omega
theorem own_drawn {w : World} {base e n m : Nat} {v : Value} {xs : List Value} (h : w.ownsRow base e n v m xs) (k : Nat) : (w.drewN k).ownsRow base e n v m xs := h
/-- what Shr's loop holds -/
def RShrO (w wr : World) (hs : List Nat) (q r : Nat) (v i : Value) : Prop := ∃ (j : Nat) (os : List Nat), j ≤ hs.length ∧ i = .int .i64 j ∧ ShrT hs os q r j ∧ wr.ownsRow w.heap.size 66 1 v os.length (cellsOf .u32 os) ∧ Below w.heap.size w wr

set_option maxHeartbeats 2000000 in
set_option maxRecDepth 100000 in
theorem rshr_at (v : Value) (xs : List Nat) (n : Int) (w : World) (h : Sl w .u64 v xs) (hl : Lim B64 xs) (hx : xs.length ≤ 1048576) (hn : -9223372036854775808 ≤ n ∧ n ≤ 9223372036854775807) (a N : Nat) (ER : Int) (ha : val B64 xs = a) (HK : ShrIs a n N ER) :
    Calls Tryd.prog 40 #[v, .int .i64 n] w fun e w' => ∃ v', e = .returned (.tuple #[v', .int .i64 ER]) ∧ Num w' v' N ∧ Below w.heap.size w w' := by
  obtain ⟨hn1, hn2⟩ := hn
  obtain ⟨a0, c0, rfl⟩ := h.shape
  have H := Lib.hid h; have HL := Lib.hid hl; have HX := Lib.hid hx
  have NL := Lib.hid (natList_one h)
  have LG := Lib.hid (long_any _ [xs] _ NL.out (fun j => by
    match j with
    | 0 => exact hl
    | j + 1 => exact lim_nil (by have := B64_pos; omega)) (fun j => by
    match j with
    | 0 => show xs.length ≤ 4000000; omega
    | j + 1 => simp))
  have hlb := longB_one xs
  rw [ha] at hlb
  have LB := Lib.hid hlb; have HA := Lib.hid ha
  clear h hl hx ha hlb
  by_cases hneg : n < 0
  · have E := Lib.hid (HK.neg hneg)
    go_enter Tryd.func40, Tryd.ntmps40
    go_wp2
    go_ret2
    exact ⟨_, by rw [E.out.2]; rfl, by rw [E.out.1]; exact num_nil _, Below.refl _ _⟩
  · obtain ⟨n, rfl⟩ : ∃ m : Nat, n = (m : Int) := ⟨n.toNat, by omega⟩
    clear hneg hn1
    have hnn : n ≤ 9223372036854775807 := by omega
    have hnd : decide ((n : Int) < 0) = false := decide_eq_false (by omega)
    have hHK := HK
    clear HK
    have HK := Lib.hid hHK
    clear hHK
    go_enter Tryd.func40, Tryd.ntmps40
    go_wp2_with fail
    refine LG.out.mono ?_
    rintro e w1 ⟨rfl, hb1⟩
    have B1 : Hid (Below w.heap.size w w1) := Lib.hid (((Below.refl _ _).alloc (Nat.le_refl _) _).trans (hb1.mono (by simp)))
    clear hb1
    rw [show [xs].length = 1 from rfl, LB.out]
    by_cases hbig : Big ≤ a
    · have hd : decide (Big ≤ a) = true := decide_eq_true hbig
      have E := Lib.hid (HK.out.long (by omega) hbig)
      rw [hd]
      clear hd hbig
      go_wp2
      go_ret2
      exact ⟨_, by rw [E.out.2]; rfl, by rw [E.out.1]; exact num_nil _, B1.out⟩
    · have hd : decide (Big ≤ a) = false := decide_eq_false hbig
      have E := Lib.hid (HK.out.fine hbig)
      have NB := Lib.hid hbig
      rw [hd]
      clear hd hbig
      have FR := Lib.hid (from_any _ xs w1 (H.out.below B1.out) HL.out (by have := HX.out; omega))
      rw [HA.out] at FR
      obtain ⟨q, r, hqr, hr⟩ : ∃ q r, n = 16 * q + r ∧ r < 16 := ⟨n / 16, n % 16, by omega, by omega⟩
      have hdiv : (n : Int) / 16 = (q : Int) := by omega
      have hmod : (n : Int) % 16 = (r : Int) := by omega
      have HQR := Lib.hid hqr
      have hq : q ≤ 9223372036854775807 := by omega
      clear hqr
      go_wp2_with fail
      refine FR.out.mono ?_
      rintro e w2 ⟨v2, rfl, hn2, hb2⟩
      obtain ⟨ys, s2, l2, t2, e2⟩ := hn2
      have B2 := Lib.hid (below_step B1.out hb2)
      have hyl : ys.length ≤ 16384 := by
        have h9 := length_of_val B16_pos t2 (4 * maxL) (by rw [e2, b16_big]; exact Nat.lt_of_not_le NB.out)
        unfold maxL at h9; omega
      obtain ⟨a2, c2, rfl⟩ := s2.shape
      have S2 := Lib.hid s2; have L2 := Lib.hid l2; have T2 := Lib.hid t2; have E2 := Lib.hid e2
      clear s2 l2 t2 e2 hb2
      by_cases hfar : ys.length ≤ q
      · have EZ : Hid (a / 2 ^ n = 0) := Lib.hid (by
          rw [← E2.out]
          exact shr_far L2.out (by
            have : B16 = 2 ^ 16 := rfl
            rw [this, ← Nat.pow_mul]
            exact Nat.pow_le_pow_right (by omega) (by have := HQR.out; omega)))
        go_wp2
        go_ret2
        exact ⟨_, by rw [E.out.2]; rfl, by rw [E.out.1, EZ.out]; exact num_nil _, B2.out⟩
      · have hql : q < ys.length := by omega
        have hq2 : q ≤ 16384 := by omega
        obtain ⟨b, off, cap, e9, hc1, hc2, hb, hcell⟩ := S2.out.pos (by omega)
        simp only [Value.slice.injEq, true_and] at e9
        obtain ⟨rfl, rfl⟩ := e9
        unfold maxLen at hc2
        have HC := Lib.hid hcell
        have hfd : decide (ys.length ≤ q) = false := decide_eq_false hfar
        clear hcell hfar
        go_wp2
        go_loopw [7, 8] (fun v i wr => RShrO w2 wr ys q r v i) (fun _ i _ => ys.length - (intOf i).toNat)
        case atStart => exact ⟨q, [], by omega, rfl, shrT_zero ys q r, World.ownsRow_nil _ _ _ _, Below.refl _ _⟩
        case round =>
          obtain ⟨j, os, hj, rfl, hT, hown, hbel⟩ := hrel
          have HO := Lib.hid hown; have HB := Lib.hid hbel; have HT := Lib.hid hT
          by_cases hlt : j < ys.length
          · have hcx : wr.cell? ⟨b, off + j, none⟩ = some (.int .u32 ((ys.getD j 0 : Nat) : Int)) := (hbel.cell (p := ⟨b, off + j, none⟩) hb).trans (HC.out j hlt)
            have hLB : ∀ nq, Calls Tryd.prog 71 #[.slice (some ⟨b, off, none⟩) ys.length c2, .int .i64 ((j + 1 : Nat) : Int)] (wr.drewN nq) fun e w' => e = .returned (.int .u32 ((ys.getD (j + 1) 0 : Nat) : Int)) ∧ w' = wr.drewN nq :=
              fun nq => (limb_any _ ys (j + 1) _ (S2.out.below (bdrawn hbel _)) (by omega)).mono fun e w' ⟨h1, h2⟩ => ⟨h1, h2.symm⟩
            have HST := Lib.hid (shrT_step hT L2.out hr)
            have hxb := L2.out j
            have hyb := L2.out (j + 1)
            have hol := hT.len
            have hsum : IntKind.i64.wrap ((j : Int) + 1) = ((j + 1 : Nat) : Int) := by rw [IntKind.wrap_i64]; omega
            generalize ys.getD j 0 = x at *
            generalize ys.getD (j + 1) 0 = y at *
            have hor : bits BinOp.or IntKind.u32 (x : Int) ((y : Int) * 65536) = ((x + 65536 * y : Nat) : Int) := by
              have h9 := u32_or16 hxb hyb
              rw [Int.natCast_mul, Int.mul_comm] at h9
              exact h9
            have hand : bits BinOp.and IntKind.u32 (((x + 65536 * y : Nat) : Int) / 2 ^ r) 65535 = ((shH x y r : Nat) : Int) := by
              have hlt9 : (x + 65536 * y) / 2 ^ r < 4294967296 := Nat.lt_of_le_of_lt (Nat.div_le_self _ _) (by unfold B16 at hxb hyb; omega)
              rw [shr_u64]
              unfold shH
              generalize (x + 65536 * y) / 2 ^ r = g at *
              have h9 := and_hf g
              rw [Int.emod_eq_of_lt (by omega) (by omega)] at h9
              exact h9
            generalize x + 65536 * y = s at *
            generalize shH x y r = sh at *
            generalize hz : j + 1 = z at *
            have HZ := Lib.hid hz; have HLB := Lib.hid hLB; have HOL := Lib.hid hol; have HXB := Lib.hid hxb; have HYB := Lib.hid hyb
            unfold B16 at hxb hyb
            have hjz : z ≤ 16385 := by omega
            clear hz hLB hT hown hbel hol
            go_wp2
            go_quiet ((go_at_call 71; exact Calls.quiet_of_same (HLB.out _)))
            go_wp2_with (refine append_half (o := ⟨some 48, _, _, _, _, _⟩) rfl _ _ rfl w2.heap.size _ os sh ⟨wr.heap.size, 0, none⟩ rfl rfl ((own_drawn HO.out _).alloc _) (World.cell?_alloc_new _ _ _ _) (by have := HOL.out; omega) (by have := HB.out.size; simp; omega) ?_; intro v' w5 hown5 hg5)
            have HO5 := Lib.hid hown5
            have hg6 : World.grownBy _ w5 (Value.ownBlock u7) := hg5
            have HB5 := Lib.hid (below_own ((bdrawn HB.out _).alloc (bdrawn HB.out _).size _) ((own_drawn HO.out _).alloc _) hg6 (by have := HB.out.size; simp; omega))
            clear hown5 hg5 hg6
            go_wp2
            go_roundw
            case rel => exact ⟨z, _, by have := HZ.out; omega, by have := HZ.out; go_num, HST.out, HO5.out, HB5.out⟩
            case measure => have := HZ.out; simp [intOf]; omega
          · obtain rfl : j = ys.length := by omega
            have HV : Hid (val B16 os = a / 2 ^ n) := Lib.hid (by
              rw [shrT_end hT]
              have hB : B16 = 2 ^ 16 := rfl
              have hK := L2.out
              have he := E2.out
              rw [hB] at hK he ⊢
              rw [val_shr hK (by omega) HQR.out, he])
            have HSL := Lib.hid (sl_own hown (by have := hT.len; omega))
            have HLM := Lib.hid hT.lim
            clear hT hown hbel
            go_wp2_with fail
            refine (to_pos _ os _ HSL.out HLM.out).mono ?_
            rintro e w6 ⟨v6, rfl, hn6, hb6⟩
            rw [HV.out] at hn6
            have B6 := Lib.hid (below_step (below_step B2.out HB.out) hb6); have N6 := Lib.hid hn6; clear hn6 hb6
            go_wp2
            go_ret2
            exact ⟨_, by rw [E.out.2]; rfl, by rw [E.out.1]; exact N6.out, B6.out⟩
theorem rshr_any (v : Value) (xs : List Nat) (n : Int) (w : World) (h : Sl w .u64 v xs) (hl : Lim B64 xs) (hx : xs.length ≤ 1048576) (hn : -9223372036854775808 ≤ n ∧ n ≤ 9223372036854775807) :
    Calls Tryd.prog 40 #[v, .int .i64 n] w fun e w' => ∃ v', e = .returned (.tuple #[v', .int .i64 (shrE (val B64 xs) n)]) ∧ Num w' v' (shrN (val B64 xs) n) ∧ Below w.heap.size w w' :=
  rshr_at v xs n w h hl hx hn _ _ _ rfl ⟨rfl, rfl⟩

set_option maxRecDepth 100000 in
theorem shifts_walk (w : World) (v : Value) (xs : List Nat) (n : Int) (hz : TZ w) (h : Sl w .u64 v xs) (hl : Lim B64 xs) (hx : xs.length ≤ 1048576) (hn1 : -9223372036854775808 ≤ n) (hn2 : n ≤ 9223372036854775807) :
    Calls Tryd.prog 9 #[v, .int .i64 n] w fun e w' => e = .returned (.bool true) ∧ Below w.heap.size w w' := by
  have HZ := Lib.hid hz; have HH := Lib.hid h; have HL := Lib.hid hl; have HX := Lib.hid hx; have HN := Lib.hid (And.intro hn1 hn2)
  clear hz h hl hx
  go_enter Tryd.func9, Tryd.ntmps9
  go_wp2_with fail
  refine (shl_any _ xs n _ HH.out HL.out HN.out).mono ?_
  rintro e w1 ⟨v1, rfl, m1, hb1⟩
  have B1 := Lib.hid hb1; have N1 := Lib.hid m1; clear hb1 m1
  go_wp2_with fail
  refine (rshl_any _ xs n _ (HH.out.below B1.out) HL.out HX.out HN.out).mono ?_
  rintro e w2 ⟨v2, rfl, m2, hb2⟩
  have B2 := Lib.hid (below_step B1.out hb2); have N2 := Lib.hid m2; have N1a := Lib.hid (N1.out.below hb2); clear hb2 m2 N1
  generalize shlE (val B64 xs) n = ev at *
  have hev : (ev == ev) = true := by simp
  go_wp2_with fail
  refine (shr_any _ xs n _ (HH.out.below B2.out) HL.out HN.out).mono ?_
  rintro e w3 ⟨v3, rfl, m3, hb3⟩
  have B3 := Lib.hid (below_step B2.out hb3); have N3 := Lib.hid m3; have N1b := Lib.hid (N1a.out.below hb3); have N2b := Lib.hid (N2.out.below hb3); clear hb3 m3 N1a N2
  go_wp2_with fail
  refine (rshr_any _ xs n _ (HH.out.below B3.out) HL.out HX.out HN.out).mono ?_
  rintro e w4 ⟨v4, rfl, m4, hb4⟩
  have B4 := Lib.hid (below_step B3.out hb4); have N4 := Lib.hid m4; have N1c := Lib.hid (N1b.out.below hb4); have N2c := Lib.hid (N2b.out.below hb4); have N3a := Lib.hid (N3.out.below hb4); clear hb4 m4 N1b N2b N3
  generalize shrE (val B64 xs) n = ew at *
  have hew : (ew == ew) = true := by simp
  go_wp2_with fail
  refine (same_any _ _ _ _ N1c.out N2c.out).mono ?_
  rintro e w5 ⟨rfl, hb5⟩
  have B5 := Lib.hid (below_step B4.out hb5); have N3b := Lib.hid (N3a.out.below hb5); have N4b := Lib.hid (N4.out.below hb5); clear hb5
  go_wp2_with fail
  refine (same_any _ _ _ _ N3b.out N4b.out).mono ?_
  rintro e w6 ⟨rfl, hb6⟩
  have B6 := Lib.hid (below_step B5.out hb6); clear hb6
  go_wp2_with fail
  refine (alive_any _ (HZ.out.below B6.out)).mono ?_
  rintro e w7 ⟨rfl, hb7⟩
  have B7 := Lib.hid (below_step B6.out hb7); clear hb7
  go_wp2
  go_ret
  exact ⟨rfl, B7.out⟩
end Go.Proofs.YtafeokkkbiaajaaDoor
