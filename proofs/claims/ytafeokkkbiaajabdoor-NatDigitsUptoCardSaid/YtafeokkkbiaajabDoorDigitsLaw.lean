/- NatDigits: the law's own walk. -/
import Derived.Test.YtafeokkkbiaajabDoorShl
import Derived.Test.YtafeokkkbiaajabDoorAlive
namespace Go.Proofs.YtafeokkkbiaajabDoor
open Go.RowKit Mth

theorem bit_is (v : Value) (xs : List Nat) (i : Int) (w : World) (b : Bool) (hb : bitI (val B64 xs) i = b) (h : Sl w .u64 v xs) (hl : Lim B64 xs) (h1 : -9223372036854775808 ≤ i) (h2 : i ≤ 9223372036854775807) :
    Calls Tryd.prog 6 #[v, .int .i64 i] w fun e w' => e = .returned (.bool b) ∧ Below w.heap.size w w' := by
  subst hb; exact bit_any v xs i w h hl h1 h2
theorem bitI_nat (a i : Nat) : bitI a (i : Int) = bitN a i := by
  unfold bitI; rw [decide_eq_true (by omega), Bool.true_and, Int.toNat_natCast]
theorem bitN_top {a : Nat} (h : 0 < bl a) : bitI a ((bl a : Nat) - 1 : Int) = true := by
  have h0 : a ≠ 0 := fun e => by rw [e, bl_zero] at h; omega
  obtain ⟨m, e, h1, h2⟩ := bl_spec h0
  rw [show ((bl a : Nat) - 1 : Int) = ((m : Nat) : Int) by omega, bitI_nat]
  unfold bitN
  rw [Nat.pow_succ] at h2
  have h3 : a / 2 ^ m = 1 := Nat.div_eq_of_lt_le (by omega) (by omega)
  rw [h3]; rfl
theorem bitN_over (a : Nat) : bitI a ((bl a : Nat) : Int) = false := by
  rw [bitI_nat]
  unfold bitN
  have h : a < 2 ^ bl a := by
    by_cases h0 : a = 0
    · rw [h0, bl_zero]; decide
    · obtain ⟨m, e, h1, h2⟩ := bl_spec h0
      rw [e]; exact h2
  rw [Nat.div_eq_of_lt h]; rfl
theorem bitI_neg (a : Nat) : bitI a (-1) = false := rfl
theorem bitN_up (a n j : Nat) : bitN (a * 2 ^ n) (j + n) = bitN a j := by
  unfold bitN
  rw [Nat.pow_add, Nat.mul_div_mul_right _ _ (Nat.pow_pos (by omega))]
theorem bitN_down (a n j : Nat) : bitN (a / 2 ^ n) j = bitN a (j + n) := by
  unfold bitN
  rw [Nat.div_div_eq_div_mul, ← Nat.pow_add, Nat.add_comm n j]
theorem bitN_under {a n j : Nat} (h : j < n) : bitN (a * 2 ^ n) j = false := by
  unfold bitN
  obtain ⟨d, rfl⟩ : ∃ d, n = j + (d + 1) := ⟨n - j - 1, by omega⟩
  rw [Nat.pow_add, ← Nat.mul_assoc, Nat.mul_right_comm, Nat.mul_div_cancel _ (Nat.pow_pos (by omega)), Nat.pow_succ, ← Nat.mul_assoc]
  simp
theorem bl_up {a n : Nat} (h : bl a ≠ 0) : bl (a * 2 ^ n) = bl a + n := by
  have h0 : a ≠ 0 := fun e => by rw [e, bl_zero] at h; omega
  obtain ⟨m, e, h1, h2⟩ := bl_spec h0
  rw [e, show m + 1 + n = m + n + 1 by omega]
  refine bl_uniq ?_ ?_
  · rw [Nat.pow_add]; exact Nat.mul_le_mul_right _ h1
  · rw [show m + n + 1 = m + 1 + n by omega, Nat.pow_add]; exact Nat.mul_lt_mul_of_pos_right h2 (Nat.pow_pos (by omega))
theorem len_is (v : Value) (xs : List Nat) (w : World) (k : Nat) (hk : bl (val B64 xs) = k) (h : Sl w .u64 v xs) (hl : Lim B64 xs) :
    Calls Tryd.prog 5 #[v] w fun e w' => e = .returned (.int .i64 ((k : Nat) : Int)) ∧ Below w.heap.size w w' := by
  subst hk; exact len_any v xs w h hl
theorem shl_is (v : Value) (xs : List Nat) (n : Int) (w : World) (N : Nat) (E : Int) (hN : shlN (val B64 xs) n = N) (hE : shlE (val B64 xs) n = E) (h : Sl w .u64 v xs) (hl : Lim B64 xs) (hn : -9223372036854775808 ≤ n ∧ n ≤ 9223372036854775807) :
    Calls Tryd.prog 7 #[v, .int .i64 n] w fun e w' => ∃ v', e = .returned (.tuple #[v', .int .i64 E]) ∧ Num w' v' N ∧ Below w.heap.size w w' := by
  subst hN; subst hE; exact shl_any v xs n w h hl hn
theorem shr_is (v : Value) (xs : List Nat) (n : Int) (w : World) (N : Nat) (E : Int) (hN : shrN (val B64 xs) n = N) (hE : shrE (val B64 xs) n = E) (h : Sl w .u64 v xs) (hl : Lim B64 xs) (hn : -9223372036854775808 ≤ n ∧ n ≤ 9223372036854775807) :
    Calls Tryd.prog 8 #[v, .int .i64 n] w fun e w' => ∃ v', e = .returned (.tuple #[v', .int .i64 E]) ∧ Num w' v' N ∧ Below w.heap.size w w' := by
  subst hN; subst hE; exact shr_any v xs n w h hl hn

set_option maxHeartbeats 2000000 in
set_option maxRecDepth 100000 in
theorem digits_walk (w : World) (v : Value) (xs : List Nat) (n j : Nat) (hz : TZ w) (h : Sl w .u64 v xs) (hl : Lim B64 xs) (hx : xs.length ≤ 1048576) (hn : (n : Int) ≤ 255) (hj : (j : Int) ≤ 65535) :
    Calls Tryd.prog 3 #[v, .int .u8 ((n : Nat) : Int), .int .u16 ((j : Nat) : Int)] w fun e w' => e = .returned (.bool true) ∧ Below w.heap.size w w' := by
  have HZ := Lib.hid hz; have HH := Lib.hid h; have HL := Lib.hid hl
  have hkb0 : bl (val B64 xs) ≤ 64 * xs.length := bl_le (by
    have h1 := val_lt hl
    have h2 : B64 = 2 ^ 64 := rfl
    rw [h2, ← Nat.pow_mul] at h1
    exact h1)
  have hkb : bl (val B64 xs) ≤ 67108864 := by omega
  clear hkb0
  have HK1 : Hid (0 < bl (val B64 xs) → bitI (val B64 xs) ((bl (val B64 xs) : Nat) - 1 : Int) = true) := Lib.hid bitN_top
  have HK2 := Lib.hid (bitN_over (val B64 xs)); have HK3 := Lib.hid (bitI_neg (val B64 xs))
  have HK4 := Lib.hid (fun h => bl_up (a := val B64 xs) (n := n) h)
  clear hz h hl hx
  generalize hk : bl (val B64 xs) = k at *
  have HK := Lib.hid hk
  clear hk
  go_enter Tryd.func3, Tryd.ntmps3
  go_wp2_with fail
  refine (len_is _ xs _ k HK.out HH.out HL.out).mono ?_
  rintro e w1 ⟨rfl, hb1⟩
  have B1 := Lib.hid hb1; clear hb1
  by_cases hk0 : 0 < k
  · have K1 := Lib.hid (HK1.out hk0)
    go_wp2_with fail
    refine (bit_is _ xs _ _ true K1.out (HH.out.below B1.out) HL.out (by omega) (by omega)).mono ?_
    rintro e w2 ⟨rfl, hb2⟩
    have B2 := Lib.hid (below_step B1.out hb2); clear hb2
    go_wp2_with fail
    refine (bit_is _ xs _ _ false HK2.out (HH.out.below B2.out) HL.out (by omega) (by omega)).mono ?_
    rintro e w3 ⟨rfl, hb3⟩
    have B3 := Lib.hid (below_step B2.out hb3); clear hb3
    go_wp2_with fail
    refine (bit_is _ xs _ _ false HK3.out (HH.out.below B3.out) HL.out (by omega) (by omega)).mono ?_
    rintro e w4 ⟨rfl, hb4⟩
    have B4 := Lib.hid (below_step B3.out hb4); clear hb4
    by_cases hbig : Big ≤ val B64 xs
    · have C1 : Hid (shlN (val B64 xs) (n : Int) = 0 ∧ shlE (val B64 xs) (n : Int) = 5) := Lib.hid (shl_long (by omega) hbig)
      have C2 : Hid (shrN (val B64 xs) (n : Int) = 0 ∧ shrE (val B64 xs) (n : Int) = 5) := Lib.hid (shr_long (by omega) hbig)
      clear hbig
      go_wp2_with fail
      refine (shl_is _ xs _ _ 0 5 C1.out.1 C1.out.2 (HH.out.below B4.out) HL.out (by omega)).mono ?_
      rintro e w5 ⟨v5, rfl, hn5, hb5⟩
      have B5 := Lib.hid (below_step B4.out hb5)
      clear hb5 hn5
      go_wp2_with fail
      refine (shr_is _ xs _ _ 0 5 C2.out.1 C2.out.2 (HH.out.below B5.out) HL.out (by omega)).mono ?_
      rintro e w6 ⟨v6, rfl, hn6, hb6⟩
      have B6 := Lib.hid (below_step B5.out hb6)
      clear hb6 hn6
      go_wp2_with fail
      refine (alive_any _ (HZ.out.below B6.out)).mono ?_
      rintro e w7 ⟨rfl, hb7⟩
      have B7 := Lib.hid (below_step B6.out hb7); clear hb7
      go_wp2
      go_ret
      exact ⟨rfl, B7.out⟩
    · have C2 : Hid (shrN (val B64 xs) (n : Int) = val B64 xs / 2 ^ n ∧ shrE (val B64 xs) (n : Int) = 0) := Lib.hid (shr_fine hbig)
      have C3 := Lib.hid (shl_fine (n := n) hbig)
      clear hbig
      by_cases hbig : Big ≤ val B64 xs * 2 ^ n
      · have C1 : Hid (shlN (val B64 xs) (n : Int) = 0 ∧ shlE (val B64 xs) (n : Int) = 5) := Lib.hid (by rw [C3.out.1, C3.out.2]; exact cut_big hbig)
        clear hbig
        go_wp2_with fail
        refine (shl_is _ xs _ _ 0 5 C1.out.1 C1.out.2 (HH.out.below B4.out) HL.out (by omega)).mono ?_
        rintro e w5 ⟨v5, rfl, hn5, hb5⟩
        have B5 := Lib.hid (below_step B4.out hb5)
        clear hb5 hn5
        go_wp2_with fail
        refine (shr_is _ xs _ _ _ 0 C2.out.1 C2.out.2 (HH.out.below B5.out) HL.out (by omega)).mono ?_
        rintro e w6 ⟨v6, rfl, hn6, hb6⟩
        have B6 := Lib.hid (below_step B5.out hb6)
        clear hb6 hn6
        go_wp2_with fail
        refine (alive_any _ (HZ.out.below B6.out)).mono ?_
        rintro e w7 ⟨rfl, hb7⟩
        have B7 := Lib.hid (below_step B6.out hb7); clear hb7
        go_wp2
        go_ret
        exact ⟨rfl, B7.out⟩
      · have C1 : Hid (shlN (val B64 xs) (n : Int) = val B64 xs * 2 ^ n ∧ shlE (val B64 xs) (n : Int) = 0) := Lib.hid (by rw [C3.out.1, C3.out.2]; exact cut_small (Nat.lt_of_not_le hbig))
        clear hbig
        go_wp2_with fail
        refine (shl_is _ xs _ _ _ 0 C1.out.1 C1.out.2 (HH.out.below B4.out) HL.out (by omega)).mono ?_
        rintro e w5 ⟨v5, rfl, hn5, hb5⟩
        have B5 := Lib.hid (below_step B4.out hb5)
        obtain ⟨bs, sb, lb, _, vb⟩ := hn5
        have SB := Lib.hid sb; have LB := Lib.hid lb; have VB := Lib.hid vb
        clear hb5 sb lb vb
        go_wp2_with fail
        refine (shr_is _ xs _ _ _ 0 C2.out.1 C2.out.2 (HH.out.below B5.out) HL.out (by omega)).mono ?_
        rintro e w6 ⟨v6, rfl, hn6, hb6⟩
        have B6 := Lib.hid (below_step B5.out hb6)
        obtain ⟨cs, sc, lc, _, vc⟩ := hn6
        have SB2 := Lib.hid (SB.out.below hb6); have SC := Lib.hid sc; have LC := Lib.hid lc; have VC := Lib.hid vc
        clear hb6 sc lc vc SB
        have F1 : Hid (bitI (val B64 bs) ((j : Int) + (n : Int)) = bitN (val B64 xs) j) := Lib.hid (by rw [VB.out, ← Int.natCast_add, bitI_nat, bitN_up])
        have F2 : Hid (bitI (val B64 xs) (j : Int) = bitN (val B64 xs) j) := Lib.hid (bitI_nat _ _)
        have F3 : Hid (bitI (val B64 cs) (j : Int) = bitN (val B64 xs) (j + n)) := Lib.hid (by rw [VC.out, bitI_nat, bitN_down])
        have F4 : Hid (bitI (val B64 xs) ((j : Int) + (n : Int)) = bitN (val B64 xs) (j + n)) := Lib.hid (by rw [← Int.natCast_add, bitI_nat])
        have F5 : Hid (j < n → bitI (val B64 bs) (j : Int) = false) := Lib.hid (fun h => by rw [VB.out, bitI_nat, bitN_under h])
        have F6 : Hid (k ≠ 0 → bl (val B64 bs) = k + n) := Lib.hid (fun h => by rw [VB.out]; exact HK4.out h)
        generalize bitN (val B64 xs) j = p at *
        generalize bitN (val B64 xs) (j + n) = q at *
        have hpp : (p == p) = true := by cases p <;> rfl
        have hqq : (q == q) = true := by cases q <;> rfl
        have BB := Lib.hid (Below.refl w6.heap.size w6)
        go_wp2_with fail
        refine (bit_is _ bs _ _ p F1.out SB2.out LB.out (by omega) (by omega)).mono ?_
        rintro e w7 ⟨rfl, hb7⟩
        have D1 := Lib.hid (below_step BB.out hb7); have B7 := Lib.hid (below_step B6.out hb7); clear hb7
        go_wp2_with fail
        refine (bit_is _ xs _ _ p F2.out (HH.out.below B7.out) HL.out (by omega) (by omega)).mono ?_
        rintro e w8 ⟨rfl, hb8⟩
        have B8 := Lib.hid (below_step B7.out hb8); have D2 := Lib.hid (below_step D1.out hb8); clear hb8
        go_wp2_with fail
        refine (bit_is _ cs _ _ q F3.out (SC.out.below D2.out) LC.out (by omega) (by omega)).mono ?_
        rintro e w9 ⟨rfl, hb9⟩
        have D3 := Lib.hid (below_step D2.out hb9); have B9 := Lib.hid (below_step B8.out hb9); clear hb9
        go_wp2_with fail
        refine (bit_is _ xs _ _ q F4.out (HH.out.below B9.out) HL.out (by omega) (by omega)).mono ?_
        rintro e w10 ⟨rfl, hb10⟩
        have B10 := Lib.hid (below_step B9.out hb10); have D4 := Lib.hid (below_step D3.out hb10); clear hb10
        by_cases hjn : j < n
        · have F5' := Lib.hid (F5.out hjn)
          go_wp2_with fail
          refine (bit_is _ bs _ _ false F5'.out (SB2.out.below D4.out) LB.out (by omega) (by omega)).mono ?_
          rintro e w11 ⟨rfl, hb11⟩
          have D5 := Lib.hid (below_step D4.out hb11); have B11 := Lib.hid (below_step B10.out hb11); clear hb11
          go_wp2_with fail
          refine (len_is _ bs _ (k + n) (F6.out (by omega)) (SB2.out.below D5.out) LB.out).mono ?_
          rintro e w12 ⟨rfl, hb12⟩
          have B12 := Lib.hid (below_step B11.out hb12); clear hb12
          go_wp2_with fail
          refine (alive_any _ (HZ.out.below B12.out)).mono ?_
          rintro e w13 ⟨rfl, hb13⟩
          have B13 := Lib.hid (below_step B12.out hb13); clear hb13
          go_wp2
          go_ret
          exact ⟨rfl, B13.out⟩
        · have hjn' : n ≤ j := by omega
          go_wp2_with fail
          refine (len_is _ bs _ (k + n) (F6.out (by omega)) (SB2.out.below D4.out) LB.out).mono ?_
          rintro e w11 ⟨rfl, hb11⟩
          have B11 := Lib.hid (below_step B10.out hb11); clear hb11
          go_wp2_with fail
          refine (alive_any _ (HZ.out.below B11.out)).mono ?_
          rintro e w12 ⟨rfl, hb12⟩
          have B12 := Lib.hid (below_step B11.out hb12); clear hb12
          go_wp2
          go_ret
          exact ⟨rfl, B12.out⟩
  · obtain rfl : k = 0 := by omega
    go_wp2_with fail
    refine (bit_is _ xs _ _ false HK2.out (HH.out.below B1.out) HL.out (by omega) (by omega)).mono ?_
    rintro e w2 ⟨rfl, hb2⟩
    have B2 := Lib.hid (below_step B1.out hb2); clear hb2
    go_wp2_with fail
    refine (bit_is _ xs _ _ false HK3.out (HH.out.below B2.out) HL.out (by omega) (by omega)).mono ?_
    rintro e w3 ⟨rfl, hb3⟩
    have B3 := Lib.hid (below_step B2.out hb3); clear hb3
    by_cases hbig : Big ≤ val B64 xs
    · have C1 : Hid (shlN (val B64 xs) (n : Int) = 0 ∧ shlE (val B64 xs) (n : Int) = 5) := Lib.hid (shl_long (by omega) hbig)
      have C2 : Hid (shrN (val B64 xs) (n : Int) = 0 ∧ shrE (val B64 xs) (n : Int) = 5) := Lib.hid (shr_long (by omega) hbig)
      clear hbig
      go_wp2_with fail
      refine (shl_is _ xs _ _ 0 5 C1.out.1 C1.out.2 (HH.out.below B3.out) HL.out (by omega)).mono ?_
      rintro e w4 ⟨v4, rfl, hn4, hb4⟩
      have B4 := Lib.hid (below_step B3.out hb4)
      clear hb4 hn4
      go_wp2_with fail
      refine (shr_is _ xs _ _ 0 5 C2.out.1 C2.out.2 (HH.out.below B4.out) HL.out (by omega)).mono ?_
      rintro e w5 ⟨v5, rfl, hn5, hb5⟩
      have B5 := Lib.hid (below_step B4.out hb5)
      clear hb5 hn5
      go_wp2_with fail
      refine (alive_any _ (HZ.out.below B5.out)).mono ?_
      rintro e w6 ⟨rfl, hb6⟩
      have B6 := Lib.hid (below_step B5.out hb6); clear hb6
      go_wp2
      go_ret
      exact ⟨rfl, B6.out⟩
    · have C2 : Hid (shrN (val B64 xs) (n : Int) = val B64 xs / 2 ^ n ∧ shrE (val B64 xs) (n : Int) = 0) := Lib.hid (shr_fine hbig)
      have C3 := Lib.hid (shl_fine (n := n) hbig)
      clear hbig
      by_cases hbig : Big ≤ val B64 xs * 2 ^ n
      · have C1 : Hid (shlN (val B64 xs) (n : Int) = 0 ∧ shlE (val B64 xs) (n : Int) = 5) := Lib.hid (by rw [C3.out.1, C3.out.2]; exact cut_big hbig)
        clear hbig
        go_wp2_with fail
        refine (shl_is _ xs _ _ 0 5 C1.out.1 C1.out.2 (HH.out.below B3.out) HL.out (by omega)).mono ?_
        rintro e w4 ⟨v4, rfl, hn4, hb4⟩
        have B4 := Lib.hid (below_step B3.out hb4)
        clear hb4 hn4
        go_wp2_with fail
        refine (shr_is _ xs _ _ _ 0 C2.out.1 C2.out.2 (HH.out.below B4.out) HL.out (by omega)).mono ?_
        rintro e w5 ⟨v5, rfl, hn5, hb5⟩
        have B5 := Lib.hid (below_step B4.out hb5)
        clear hb5 hn5
        go_wp2_with fail
        refine (alive_any _ (HZ.out.below B5.out)).mono ?_
        rintro e w6 ⟨rfl, hb6⟩
        have B6 := Lib.hid (below_step B5.out hb6); clear hb6
        go_wp2
        go_ret
        exact ⟨rfl, B6.out⟩
      · have C1 : Hid (shlN (val B64 xs) (n : Int) = val B64 xs * 2 ^ n ∧ shlE (val B64 xs) (n : Int) = 0) := Lib.hid (by rw [C3.out.1, C3.out.2]; exact cut_small (Nat.lt_of_not_le hbig))
        clear hbig
        go_wp2_with fail
        refine (shl_is _ xs _ _ _ 0 C1.out.1 C1.out.2 (HH.out.below B3.out) HL.out (by omega)).mono ?_
        rintro e w4 ⟨v4, rfl, hn4, hb4⟩
        have B4 := Lib.hid (below_step B3.out hb4)
        obtain ⟨bs, sb, lb, _, vb⟩ := hn4
        have SB := Lib.hid sb; have LB := Lib.hid lb; have VB := Lib.hid vb
        clear hb4 sb lb vb
        go_wp2_with fail
        refine (shr_is _ xs _ _ _ 0 C2.out.1 C2.out.2 (HH.out.below B4.out) HL.out (by omega)).mono ?_
        rintro e w5 ⟨v5, rfl, hn5, hb5⟩
        have B5 := Lib.hid (below_step B4.out hb5)
        obtain ⟨cs, sc, lc, _, vc⟩ := hn5
        have SB2 := Lib.hid (SB.out.below hb5); have SC := Lib.hid sc; have LC := Lib.hid lc; have VC := Lib.hid vc
        clear hb5 sc lc vc SB
        have F1 : Hid (bitI (val B64 bs) ((j : Int) + (n : Int)) = bitN (val B64 xs) j) := Lib.hid (by rw [VB.out, ← Int.natCast_add, bitI_nat, bitN_up])
        have F2 : Hid (bitI (val B64 xs) (j : Int) = bitN (val B64 xs) j) := Lib.hid (bitI_nat _ _)
        have F3 : Hid (bitI (val B64 cs) (j : Int) = bitN (val B64 xs) (j + n)) := Lib.hid (by rw [VC.out, bitI_nat, bitN_down])
        have F4 : Hid (bitI (val B64 xs) ((j : Int) + (n : Int)) = bitN (val B64 xs) (j + n)) := Lib.hid (by rw [← Int.natCast_add, bitI_nat])
        have F5 : Hid (j < n → bitI (val B64 bs) (j : Int) = false) := Lib.hid (fun h => by rw [VB.out, bitI_nat, bitN_under h])
        generalize bitN (val B64 xs) j = p at *
        generalize bitN (val B64 xs) (j + n) = q at *
        have hpp : (p == p) = true := by cases p <;> rfl
        have hqq : (q == q) = true := by cases q <;> rfl
        have BB := Lib.hid (Below.refl w5.heap.size w5)
        go_wp2_with fail
        refine (bit_is _ bs _ _ p F1.out SB2.out LB.out (by omega) (by omega)).mono ?_
        rintro e w6 ⟨rfl, hb6⟩
        have D1 := Lib.hid (below_step BB.out hb6); have B6 := Lib.hid (below_step B5.out hb6); clear hb6
        go_wp2_with fail
        refine (bit_is _ xs _ _ p F2.out (HH.out.below B6.out) HL.out (by omega) (by omega)).mono ?_
        rintro e w7 ⟨rfl, hb7⟩
        have B7 := Lib.hid (below_step B6.out hb7); have D2 := Lib.hid (below_step D1.out hb7); clear hb7
        go_wp2_with fail
        refine (bit_is _ cs _ _ q F3.out (SC.out.below D2.out) LC.out (by omega) (by omega)).mono ?_
        rintro e w8 ⟨rfl, hb8⟩
        have D3 := Lib.hid (below_step D2.out hb8); have B8 := Lib.hid (below_step B7.out hb8); clear hb8
        go_wp2_with fail
        refine (bit_is _ xs _ _ q F4.out (HH.out.below B8.out) HL.out (by omega) (by omega)).mono ?_
        rintro e w9 ⟨rfl, hb9⟩
        have B9 := Lib.hid (below_step B8.out hb9); have D4 := Lib.hid (below_step D3.out hb9); clear hb9
        by_cases hjn : j < n
        · have F5' := Lib.hid (F5.out hjn)
          go_wp2_with fail
          refine (bit_is _ bs _ _ false F5'.out (SB2.out.below D4.out) LB.out (by omega) (by omega)).mono ?_
          rintro e w10 ⟨rfl, hb10⟩
          have D5 := Lib.hid (below_step D4.out hb10); have B10 := Lib.hid (below_step B9.out hb10); clear hb10
          go_wp2_with fail
          refine (alive_any _ (HZ.out.below B10.out)).mono ?_
          rintro e w11 ⟨rfl, hb11⟩
          have B11 := Lib.hid (below_step B10.out hb11); clear hb11
          go_wp2
          go_ret
          exact ⟨rfl, B11.out⟩
        · have hjn' : n ≤ j := by omega
          go_wp2_with fail
          refine (alive_any _ (HZ.out.below B9.out)).mono ?_
          rintro e w10 ⟨rfl, hb10⟩
          have B10 := Lib.hid (below_step B9.out hb10); clear hb10
          go_wp2
          go_ret
          exact ⟨rfl, B10.out⟩
end Go.Proofs.YtafeokkkbiaajabDoor
