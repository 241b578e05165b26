/- NatDivides: the law's own walk. -/
import Derived.Test.YtafeokkkbiaajaaDoorNm
import Derived.Test.YtafeokkkbiaajaaDoorGcdE
namespace Go.Proofs.YtafeokkkbiaajaaDoor
open Go.RowKit Mth

theorem mE_fine {m n : Nat} (h1 : m < Big) (h2 : n < Big) (h : m * n < Big) : mE m n = 0 ∧ mN m n = m * n := by
  rcases mE_or m n with h5 | ⟨h3, h4, _⟩
  · have hc : ¬ (Big ≤ m ∨ Big ≤ n) := by omega
    unfold mE at h5
    rw [if_neg hc] at h5
    rcases cutE_or (m * n) with h6 | ⟨h6, _⟩
    · unfold cutE at h6
      rw [if_neg (by omega)] at h6
      cases h6
    · rw [h6] at h5; cases h5
  · exact ⟨h3, h4⟩
theorem cut_fine {n : Nat} (h : n < Big) : cutE n = 0 ∧ cutN n = n := by
  unfold cutE cutN
  rw [if_neg (by omega), if_neg (by omega)]
  exact ⟨rfl, rfl⟩
theorem cmp3_lt {a b : Nat} (h : a < b) : cmp3 a b = -1 := if_pos h
theorem cmp3_same (a : Nat) : cmp3 a a = 0 := by unfold cmp3; rw [if_neg (by omega), if_neg (by omega)]
/-- what is left when the common divisor is taken out has none -/
theorem gcd_out {a b : Nat} (hb : 0 < b) : Nat.gcd (a / Nat.gcd a b) (b / Nat.gcd a b) = 1 ∧ a % Nat.gcd a b = 0 ∧ b % Nat.gcd a b = 0 ∧ 0 < Nat.gcd a b ∧ Nat.gcd a b ≤ b := by
  have hg : 0 < Nat.gcd a b := Nat.gcd_pos_of_pos_right _ hb
  have h1 := Nat.gcd_dvd_left a b
  have h2 := Nat.gcd_dvd_right a b
  refine ⟨?_, Nat.mod_eq_zero_of_dvd h1, Nat.mod_eq_zero_of_dvd h2, hg, Nat.le_of_dvd hb h2⟩
  have h3 := Nat.gcd_mul_left (Nat.gcd a b) (a / Nat.gcd a b) (b / Nat.gcd a b)
  rw [Nat.mul_div_cancel' h1, Nat.mul_div_cancel' h2] at h3
  have h4 : Nat.gcd a b * Nat.gcd (a / Nat.gcd a b) (b / Nat.gcd a b) = Nat.gcd a b * 1 := by rw [← h3, Nat.mul_one]
  exact Nat.eq_of_mul_eq_mul_left hg h4
theorem gcd_nm {v1 v2 : Value} {m n : Nat} {w : World} (h1 : Nm w v1 m) (h2 : Nm w v2 n) :
    Calls Tryd.prog 35 #[v1, v2] w fun e w' => ∃ v', e = .returned (.tuple #[v', .int .i64 (gcdE m n)]) ∧ Own w' w.heap.size v' (gcdN m n) ∧ Below w.heap.size w w' := by
  obtain ⟨xs, s1, l1, rfl⟩ := h1
  obtain ⟨ys, s2, l2, rfl⟩ := h2
  exact gcd_any v1 v2 xs ys w s1 s2 l1 l2

set_option maxHeartbeats 4000000 in
set_option maxRecDepth 100000 in
theorem divides_walk (w : World) (v0 v1 : Value) (xs ys : List Nat) (hz : TZ w) (h0 : Sl w .u64 v0 xs) (h1 : Sl w .u64 v1 ys) (l0 : Lim B64 xs) (l1 : Lim B64 ys) (_ : xs.length ≤ 1048576) (_ : ys.length ≤ 1048576) :
    Calls Tryd.prog 14 #[v0, v1] w fun e w' => e = .returned (.bool true) ∧ Below w.heap.size w w' := by
  have HZ := Lib.hid hz
  have HA0 := Lib.hid (nm_sl h0 l0); have HB0 := Lib.hid (nm_sl h1 l1)
  obtain ⟨a0, c0, rfl⟩ := h0.shape
  obtain ⟨a1, c1, rfl⟩ := h1.shape
  clear hz h0 h1 l0 l1
  generalize val B64 xs = a at *
  generalize val B64 ys = b at *
  go_enter Tryd.func14, Tryd.ntmps14
  go_wp2_with fail
  refine (quo_nm HA0.out HB0.out).mono ?_
  rintro e w1 ⟨q, r, rfl, hq, hr, hb1⟩
  have B1 := Lib.hid hb1; have NQ1 := Lib.hid hq.nm; have NR1 := Lib.hid hr.nm
  obtain ⟨qa, qk, qc, rfl⟩ := NQ1.out.shape
  obtain ⟨ra, rk, rc, rfl⟩ := NR1.out.shape
  have HA1 := Lib.hid (HA0.out.below hb1); have HB1 := Lib.hid (HB0.out.below hb1)
  clear hq hr hb1
  by_cases hlong : Big ≤ a ∨ Big ≤ b
  · rw [(quo_long hlong).2.2]
    clear hlong
    go_wp2_with fail
    refine (alive_any _ (HZ.out.below B1.out)).mono ?_
    rintro e w5 ⟨rfl, hb5⟩
    have B5 := Lib.hid (below_step B1.out hb5)
    clear hb5
    go_wp2
    go_ret
    exact ⟨rfl, B5.out⟩
  · by_cases h0 : b = 0
    · rw [(quo_zero hlong h0).2.2]
      have K : Hid (bl b = 0) := Lib.hid (bl_eq_zero.2 h0)
      clear hlong h0
      go_wp2_with fail
      refine (len_nm HB1.out 0 K.out).mono ?_
      rintro e w2 ⟨rfl, hb2⟩
      have B2 := Lib.hid (below_step B1.out hb2); clear hb2
      go_wp2_with fail
      refine (alive_any _ (HZ.out.below B2.out)).mono ?_
      rintro e w5 ⟨rfl, hb5⟩
      have B5 := Lib.hid (below_step B2.out hb5)
      clear hb5
      go_wp2
      go_ret
      exact ⟨rfl, B5.out⟩
    · have E := quo_fine hlong h0
      rw [E.1] at NQ1
      rw [E.2.1] at NR1
      rw [E.2.2]
      have hbp : 0 < b := by omega
      have F1 : a / b * b + a % b = a := Nat.div_add_mod' a b
      have F2 := Nat.mod_lt a hbp
      have F3 : a / b ≤ a := Nat.div_le_self a b
      obtain ⟨g1, g2, g3, g4, g5⟩ := gcd_out (a := a) hbp
      have x1 : a / Nat.gcd a b ≤ a := Nat.div_le_self _ _
      have x2 : b / Nat.gcd a b ≤ b := Nat.div_le_self _ _
      have EG := gcd_fine hlong
      clear E
      have EX := quo_fine (a := a) (b := Nat.gcd a b) (by omega) (by omega)
      have EZ := quo_fine (a := b) (b := Nat.gcd a b) (by omega) (by omega)
      have EO := gcd_fine (a := a / Nat.gcd a b) (b := b / Nat.gcd a b) (by omega)
      rw [g1] at EO
      rw [g2] at EX
      rw [g3] at EZ
      have EM := mE_fine (m := a / b) (n := b) (by omega) (by omega) (by omega)
      have ES := cut_fine (n := a / b * b + a % b) (by omega)
      rw [F1] at ES
      have MM := Lib.hid EM; have SS : Hid (cutE (a / b * b + a % b) = 0 ∧ cutN (a / b * b + a % b) = a) := Lib.hid (by rw [F1]; exact ES)
      have GG := Lib.hid EG; have XX := Lib.hid EX; have ZZ := Lib.hid EZ; have OO := Lib.hid EO; have LT := Lib.hid F2
      clear hlong h0 hbp F1 F2 F3 g1 g2 g3 g4 g5 x1 x2 EG EX EZ EO EM ES
      generalize a / Nat.gcd a b = xv at *
      generalize b / Nat.gcd a b = zv at *
      generalize a / b = qv at *
      generalize a % b = rv at *
      have K0 : Hid (bl 0 = 0) := Lib.hid rfl
      go_wp2_with fail
      refine (mul2_nm NQ1.out HB1.out).mono ?_
      rintro e w2 ⟨p, rfl, hn2, hb2⟩
      rw [MM.out.2] at hn2
      rw [MM.out.1]
      have B2 := Lib.hid (below_step B1.out hb2)
      have HA2 := Lib.hid (HA1.out.below hb2)
      have HB2 := Lib.hid (HB1.out.below hb2)
      have NR2 := Lib.hid (NR1.out.below hb2)
      have NP2 := Lib.hid hn2.nm
      obtain ⟨pa, pk, pc, rfl⟩ := NP2.out.shape
      clear hb2 hn2 HA1 HB1 NQ1 NR1
      go_wp2_with fail
      refine (add2_nm NP2.out NR2.out).mono ?_
      rintro e w3 ⟨s, rfl, hn3, hb3⟩
      rw [SS.out.2] at hn3
      rw [SS.out.1]
      have B3 := Lib.hid (below_step B2.out hb3)
      have HA3 := Lib.hid (HA2.out.below hb3)
      have HB3 := Lib.hid (HB2.out.below hb3)
      have NR3 := Lib.hid (NR2.out.below hb3)
      have NS3 := Lib.hid hn3.nm
      obtain ⟨sa, sk, sc, rfl⟩ := NS3.out.shape
      clear hb3 hn3 HA2 HB2 NR2 NP2
      go_wp2_with fail
      refine (cmp_nm NS3.out HA3.out 0 (cmp3_same a)).mono ?_
      rintro e w4 ⟨rfl, hb4⟩
      have B4 := Lib.hid (below_step B3.out hb4)
      have HA4 := Lib.hid (HA3.out.below hb4)
      have HB4 := Lib.hid (HB3.out.below hb4)
      have NR4 := Lib.hid (NR3.out.below hb4)
      clear hb4 HA3 HB3 NR3 NS3
      go_wp2_with fail
      refine (cmp_nm NR4.out HB4.out (-1) (cmp3_lt LT.out)).mono ?_
      rintro e w5 ⟨rfl, hb5⟩
      have B5 := Lib.hid (below_step B4.out hb5)
      have HA5 := Lib.hid (HA4.out.below hb5)
      have HB5 := Lib.hid (HB4.out.below hb5)
      clear hb5 HA4 HB4 NR4
      go_wp2_with fail
      refine (gcd_nm HA5.out HB5.out).mono ?_
      rintro e w6 ⟨d, rfl, hn6, hb6⟩
      rw [GG.out.1] at hn6
      rw [GG.out.2]
      have B6 := Lib.hid (below_step B5.out hb6)
      have HA6 := Lib.hid (HA5.out.below hb6)
      have HB6 := Lib.hid (HB5.out.below hb6)
      have ND6 := Lib.hid hn6.nm
      obtain ⟨da, dk, dc, rfl⟩ := ND6.out.shape
      clear hb6 hn6 HA5 HB5
      go_wp2_with fail
      refine (quo_nm HA6.out ND6.out).mono ?_
      rintro e w7 ⟨x, y, rfl, hx7, hy7, hb7⟩
      rw [XX.out.1] at hx7
      rw [XX.out.2.1] at hy7
      rw [XX.out.2.2]
      have B7 := Lib.hid (below_step B6.out hb7)
      have HB7 := Lib.hid (HB6.out.below hb7)
      have ND7 := Lib.hid (ND6.out.below hb7)
      have NX7 := Lib.hid hx7.nm
      obtain ⟨xa, xk, xc, rfl⟩ := NX7.out.shape
      have NY7 := Lib.hid hy7.nm
      obtain ⟨ya, yk, yc, rfl⟩ := NY7.out.shape
      clear hb7 hx7 hy7 HA6 HB6 ND6
      go_wp2_with fail
      refine (quo_nm HB7.out ND7.out).mono ?_
      rintro e w8 ⟨z, u, rfl, hz8, hu8, hb8⟩
      rw [ZZ.out.1] at hz8
      rw [ZZ.out.2.1] at hu8
      rw [ZZ.out.2.2]
      have B8 := Lib.hid (below_step B7.out hb8)
      have NX8 := Lib.hid (NX7.out.below hb8)
      have NY8 := Lib.hid (NY7.out.below hb8)
      have NZ8 := Lib.hid hz8.nm
      obtain ⟨za, zk, zc, rfl⟩ := NZ8.out.shape
      have NU8 := Lib.hid hu8.nm
      obtain ⟨ua, uk, uc, rfl⟩ := NU8.out.shape
      clear hb8 hz8 hu8 HB7 ND7 NX7 NY7
      go_wp2_with fail
      refine (gcd_nm NX8.out NZ8.out).mono ?_
      rintro e w9 ⟨o, rfl, hn9, hb9⟩
      rw [OO.out.1] at hn9
      rw [OO.out.2]
      have B9 := Lib.hid (below_step B8.out hb9)
      have NY9 := Lib.hid (NY8.out.below hb9)
      have NU9 := Lib.hid (NU8.out.below hb9)
      have NO9 := Lib.hid hn9.nm
      obtain ⟨oa, ok, oc, rfl⟩ := NO9.out.shape
      clear hb9 hn9 NX8 NY8 NZ8 NU8
      go_wp2_with fail
      refine (len_nm NY9.out 0 K0.out).mono ?_
      rintro e w10 ⟨rfl, hb10⟩
      have B10 := Lib.hid (below_step B9.out hb10)
      have NU10 := Lib.hid (NU9.out.below hb10)
      have NO10 := Lib.hid (NO9.out.below hb10)
      clear hb10 NY9 NU9 NO9
      go_wp2_with fail
      refine (len_nm NU10.out 0 K0.out).mono ?_
      rintro e w11 ⟨rfl, hb11⟩
      have B11 := Lib.hid (below_step B10.out hb11)
      have NO11 := Lib.hid (NO10.out.below hb11)
      clear hb11 NU10 NO10
      go_wp2_with fail
      refine (of_own 1 (by unfold B64; omega) _).mono ?_
      rintro e w12 ⟨one, rfl, hn12, hb12⟩
      have B12 := Lib.hid (below_step B11.out hb12)
      have NO12 := Lib.hid (NO11.out.below hb12)
      have NE12 := Lib.hid hn12.nm
      obtain ⟨onea, onek, onec, rfl⟩ := NE12.out.shape
      clear hb12 hn12 NO11
      go_wp2_with fail
      refine (cmp_nm NO12.out NE12.out 0 (cmp3_same 1)).mono ?_
      rintro e w13 ⟨rfl, hb13⟩
      have B13 := Lib.hid (below_step B12.out hb13)
      clear hb13 NO12 NE12
      go_wp2_with fail
      refine (alive_any _ (HZ.out.below B13.out)).mono ?_
      rintro e w20 ⟨rfl, hb20⟩
      have B20 := Lib.hid (below_step B13.out hb20)
      clear hb20
      go_wp2
      go_ret
      exact ⟨rfl, B20.out⟩
end Go.Proofs.YtafeokkkbiaajaaDoor
