/- NatLaws: the law's own walk. -/
import Derived.Test.YtafeokkkbiaajaaDoorNm
namespace Go.Proofs.YtafeokkkbiaajaaDoor
open Go.RowKit Mth

set_option maxHeartbeats 4000000 in
set_option maxRecDepth 100000 in
theorem laws_walk (w : World) (v0 v1 v2 : Value) (xs ys zs : List Nat) (hz : TZ w) (h0 : Sl w .u64 v0 xs) (h1 : Sl w .u64 v1 ys) (h2 : Sl w .u64 v2 zs) (l0 : Lim B64 xs) (l1 : Lim B64 ys) (l2 : Lim B64 zs) (n0 : xs.length ≤ 1048576) (_ : ys.length ≤ 1048576) (_ : zs.length ≤ 1048576) :
    Calls Tryd.prog 13 #[v0, v1, v2] w fun e w' => e = .returned (.bool true) ∧ Below w.heap.size w w' := by
  have HZ := Lib.hid hz
  have HA := Lib.hid (nm_sl h0 l0); have HB := Lib.hid (nm_sl h1 l1); have HC := Lib.hid (nm_sl h2 l2)
  obtain ⟨a0, c0, rfl⟩ := h0.shape
  obtain ⟨a1, c1, rfl⟩ := h1.shape
  obtain ⟨a2, c2, rfl⟩ := h2.shape
  have hkb : bl (val B64 xs) ≤ 67108864 := by
    have h9 : bl (val B64 xs) ≤ 64 * xs.length := bl_le (by
      have h1 := val_lt l0
      have h2 : B64 = 2 ^ 64 := rfl
      rw [h2, ← Nat.pow_mul] at h1
      exact h1)
    omega
  clear hz h0 h1 h2 l0 l1 l2 n0
  generalize val B64 xs = a at *
  generalize val B64 ys = b at *
  generalize val B64 zs = c at *
  go_enter Tryd.func13, Tryd.ntmps13
  go_wp2_with fail
  refine (add2_nm HB.out HC.out).mono ?_
  rintro e w1 ⟨s, rfl, hn1, hb1⟩
  have B1 := Lib.hid hb1; have NS := Lib.hid hn1.nm
  obtain ⟨sa, sk, sc, rfl⟩ := NS.out.shape
  have HA1 := Lib.hid (HA.out.below hb1); have HB1 := Lib.hid (HB.out.below hb1); have HC1 := Lib.hid (HC.out.below hb1)
  clear hn1 hb1
  go_wp2_with fail
  refine (mul2_nm HA1.out NS.out).mono ?_
  rintro e w2 ⟨p, rfl, hn2, hb2⟩
  have B2 := Lib.hid (below_step B1.out hb2); have NP := Lib.hid hn2.nm
  obtain ⟨pa, pk, pc, rfl⟩ := NP.out.shape
  have HA2 := Lib.hid (HA1.out.below hb2); have HB2 := Lib.hid (HB1.out.below hb2); have HC2 := Lib.hid (HC1.out.below hb2); have NS2 := Lib.hid (NS.out.below hb2)
  clear hn2 hb2
  go_wp2_with fail
  refine (mul2_nm HA2.out HB2.out).mono ?_
  rintro e w3 ⟨x, rfl, hn3, hb3⟩
  have B3 := Lib.hid (below_step B2.out hb3); have NX := Lib.hid hn3.nm
  obtain ⟨xa, xk, xc, rfl⟩ := NX.out.shape
  have HA3 := Lib.hid (HA2.out.below hb3); have HB3 := Lib.hid (HB2.out.below hb3); have HC3 := Lib.hid (HC2.out.below hb3); have NS3 := Lib.hid (NS2.out.below hb3); have NP3 := Lib.hid (NP.out.below hb3)
  clear hn3 hb3
  go_wp2_with fail
  refine (mul2_nm HC3.out HA3.out).mono ?_
  rintro e w4 ⟨y, rfl, hn4, hb4⟩
  have B4 := Lib.hid (below_step B3.out hb4); have NY := Lib.hid hn4.nm
  obtain ⟨ya, yk, yc, rfl⟩ := NY.out.shape
  have HA4 := Lib.hid (HA3.out.below hb4); have HB4 := Lib.hid (HB3.out.below hb4); have HC4 := Lib.hid (HC3.out.below hb4); have NS4 := Lib.hid (NS3.out.below hb4); have NP4 := Lib.hid (NP3.out.below hb4); have NX4 := Lib.hid (NX.out.below hb4)
  clear hn4 hb4
  go_wp2_with fail
  refine (alive_any _ (HZ.out.below B4.out)).mono ?_
  rintro e w5 ⟨rfl, hb5⟩
  have B5 := Lib.hid (below_step B4.out hb5)
  have HA5 := Lib.hid (HA4.out.below hb5); have HB5 := Lib.hid (HB4.out.below hb5); have HC5 := Lib.hid (HC4.out.below hb5); have NS5 := Lib.hid (NS4.out.below hb5); have NP5 := Lib.hid (NP4.out.below hb5); have NX5 := Lib.hid (NX4.out.below hb5); have NY5 := Lib.hid (NY.out.below hb5)
  clear hb5
  rcases cutE_or (b + c) with he | ⟨he, hs, hsb⟩
  · rw [he]
    clear he
    go_wp2
    go_ret
    exact ⟨rfl, B5.out⟩
  · rw [he]
    rw [hs] at NP5 NS5 ⊢
    rcases mE_or a (b + c) with hf | ⟨hf, hp, hpb, _, _⟩
    · rw [hf]
      clear he hf hs hsb
      go_wp2
      go_ret
      exact ⟨rfl, B5.out⟩
    · rw [hf]
      rw [hp] at NP5
      rcases mE_or a b with hg | ⟨hg, hx, hxb, hab, hbb⟩
      · rw [hg]
        clear he hf hg hs hsb hp hpb
        go_wp2
        go_ret
        exact ⟨rfl, B5.out⟩
      · rw [hg]
        rw [hx] at NX5
        rcases mE_or c a with hh | ⟨hh, hy, hyb, hcb, _⟩
        · rw [hh]
          clear he hf hg hh hs hsb hp hpb hx hxb hab hbb
          go_wp2
          go_ret
          exact ⟨rfl, B5.out⟩
        · rw [hh]
          rw [hy] at NY5
          have T := Lib.hid (add2_nm NY5.out NX5.out)
          have e1 : c * a + a * b = a * (b + c) := by rw [Nat.mul_add, Nat.mul_comm c a]; omega
          have E1 := Lib.hid (cut_small (n := c * a + a * b) (by omega))
          have E2 := Lib.hid (sub_fine (m := b + c) (n := b) (by omega) (by omega))
          have E3 : Hid (cmp3 (c * a + a * b) (a * (b + c)) = 0) := Lib.hid (cmp_eq e1)
          have E4 : Hid (cmp3 (b + c - b) c = 0) := Lib.hid (cmp_eq (by omega))
          have E5 : Hid (a = 0 → quoE (a * b) a = 11) := Lib.hid fun h => (quo_zero (by omega) h).2.2
          have E6 := Lib.hid (fun h => quo_fine (a := a * b) (b := a) (by omega) h)
          have E7 : Hid (a ≠ 0 → a * b / a = b ∧ a * b % a = 0) := Lib.hid fun h => ⟨Nat.mul_div_cancel_left _ (by omega), Nat.mul_mod_right _ _⟩
          clear he hf hg hh hs hsb hp hpb hx hxb hab hbb hy hyb hcb e1
          go_wp2_with fail
          refine T.out.mono ?_
          rintro e w6 ⟨t, rfl, hn6, hb6⟩
          rw [E1.out.1] at hn6
          rw [E1.out.2]
          have B6 := Lib.hid (below_step B5.out hb6); have NT := Lib.hid hn6.nm
          obtain ⟨ta, tk, tc, rfl⟩ := NT.out.shape
          have HA6 := Lib.hid (HA5.out.below hb6); have HB6 := Lib.hid (HB5.out.below hb6); have HC6 := Lib.hid (HC5.out.below hb6); have NS6 := Lib.hid (NS5.out.below hb6); have NP6 := Lib.hid (NP5.out.below hb6); have NX6 := Lib.hid (NX5.out.below hb6)
          clear hn6 hb6
          go_wp2_with fail
          refine (sub_nm NS6.out HB6.out).mono ?_
          rintro e w7 ⟨u, rfl, hn7, hb7⟩
          rw [E2.out.1] at hn7
          rw [E2.out.2]
          have B7 := Lib.hid (below_step B6.out hb7); have NU := Lib.hid hn7.nm
          obtain ⟨ua, uk, uc, rfl⟩ := NU.out.shape
          have HA7 := Lib.hid (HA6.out.below hb7); have HB7 := Lib.hid (HB6.out.below hb7); have HC7 := Lib.hid (HC6.out.below hb7); have NP7 := Lib.hid (NP6.out.below hb7); have NX7 := Lib.hid (NX6.out.below hb7); have NT7 := Lib.hid (NT.out.below hb7)
          clear hn7 hb7
          go_wp2_with fail
          refine (cmp_nm NT7.out NP7.out 0 E3.out).mono ?_
          rintro e w8 ⟨rfl, hb8⟩
          have B8 := Lib.hid (below_step B7.out hb8)
          have HA8 := Lib.hid (HA7.out.below hb8); have HB8 := Lib.hid (HB7.out.below hb8); have HC8 := Lib.hid (HC7.out.below hb8); have NX8 := Lib.hid (NX7.out.below hb8); have NU8 := Lib.hid (NU.out.below hb8)
          clear hb8
          go_wp2_with fail
          refine (cmp_nm NU8.out HC8.out 0 E4.out).mono ?_
          rintro e w9 ⟨rfl, hb9⟩
          have B9 := Lib.hid (below_step B8.out hb9)
          have HA9 := Lib.hid (HA8.out.below hb9); have HB9 := Lib.hid (HB8.out.below hb9); have NX9 := Lib.hid (NX8.out.below hb9)
          clear hb9
          go_wp2_with fail
          refine (quo_nm NX9.out HA9.out).mono ?_
          rintro e w10 ⟨q, r, rfl, hq10, hr10, hb10⟩
          have B10 := Lib.hid (below_step B9.out hb10); have NQ := Lib.hid hq10.nm; have NR := Lib.hid hr10.nm
          have HA10 := Lib.hid (HA9.out.below hb10); have HB10 := Lib.hid (HB9.out.below hb10)
          clear hq10 hr10 hb10
          by_cases h0 : a = 0
          · rw [E5.out h0]
            have K : Hid (bl a = 0) := Lib.hid (bl_eq_zero.2 h0)
            clear h0
            go_wp2_with fail
            refine (len_nm HA10.out 0 K.out).mono ?_
            rintro e w11 ⟨rfl, hb11⟩
            have B11 := Lib.hid (below_step B10.out hb11); clear hb11
            go_wp2
            go_ret
            exact ⟨rfl, B11.out⟩
          · have E8 := Lib.hid (E6.out h0); have E9 := Lib.hid (E7.out h0)
            have hk0 : bl a ≠ 0 := fun h => h0 (bl_eq_zero.1 h)
            rw [E8.out.1, E9.out.1] at NQ
            rw [E8.out.2.1, E9.out.2] at NR
            rw [E8.out.2.2]
            generalize hk : bl a = k at *
            have K := Lib.hid hk
            have hd0 : ((k : Int) == 0) = false := len_ne hk0
            clear h0 hk hk0
            go_wp2_with fail
            refine (len_nm HA10.out k K.out).mono ?_
            rintro e w11 ⟨rfl, hb11⟩
            have B11 := Lib.hid (below_step B10.out hb11)
            have NQ1 := Lib.hid (NQ.out.below hb11); have NR1 := Lib.hid (NR.out.below hb11); have HB11 := Lib.hid (HB10.out.below hb11)
            clear hb11
            go_wp2_with fail
            refine (cmp_nm NQ1.out HB11.out 0 (cmp_eq rfl)).mono ?_
            rintro e w12 ⟨rfl, hb12⟩
            have B12 := Lib.hid (below_step B11.out hb12); have NR2 := Lib.hid (NR1.out.below hb12)
            clear hb12
            go_wp2_with fail
            refine (len_nm NR2.out 0 rfl).mono ?_
            rintro e w13 ⟨rfl, hb13⟩
            have B13 := Lib.hid (below_step B12.out hb13)
            clear hb13
            go_wp2
            go_ret
            exact ⟨rfl, B13.out⟩
end Go.Proofs.YtafeokkkbiaajaaDoor
