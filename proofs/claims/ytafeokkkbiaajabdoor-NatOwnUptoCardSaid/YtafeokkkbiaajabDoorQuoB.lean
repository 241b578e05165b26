/- nat: takeQuotient; numbers of the call's own. -/
import Derived.Test.YtafeokkkbiaajabDoorQuoA
import Derived.Test.YtafeokkkbiaajabDoorAdds
namespace Go.Proofs.YtafeokkkbiaajabDoor
open Go.RowKit Mth

/-- the limbs of a part, the three highest apart -/
theorem seg_three {R : List Nat} {off m : Nat} (h : off + (m + 3) ≤ R.length) :
    seg R off (m + 3) = ((R.getD (off + m + 2) 0 * B64 + R.getD (off + m + 1) 0) * B64 + R.getD (off + m) 0) * B64 ^ m + seg R off m := by
  have s1 := seg_succ R off (m + 2) (by omega)
  have s2 := seg_succ R off (m + 1) (by omega)
  have s3 := seg_succ R off m (by omega)
  rw [show off + (m + 2) = off + m + 2 by omega, show B64 ^ (m + 2) = B64 ^ m * B64 * B64 by rw [Nat.pow_succ, Nat.pow_succ]] at s1
  rw [show off + (m + 1) = off + m + 1 by omega, Nat.pow_succ] at s2
  rw [show m + 3 = m + 2 + 1 from rfl, s1, show m + 2 = m + 1 + 1 from rfl, s2, s3]
  generalize R.getD (off + m + 2) 0 = a
  generalize R.getD (off + m + 1) 0 = b
  generalize R.getD (off + m) 0 = c
  rw [Nat.add_mul, Nat.add_mul, Nat.add_mul]
  have e1 : B64 ^ m * B64 * B64 * a = a * B64 * B64 * B64 ^ m := by
    rw [Nat.mul_comm _ a, Nat.mul_assoc a, Nat.mul_assoc a, Nat.mul_assoc (B64 ^ m), Nat.mul_comm (B64 ^ m)]
  have e2 : B64 ^ m * B64 * b = b * B64 * B64 ^ m := by
    rw [Nat.mul_comm _ b, Nat.mul_assoc b, Nat.mul_comm (B64 ^ m)]
  have e3 : B64 ^ m * c = c * B64 ^ m := Nat.mul_comm _ _
  rw [e1, e2, e3]
  omega
theorem val_two {d : List Nat} {m : Nat} (h : d.length = m + 2) : val B64 d = (d.getD (m + 1) 0 * B64 + d.getD m 0) * B64 ^ m + val B64 (d.take m) := by
  have e : val B64 d = val B64 (d.take (m + 2)) := by rw [List.take_of_length_le (by omega)]
  rw [e, show m + 2 = m + 1 + 1 from rfl, val_take_succ B64 d (m + 1) (by omega), val_take_succ B64 d m (by omega), Nat.add_mul, Nat.pow_succ]
  have e2 : B64 ^ m * B64 * d.getD (m + 1) 0 = d.getD (m + 1) 0 * B64 * B64 ^ m := by
    rw [Nat.mul_comm _ (d.getD (m + 1) 0), Nat.mul_assoc (d.getD (m + 1) 0), Nat.mul_comm (B64 ^ m)]
  have e3 : B64 ^ m * d.getD m 0 = d.getD m 0 * B64 ^ m := Nat.mul_comm _ _
  rw [e2, e3]
  omega
/-- the guess is the digit, or one above it -/
theorem guess_all {R d : List Nat} {off m q : Nat} (lR : Lim B64 R) (ld : Lim B64 d) (hd : d.length = m + 2) (hoff : off + (m + 3) ≤ R.length) (hn : B64 ≤ 2 * d.getD (m + 1) 0) (hP : seg R off (m + 3) < B64 * val B64 d) (hq : q < B64)
    (h : GuessP (R.getD (off + m + 2) 0) (R.getD (off + m + 1) 0) (R.getD (off + m) 0) (d.getD (m + 1) 0) (d.getD m 0) q) :
    seg R off (m + 3) / val B64 d ≤ q ∧ q ≤ seg R off (m + 3) / val B64 d + 1 := by
  have e1 := seg_three hoff
  have e2 := val_two hd
  have s1 := seg_lt lR off m
  have s2 := val_take_lt (by have := B64_pos; omega) ld m (by omega)
  have hd1 : 1 ≤ d.getD (m + 1) 0 := by have := B64_pos; omega
  have l0 := ld m
  rcases h with ⟨h1, h2⟩ | ⟨h1, h2⟩
  · refine guess_ok e1 s1 e2 s2 ?_ h2 hq
    have : 1 * B64 ≤ d.getD (m + 1) 0 * B64 := Nat.mul_le_mul_right _ hd1
    omega
  · rw [h2]
    have hM : 0 < B64 ^ m := Nat.pow_pos (by have := B64_pos; omega)
    refine guess_top (N := B64 * B64 ^ m) (d := d.getD (m + 1) 0) (t := R.getD (off + m + 2) 0) ?_ ?_ h1 hn (by have := B64_pos; omega) ?_ hP
    · rw [e2]
      generalize d.getD (m + 1) 0 = a at *
      generalize d.getD m 0 = b at *
      generalize val B64 (d.take m) = t at *
      have h3 : (a * B64 + b + 1) * B64 ^ m ≤ ((a + 1) * B64) * B64 ^ m := Nat.mul_le_mul_right _ (by rw [Nat.add_mul, Nat.one_mul]; omega)
      rw [Nat.add_mul _ 1, Nat.one_mul] at h3
      rw [← Nat.mul_assoc]
      omega
    · rw [e1]
      generalize R.getD (off + m + 2) 0 = a at *
      generalize R.getD (off + m + 1) 0 = b at *
      generalize R.getD (off + m) 0 = c at *
      have h3 : (a * B64) * B64 * B64 ^ m ≤ ((a * B64 + b) * B64 + c) * B64 ^ m := Nat.mul_le_mul_right _ (by rw [Nat.add_mul]; omega)
      have h4 : a * (B64 * (B64 * B64 ^ m)) = (a * B64) * B64 * B64 ^ m := by rw [Nat.mul_assoc, Nat.mul_assoc]
      rw [h4]
      omega
    · rw [e2]
      have : 0 < (d.getD (m + 1) 0 * B64 + d.getD m 0) * B64 ^ m := Nat.mul_pos (by have := Nat.mul_pos hd1 (show 0 < B64 by have := B64_pos; omega); omega) hM
      omega

theorem guess_at (ga offa ca gb offb cb t2 t1 t0 d1 d0 : Nat) (w : World) (hca : 3 ≤ ca) (hca2 : ca ≤ maxLen) (hcb : 2 ≤ cb) (hcb2 : cb ≤ maxLen)
    (c0 : w.cell? ⟨ga, offa, none⟩ = some (.int .u64 (t0 : Int))) (c1 : w.cell? ⟨ga, offa + 1, none⟩ = some (.int .u64 (t1 : Int))) (c2 : w.cell? ⟨ga, offa + 2, none⟩ = some (.int .u64 (t2 : Int)))
    (e0 : w.cell? ⟨gb, offb, none⟩ = some (.int .u64 (d0 : Int))) (e1 : w.cell? ⟨gb, offb + 1, none⟩ = some (.int .u64 (d1 : Int)))
    (l1 : t1 < B64) (l0 : t0 < B64) (k1 : d1 < B64) (k0 : d0 < B64) (hn : B64 ≤ 2 * d1) :
    Calls Tryd.prog 71 #[.slice (some ⟨ga, offa, none⟩) 3 ca, .slice (some ⟨gb, offb, none⟩) 2 cb] w fun e w' => e = .returned (.int .u64 ((guessF t2 t1 t0 d1 d0 : Nat) : Int)) ∧ Drawn w w' := by
  refine (guess_any ga offa ca gb offb cb t2 t1 t0 d1 d0 w hca hca2 hcb hcb2 c0 c1 c2 e0 e1 l1 l0 k1 k0 hn).mono ?_
  rintro e w' ⟨q, rfl, _, hP, hd⟩
  exact ⟨by rw [guessF_eq hP], hd⟩
set_option maxHeartbeats 4000000 in
set_option maxRecDepth 100000 in
theorem takeQuotient_any (gr off cap gd m dc : Nat) (R dl : List Nat) (w : World) (hR : Row w 36 .u64 gr R) (lR : Lim B64 R) (hD : Sl w .u64 (.slice (some ⟨gd, 0, none⟩) (m + 2) dc) dl) (lD : Lim B64 dl) (hdl : dl.length = m + 2)
    (hne : gd ≠ gr) (hn : B64 ≤ 2 * dl.getD (m + 1) 0) (hoff : off + (m + 3) ≤ R.length) (hcap : m + 3 ≤ cap) (hcm : cap ≤ maxLen) (hP : seg R off (m + 3) < B64 * val B64 dl) (hRl : R.length ≤ 16777217) :
    Calls Tryd.prog 61 #[.slice (some ⟨gr, off, none⟩) (m + 3) cap, .slice (some ⟨gd, 0, none⟩) (m + 2) dc] w fun e w' =>
      ∃ R', e = .returned (.int .u64 ((seg R off (m + 3) / val B64 dl : Nat) : Int)) ∧ Row w' 36 .u64 gr R' ∧ w.grownBy w' (some gr) ∧ DigT R R' off (m + 2) (val B64 dl) := by
  have hD' := hD
  obtain ⟨ao, cap', eD, h1, h2, h3, h4, h5⟩ := hD'
  obtain ⟨b5, o5, e5, hblt, hdc⟩ := h5 (by omega)
  rw [hdl] at eD
  subst e5
  simp only [Value.slice.injEq, Option.some.injEq, Addr.mk.injEq, and_true, true_and] at eD
  obtain ⟨⟨rfl, rfl⟩, rfl⟩ := eD
  have D0 : Hid (0 < val B64 dl) := Lib.hid (by
    rcases Nat.eq_zero_or_pos (val B64 dl) with h0 | h0
    · rw [h0] at hP; omega
    · exact h0)
  have hm : m ≤ 16777216 := by omega
  have hc0 : w.cell? ⟨gr, off + m, none⟩ = some (.int .u64 ((R.getD (off + m) 0 : Nat) : Int)) := hR.cell (by omega)
  have hc1 : w.cell? ⟨gr, off + m + 1, none⟩ = some (.int .u64 ((R.getD (off + m + 1) 0 : Nat) : Int)) := hR.cell (by omega)
  have hc2 : w.cell? ⟨gr, off + m + 2, none⟩ = some (.int .u64 ((R.getD (off + m + 2) 0 : Nat) : Int)) := hR.cell (by omega)
  have he0 : w.cell? ⟨gd, m, none⟩ = some (.int .u64 ((dl.getD m 0 : Nat) : Int)) := by have := hdc m (by omega); rwa [Nat.zero_add] at this
  have he1 : w.cell? ⟨gd, m + 1, none⟩ = some (.int .u64 ((dl.getD (m + 1) 0 : Nat) : Int)) := by have := hdc (m + 1) (by omega); rwa [Nat.zero_add] at this
  unfold maxLen at hcm h2
  obtain ⟨q, hq⟩ : ∃ q, q = guessF (R.getD (off + m + 2) 0) (R.getD (off + m + 1) 0) (R.getD (off + m) 0) (dl.getD (m + 1) 0) (dl.getD m 0) := ⟨_, rfl⟩
  have hqlt : q < B64 := by rw [hq]; exact guessF_lt (lR _) (lR _)
  have GQ := Lib.hid (guess_all lR lD hdl hoff hn hP hqlt (by rw [hq]; exact guessF_P _ _ _ _ _))
  have ga : ∀ nn, Calls Tryd.prog 71 #[.slice (some ⟨gr, off + m, none⟩) 3 (cap - m), .slice (some ⟨gd, m, none⟩) 2 (dc - m)] (w.drewN nn) fun e w' => e = .returned (.int .u64 (q : Int)) ∧ Drawn (w.drewN nn) w' := fun nn => by
    rw [hq]
    exact guess_at gr (off + m) (cap - m) gd m (dc - m) _ _ _ _ _ (w.drewN nn) (by omega) (by unfold maxLen; omega) (by omega) (by unfold maxLen; omega) hc0 hc1 hc2 he0 he1 (lR _) (lR _) (lD _) (lD _) hn
  have GA := Lib.hid ga; have HQ := Lib.hid hqlt
  have HR := Lib.hid hR; have LR := Lib.hid lR; have HD := Lib.hid hD; have LD := Lib.hid lD; have HDL := Lib.hid hdl; have HNE := Lib.hid hne; have HOFF := Lib.hid hoff; have HRL := Lib.hid hRl
  have hdc2 : m + 2 ≤ dc := by omega
  clear hc0 hc1 hc2 he0 he1 hR lR hD lD hdl hne hn hP hdc h1 h3 h4 h5 hoff hRl ga hq hqlt
  go_enter Tryd.func61, Tryd.ntmps61
  go_wp2
  have hw2 : IntKind.i64.wrap (m : Int) = (m : Int) := by rw [IntKind.wrap_i64]; omega
  have hcm1 : ¬ cap = m := by omega
  have hcm2 : ¬ dc = m := by omega
  have hcm3 : (m : Int) ≤ (m : Int) + 3 := by omega
  have hcm4 : (m : Int) ≤ (m : Int) + 2 := by omega
  go_quiet ((go_at_call 71; have GG := GA.out; exact Calls.quiet_of (GG _)))
  have HR0 : Hid (Row (w.drewN nq) 36 .u64 gr R) := Lib.hid HR.out
  have HD0 : Hid (Sl (w.drewN nq) .u64 (.slice (some ⟨gd, 0, none⟩) (m + 2) dc) dl) := Lib.hid HD.out
  have HG0 : Hid (w.grownBy (w.drewN nq) (some gr)) := Lib.hid ⟨rfl, rfl, rfl, Nat.le_refl _, fun _ _ _ => rfl⟩
  clear hw2 hcm1 hcm2 hcm3 hcm4
  generalize w.drewN nq = w0 at *
  have TT := takeTimes_any gr off cap R dl q _ w0 HR0.out LR.out (by rw [HDL.out]; have := HOFF.out; omega) (by rw [HDL.out]; omega) (by unfold maxLen; omega) HD0.out LD.out (by have := HNE.out; simpa [inBlock] using this) (by rw [HDL.out]; omega) HQ.out
  rw [HDL.out] at TT
  have TTT := Lib.hid TT; clear TT
  go_wp2_with fail
  refine TTT.out.mono ?_
  rintro e w1 ⟨c, rfl, R1, hr1, hg1, ht1⟩
  have hcell : w1.cell? ⟨gr, off + (m + 2), none⟩ = some (.int .u64 ((R1.getD (off + (m + 2)) 0 : Nat) : Int)) := hr1.cell (by rw [ht1.len]; have := HOFF.out; omega)
  have hfr : w1.frozen? ⟨gr, off + (m + 2), none⟩ = false := hr1.free _
  have hplt := ht1.lim (off + (m + 2))
  have hclt := ht1.clt
  have FINE := Lib.hid (fun h => dig_fine ht1 HDL.out.symm (by have := HOFF.out; omega) GQ.out.1 h D0.out)
  have OVQ := Lib.hid (fun h => dig_over_q ht1 HDL.out.symm (by have := HOFF.out; omega) GQ.out.1 GQ.out.2 h)
  have OV := Lib.hid (fun R3 c3 h1 h2 h3 h4 => dig_over (R3 := R3) (c3 := c3) ht1 HDL.out.symm LD.out (by have := HOFF.out; omega) h1 h2 h3 D0.out h4)
  have L1 := Lib.hid ht1.lim; have LEN1 := Lib.hid ht1.len
  have HR1 := Lib.hid hr1; have HG1 := Lib.hid hg1
  have HD1 := Lib.hid (HD0.out.grown hg1 (.inl (by have := HNE.out; simpa [inBlock] using this)))
  clear hr1 hg1 ht1
  generalize R1.getD (off + (m + 2)) 0 = p at *
  have HPL := Lib.hid hplt; have HCL := Lib.hid hclt
  clear hplt hclt
  by_cases hov : p < c
  · have hd : decide (p < c) = true := decide_eq_true hov
    have OQ := Lib.hid (OVQ.out hov)
    have OV2 := Lib.hid (fun R3 c3 => OV.out R3 c3 OQ.out.1 OQ.out.2 hov)
    obtain ⟨pp, hpp⟩ : ∃ pp, pp = p + B64 - c := ⟨_, rfl⟩
    have hw3 : IntKind.u64.wrap ((p : Int) - (c : Int)) = (pp : Int) := by
      have h1 := HPL.out; have h2 := HCL.out
      rw [hpp]; unfold B64 at *
      rw [IntKind.wrap_u64]; omega
    have hppl : pp < B64 := by have h1 := HPL.out; have h2 := HCL.out; omega
    have HPPL := Lib.hid hppl
    rw [← hpp] at OV2
    obtain ⟨Q, hQ⟩ : ∃ Q, Q = seg R off (m + 3) / val B64 dl := ⟨_, rfl⟩
    have hw4 : IntKind.u64.wrap ((q : Int) - 1) = (Q : Int) := by
      have h1 := OQ.out.1; have h2 := HQ.out
      rw [show m + 2 + 1 = m + 3 from rfl, ← hQ] at h1
      unfold B64 at h2
      rw [IntKind.wrap_u64]; omega
    have HQQ := Lib.hid hQ
    have hset := HR1.out.set (off + (m + 2)) pp
    have AD := Lib.hid (addTo_any gr off (m + 3) cap _ dl _ _ hset.1 (lim_set L1.out HPPL.out _) (HD1.out.grown hset.2 (.inl (by have := HNE.out; simpa [inBlock] using this))) LD.out (.inl (by have := HNE.out; simpa [inBlock] using this)) (by rw [HDL.out]; omega) (by rw [List.length_set, LEN1.out]; exact HOFF.out) hcap (by unfold maxLen; omega) (by rw [List.length_set, LEN1.out]; exact HRL.out))
    have HS := Lib.hid hset.2
    clear hov hpp hQ hppl hset
    go_wp2_with fail
    refine AD.out.mono ?_
    rintro e w3 ⟨rfl, R3, c3, hr3, hg3, hp3⟩
    have HR3 := Lib.hid hr3; have HG3 := Lib.hid hg3; have HP3 := Lib.hid (OV2.out R3 c3 hp3)
    clear hr3 hg3 hp3
    go_wp2
    go_ret
    exact ⟨R3, by rw [← HQQ.out]; rfl, HR3.out, grown_trans' (grown_trans' (grown_trans' HG0.out HG1.out) HS.out) HG3.out, HP3.out⟩
  · have hd : decide (p < c) = false := decide_eq_false hov
    have FN := Lib.hid (FINE.out (by omega))
    obtain ⟨pp, hpp⟩ : ∃ pp, pp = p - c := ⟨_, rfl⟩
    have hw3 : IntKind.u64.wrap ((p : Int) - (c : Int)) = (pp : Int) := by
      have h1 := HPL.out; have h2 := HCL.out
      rw [hpp]; unfold B64 at *
      rw [IntKind.wrap_u64]; omega
    rw [← hpp] at FN
    have hset := HR1.out.set (off + (m + 2)) pp
    have HS := Lib.hid hset
    clear hov hpp hset
    go_wp2
    go_ret
    exact ⟨_, by rw [show m + 3 = m + 2 + 1 from rfl, ← FN.out.1]; rfl, HS.out.1, grown_trans' (grown_trans' HG0.out HG1.out) HS.out.2, FN.out.2⟩
end Go.Proofs.YtafeokkkbiaajabDoor
