/- nat: takeTimes, guessQuotient. -/
import Derived.Test.YtafeokkkbiaajabDoorDivLimb
import Derived.Test.YtafeokkkbiaajabDoorQuoMath
import Derived.Deep.QuietTactic
import Derived.BigQuiet
namespace Go.Proofs.YtafeokkkbiaajabDoor
open Go.RowKit Mth

set_option maxHeartbeats 400000 in
set_option maxRecDepth 100000 in
theorem takeTimes_any (g off cap : Nat) (R b : List Nat) (x : Nat) (bv : Value) (w : World) (hR : Row w 36 .u64 g R) (hlim : Lim B64 R) (hoff : off + b.length ≤ R.length) (hc1 : b.length ≤ cap) (hc2 : cap ≤ maxLen)
    (hb : Sl w .u64 bv b) (hbl : Lim B64 b) (hne : inBlock bv ≠ some g) (hp : 0 < b.length) (hx : x < B64) :
    Calls Tryd.prog 72 #[.slice (some ⟨g, off, none⟩) b.length cap, bv, .int .u64 ((x : Nat) : Int)] w fun e w' =>
      ∃ c : Nat, e = .returned (.int .u64 (c : Int)) ∧ ∃ R', Row w' 36 .u64 g R' ∧ w.grownBy w' (some g) ∧ TkT R R' off b x b.length c := by
  have hlen := hb.len
  obtain ⟨bb, boff, bcap, rfl, hb1, hb2, hblt, hbc⟩ := hb.pos hp
  have hne' : bb ≠ g := by simpa [inBlock] using hne
  clear hne hb
  unfold maxLen at hc2 hb2
  have HX := Lib.hid hx; have HL := Lib.hid hlim; have HBL := Lib.hid hbl; have HBC := Lib.hid hbc; have HR := Lib.hid hR
  clear hx hlim hbl hbc hR
  go_enter Tryd.func72, Tryd.ntmps72
  go_wp2
  go_loopw [7, 15] (fun c i wr => ∃ k cc : Nat, k ≤ b.length ∧ i = .int .i64 k ∧ c = .int .u64 (cc : Int) ∧ ∃ R', Row wr 36 .u64 g R' ∧ w.grownBy wr (some g) ∧ TkT R R' off b x k cc)
    (fun _ i _ => b.length - (intOf i).toNat)
  case atStart => exact ⟨0, 0, Nat.zero_le _, rfl, rfl, R, HR.out, World.grownBy.refl _ _, tkT_zero HL.out⟩
  case round =>
    obtain ⟨k, cc, hk, rfl, rfl, R', hR', hgr, hT⟩ := hrel
    by_cases hlt : k < b.length
    · have hcb : wr.cell? ⟨bb, boff + k, none⟩ = some (.int .u64 ((b.getD k 0 : Nat) : Int)) := hgr.cell (HBC.out k hlt) (by simpa using hne')
      have hcr : wr.cell? ⟨g, off + k, none⟩ = some (.int .u64 ((R'.getD (off + k) 0 : Nat) : Int)) := hR'.cell (by rw [hT.len]; omega)
      have hfr : wr.frozen? ⟨g, off + k, none⟩ = false := hR'.free _
      have HT := Lib.hid hT; have HR' := Lib.hid hR'; have HG := Lib.hid hgr
      clear hT hR' hgr
      have hsub : ∀ (x y : Nat) (w : World), (callFunc 73 #[.int .u64 (x : Int), .int .u64 (y : Int), .int .u64 0]).run Tryd.prog w = .ok (.value (.tuple #[.int .u64 ((sLo x y 0 : Nat) : Int), .int .u64 ((sHi x y 0 : Nat) : Int)])) w := fun x y w => sub64_run x y 0 (by omega) w
      generalize hy : b.getD k 0 = y at hcb
      generalize hs : R'.getD (off + k) 0 = s at hcr
      have HY := Lib.hid hy; have HS := Lib.hid hs
      clear hy hs
      have hyl : y < B64 := by rw [← HY.out]; exact HBL.out k
      have hsl : s < B64 := by rw [← HS.out]; exact HT.out.lim _
      have HYL := Lib.hid hyl; have HSL := Lib.hid hsl
      clear hyl hsl
      go_wp2_with fail
      refine (mulAdd_any _ _ _ HX.out HYL.out HT.out.clt _).mono ?_
      rintro e w' ⟨rfl, rfl⟩
      go_wp2
      go_roundw
      case rel =>
        have hset := HR'.out.set (off + k) (sLo s (pLo x y cc) 0)
        have hstep := tkT_step HT.out HX.out HBL.out hlt hoff
        have hcl := borrowT_lt (x := x) (y := y) (c := cc) (s := s) HX.out HYL.out HT.out.clt HSL.out
        rw [HY.out, HS.out] at hstep
        refine ⟨k + 1, borrowT x y cc s, by omega, by go_num, ?_, _, hset.1, grown_trans' HG.out hset.2, hstep⟩
        have e3 := wrap_u64 _ hcl
        rw [← e3]
        simp [borrowT]
      case measure => simp [intOf]; omega
    · have e : k = b.length := by omega
      have HT := Lib.hid hT; have HR' := Lib.hid hR'; have HG := Lib.hid hgr; have E := Lib.hid e
      clear hT hR' hgr e
      go_wp2
      go_ret
      have hT := HT.out
      rw [E.out] at hT
      exact ⟨_, rfl, R', HR'.out, HG.out, hT⟩

theorem drawn_more {w w0 : World} (h : Drawn w w0) (n : Nat) : Drawn w (w0.drewN n) := by
  obtain ⟨m, rfl⟩ := h
  exact ⟨m + n, World.drewN_drewN _ _ _⟩
theorem Drawn.cell {w w' : World} (h : Drawn w w') (a : Addr) : w'.cell? a = w.cell? a := by
  obtain ⟨m, rfl⟩ := h; rfl
/-- what the loop of guessQuotient holds -/
def GuessO (w wr : World) (u v y1 y0 : Nat) (qv rv : Value) : Prop := ∃ q r : Nat, qv = .int .u64 (q : Int) ∧ rv = .int .u64 (r : Int) ∧ HalfG B64 u v y1 y0 q r ∧ r < B64 ∧ q < B64 ∧ Drawn w wr
/-- the product of the guess and the low limb, against what is left -/
theorem guess_le {q d0 r t0 : Nat} (h : mHi q d0 < r ∨ mHi q d0 = r ∧ mLo q d0 ≤ t0) : q * d0 ≤ r * B64 + t0 := by
  have e := m_eq q d0
  have h1 := mLo_lt q d0
  rcases h with h | ⟨h, h'⟩
  · have : (mHi q d0 + 1) * B64 ≤ r * B64 := Nat.mul_le_mul_right _ h
    rw [Nat.add_mul, Nat.one_mul, Nat.mul_comm _ B64] at this
    omega
  · rw [h, Nat.mul_comm B64] at e; omega
theorem guess_gt {q d0 r t0 : Nat} (h1 : ¬ mHi q d0 < r) (h2 : ¬ (mHi q d0 = r ∧ mLo q d0 ≤ t0)) (ht : t0 < B64) : r * B64 + t0 < q * d0 := by
  have e := m_eq q d0
  by_cases h : mHi q d0 = r
  · rw [h, Nat.mul_comm B64] at e
    have : ¬ mLo q d0 ≤ t0 := fun h3 => h2 ⟨h, h3⟩
    omega
  · have : (r + 1) * B64 ≤ mHi q d0 * B64 := Nat.mul_le_mul_right _ (by omega)
    rw [Nat.add_mul, Nat.one_mul, Nat.mul_comm _ B64, Nat.mul_comm (mHi q d0)] at this
    rw [Nat.mul_comm r]
    omega
/-- what guessQuotient answers -/
def GuessP (t2 t1 t0 d1 d0 q : Nat) : Prop := (t2 < d1 ∧ q = hT B64 (t2 * B64 + t1) t0 / hY B64 d1 d0) ∨ (d1 ≤ t2 ∧ q = B64 - 1)

set_option maxHeartbeats 4000000 in
set_option maxRecDepth 100000 in
theorem guess_any (ga offa ca gb offb cb t2 t1 t0 d1 d0 : Nat) (w : World) (_hca : 3 ≤ ca) (_hca2 : ca ≤ maxLen) (_hcb : 2 ≤ cb) (_hcb2 : cb ≤ maxLen)
    (c0 : w.cell? ⟨ga, offa, none⟩ = some (.int .u64 (t0 : Int))) (c1 : w.cell? ⟨ga, offa + 1, none⟩ = some (.int .u64 (t1 : Int))) (c2 : w.cell? ⟨ga, offa + 2, none⟩ = some (.int .u64 (t2 : Int)))
    (e0 : w.cell? ⟨gb, offb, none⟩ = some (.int .u64 (d0 : Int))) (e1 : w.cell? ⟨gb, offb + 1, none⟩ = some (.int .u64 (d1 : Int)))
    (l1 : t1 < B64) (l0 : t0 < B64) (k1 : d1 < B64) (k0 : d0 < B64) (hn : B64 ≤ 2 * d1) :
    Calls Tryd.prog 71 #[.slice (some ⟨ga, offa, none⟩) 3 ca, .slice (some ⟨gb, offb, none⟩) 2 cb] w fun e w' => ∃ q, e = .returned (.int .u64 ((q : Nat) : Int)) ∧ q < B64 ∧ GuessP t2 t1 t0 d1 d0 q ∧ Drawn w w' := by
  unfold maxLen at _hca2 _hcb2
  by_cases hge : d1 ≤ t2
  · have d : decide ((d1 : Int) ≤ (t2 : Int)) = true := decide_eq_true (by omega)
    have dN : decide (d1 ≤ t2) = true := decide_eq_true hge
    have P : Hid (GuessP t2 t1 t0 d1 d0 (B64 - 1)) := Lib.hid (.inr ⟨hge, rfl⟩)
    clear hge l1 l0 k1 k0 hn
    go_enter Tryd.func71, Tryd.ntmps71
    go_wp2
    go_quiet (fail)
    go_wp2
    go_ret
    exact ⟨B64 - 1, rfl, by unfold B64; omega, P.out, ⟨_, rfl⟩⟩
  · have d : decide ((d1 : Int) ≤ (t2 : Int)) = false := decide_eq_false (by omega)
    have dN : decide (d1 ≤ t2) = false := decide_eq_false hge
    have hd1 : 0 < d1 := by have := B64_pos; omega
    have hu : t2 * B64 + t1 < hY B64 d1 d0 := by
      have : (t2 + 1) * B64 ≤ d1 * B64 := Nat.mul_le_mul_right _ (by omega)
      rw [Nat.add_mul, Nat.one_mul] at this
      unfold hY; omega
    have G : GoodY B64 d1 d0 := ⟨k0, hn, hd1, by have := B64_pos; omega⟩
    have HS := half_start hu l0 G
    have HLT := Lib.hid (half_lt hu l0)
    have hr0 : (t2 * B64 + t1) % d1 < d1 := Nat.mod_lt _ hd1
    have hq0 : (t2 * B64 + t1) / d1 < B64 := dgQ_lt (by omega) l1
    have DV := fun w => div64_drawn t2 t1 d1 (by omega) l1 k1 w
    have PP : Hid (∀ q, q = hT B64 (t2 * B64 + t1) t0 / hY B64 d1 d0 → GuessP t2 t1 t0 d1 d0 q) := Lib.hid fun q h => .inl ⟨by omega, h⟩
    generalize (t2 * B64 + t1) / d1 = q0 at *
    generalize (t2 * B64 + t1) % d1 = r0 at *
    generalize t2 * B64 + t1 = u at *
    have HC0 := Lib.hid c0; have HE0 := Lib.hid e0; have HE1 := Lib.hid e1
    have HG := Lib.hid G; have HSS := Lib.hid HS; have DVV := Lib.hid DV; have L0 := Lib.hid l0; have K1 := Lib.hid k1; have K0 := Lib.hid k0; have HR0 := Lib.hid hr0; have HQ0 := Lib.hid hq0
    clear G HS DV l1 l0 k1 k0 hn hu hr0 hq0 hge hd1
    go_enter Tryd.func71, Tryd.ntmps71
    go_wp2
    go_quiet (fail)
    go_wp2
    have f0 : (w.drewN nq).cell? ⟨ga, offa, none⟩ = some (.int .u64 (t0 : Int)) := c0
    have f1 : (w.drewN nq).cell? ⟨ga, offa + 1, none⟩ = some (.int .u64 (t1 : Int)) := c1
    have f2 : (w.drewN nq).cell? ⟨ga, offa + 2, none⟩ = some (.int .u64 (t2 : Int)) := c2
    have g0 : (w.drewN nq).cell? ⟨gb, offb, none⟩ = some (.int .u64 (d0 : Int)) := e0
    have g1 : (w.drewN nq).cell? ⟨gb, offb + 1, none⟩ = some (.int .u64 (d1 : Int)) := e1
    have HW : Hid (Drawn w (w.drewN nq)) := Lib.hid ⟨nq, rfl⟩
    clear c0 c1 c2 e0 e1
    generalize w.drewN nq = w0 at *
    go_quiet ((go_at_call 51; exact Calls.quiet_of (DVV.out _)))
    go_wp2
    go_loopw [5, 6] (fun qv rv wr => GuessO w wr u t0 d1 d0 qv rv) (fun qv _ _ => (intOf qv).toNat)
    case atStart => exact ⟨q0, r0, rfl, rfl, HSS.out, Nat.lt_trans HR0.out K1.out, HQ0.out, drawn_more HW.out _⟩
    case round =>
      obtain ⟨q, r, rfl, rfl, hG, hr, hq, hdr⟩ := hrel
      have h0 : wr.cell? ⟨ga, offa, none⟩ = some (.int .u64 (t0 : Int)) := (hdr.cell _).trans HC0.out
      have i0 : wr.cell? ⟨gb, offb, none⟩ = some (.int .u64 (d0 : Int)) := (hdr.cell _).trans HE0.out
      have i1 : wr.cell? ⟨gb, offb + 1, none⟩ = some (.int .u64 (d1 : Int)) := (hdr.cell _).trans HE1.out
      have HDR := Lib.hid hdr
      clear hdr
      have HGG := Lib.hid hG
      have ST : Hid (q * d0 ≤ r * B64 + t0 → q = hT B64 u t0 / hY B64 d1 d0) := Lib.hid (half_stop hG HG.out)
      have MO : Hid (r * B64 + t0 < q * d0 → 1 ≤ q ∧ HalfG B64 u t0 d1 d0 (q - 1) (r + d1)) := Lib.hid (fun h => half_more hG HLT.out HG.out (.inr h))
      have ML := fun w => mul64_any q d0 hq K0.out w
      have HQ := Lib.hid hq; have HR := Lib.hid hr
      have hadd := fun w => add64_run0 r d1 w
      clear hG hr hq
      by_cases hlt : mHi q d0 < r
      · have hd1 : decide (mHi q d0 < r) = true := decide_eq_true hlt
        have hd2 : decide (((mHi q d0 : Nat) : Int) < (r : Int)) = true := decide_eq_true (by omega)
        have Q := Lib.hid (PP.out _ (ST.out (guess_le (.inl hlt))))
        clear hlt hadd
        generalize mHi q d0 = hh at *
        generalize mLo q d0 = ll at *
        go_wp2_with fail
        refine (ML _).mono ?_
        rintro e w' ⟨rfl, rfl⟩
        go_wp2
        go_ret
        exact ⟨q, rfl, HQ.out, Q.out, HDR.out⟩
      · have hd1 : decide (mHi q d0 < r) = false := decide_eq_false hlt
        have hd2 : decide (((mHi q d0 : Nat) : Int) < (r : Int)) = false := decide_eq_false (by omega)
        by_cases heq : mHi q d0 = r ∧ mLo q d0 ≤ t0
        · have hd3 : (((mHi q d0 : Nat) : Int) == (r : Int)) = true := by rw [heq.1]; simp
          have hd4 : decide (mLo q d0 ≤ t0) = true := decide_eq_true heq.2
          have hd5 : decide (((mLo q d0 : Nat) : Int) ≤ (t0 : Int)) = true := decide_eq_true (by omega)
          have Q := Lib.hid (PP.out _ (ST.out (guess_le (.inr heq))))
          clear hlt hadd heq
          generalize mHi q d0 = hh at *
          generalize mLo q d0 = ll at *
          go_wp2_with fail
          refine (ML _).mono ?_
          rintro e w' ⟨rfl, rfl⟩
          go_wp2
          go_ret
          exact ⟨q, rfl, HQ.out, Q.out, HDR.out⟩
        · have M2 := Lib.hid (MO.out (guess_gt hlt heq L0.out))
          have hq1 : 1 ≤ q := M2.out.1
          have hwq : IntKind.u64.wrap ((q : Int) - 1) = ((q - 1 : Nat) : Int) := by
            have := HQ.out
            unfold B64 at this
            rw [IntKind.wrap_u64]; omega
          have QM : Hid (q - 1 < q) := Lib.hid (by omega)
          have QB : Hid (q - 1 < B64) := Lib.hid (by have := HQ.out; omega)
          have hcase : (((mHi q d0 : Nat) : Int) == (r : Int)) = false ∨ (((mHi q d0 : Nat) : Int) == (r : Int)) = true ∧ decide (mLo q d0 ≤ t0) = false ∧ decide (((mLo q d0 : Nat) : Int) ≤ (t0 : Int)) = false := by
            by_cases h : mHi q d0 = r
            · right
              have h2 : ¬ mLo q d0 ≤ t0 := fun h2 => heq ⟨h, h2⟩
              exact ⟨by rw [h]; simp, decide_eq_false h2, decide_eq_false (by omega)⟩
            · left
              exact beq_eq_false_iff_ne.2 (by omega)
          generalize hqq : q - 1 = q2 at *
          clear hlt heq hqq hq1
          generalize mHi q d0 = hh at *
          generalize mLo q d0 = ll at *
          by_cases hov : B64 ≤ r + d1
          · have hA : aHi r d1 0 = 1 := by
              have h1 := aHi_le (x := r) (y := d1) (c := 0) HR.out K1.out (by omega)
              have h2 := a_eq r d1 0
              have h3 := aLo_lt r d1 0
              rcases Nat.eq_zero_or_pos (aHi r d1 0) with h0 | h0
              · rw [h0] at h2; omega
              · omega
            rw [hA] at hadd
            have Q := Lib.hid (PP.out _ (half_break M2.out.2 HG.out (by have := QB.out; omega) hov))
            generalize aLo r d1 0 = rr at *
            have hadd2 : ∀ w, (callFunc 43 #[.int .u64 (r : Int), .int .u64 (d1 : Int), .int .u64 0]).run Tryd.prog w = .ok (.value (.tuple #[.int .u64 (rr : Int), .int .u64 1])) w := hadd
            clear hadd hA hov
            rcases hcase with h1 | ⟨h1, h2, h3⟩ <;> (
              go_wp2_with fail
              refine (ML _).mono ?_
              rintro e w' ⟨rfl, rfl⟩
              go_wp2
              go_ret
              exact ⟨q2, rfl, QB.out, Q.out, HDR.out⟩)
          · have hA : aHi r d1 0 = 0 := by
              have h2 := a_eq r d1 0
              rcases Nat.eq_zero_or_pos (aHi r d1 0) with h0 | h0
              · exact h0
              · have : B64 * 1 ≤ B64 * aHi r d1 0 := Nat.mul_le_mul_left _ h0
                omega
            have hL : aLo r d1 0 = r + d1 := by
              have h2 := a_eq r d1 0
              rw [hA] at h2; omega
            rw [hA, hL] at hadd
            have R2 : Hid (r + d1 < B64) := Lib.hid (by omega)
            have H2 := Lib.hid M2.out.2
            generalize r + d1 = rr at *
            have hadd2 : ∀ w, (callFunc 43 #[.int .u64 (r : Int), .int .u64 (d1 : Int), .int .u64 0]).run Tryd.prog w = .ok (.value (.tuple #[.int .u64 (rr : Int), .int .u64 0])) w := hadd
            clear hadd hA hL hov
            rcases hcase with h1 | ⟨h1, h2, h3⟩ <;> (
              go_wp2_with fail
              refine (ML _).mono ?_
              rintro e w' ⟨rfl, rfl⟩
              go_wp2
              go_roundw
              case rel => exact ⟨q2, rr, rfl, rfl, H2.out, R2.out, QB.out, HDR.out⟩
              case measure => have := QM.out; simp [intOf]; omega)
/-- the guess itself -/
def guessF (t2 t1 t0 d1 d0 : Nat) : Nat := if t2 < d1 then hT B64 (t2 * B64 + t1) t0 / hY B64 d1 d0 else B64 - 1
theorem guessF_P (t2 t1 t0 d1 d0 : Nat) : GuessP t2 t1 t0 d1 d0 (guessF t2 t1 t0 d1 d0) := by
  unfold GuessP guessF
  by_cases h : t2 < d1
  · rw [if_pos h]; exact .inl ⟨h, rfl⟩
  · rw [if_neg h]; exact .inr ⟨by omega, rfl⟩
theorem guessF_eq {t2 t1 t0 d1 d0 q : Nat} (h : GuessP t2 t1 t0 d1 d0 q) : q = guessF t2 t1 t0 d1 d0 := by
  unfold guessF
  rcases h with ⟨h1, h2⟩ | ⟨h1, h2⟩
  · rw [if_pos h1]; exact h2
  · rw [if_neg (by omega)]; exact h2
theorem guessF_lt {t2 t1 t0 d1 d0 : Nat} (l1 : t1 < B64) (l0 : t0 < B64) : guessF t2 t1 t0 d1 d0 < B64 := by
  unfold guessF
  by_cases h : t2 < d1
  · rw [if_pos h]
    refine half_lt ?_ l0
    have : (t2 + 1) * B64 ≤ d1 * B64 := Nat.mul_le_mul_right _ h
    rw [Nat.add_mul, Nat.one_mul] at this
    unfold hY; omega
  · rw [if_neg h]; have := B64_pos; omega
end Go.Proofs.YtafeokkkbiaajabDoor
