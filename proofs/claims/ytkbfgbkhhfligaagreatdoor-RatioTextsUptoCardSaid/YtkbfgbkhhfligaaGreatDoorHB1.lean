/- HMath HA HB HC HD HE HF. -/
import Derived.Test.YtkbfgbkhhfligaaGreatDoorMA
import Derived.Test.YtkbfgbkhhfligaaGreatDoorZ2
import Derived.Test.YtkbfgbkhhfligaaGreatDoorSM
import Derived.Test.YtkbfgbkhhfligaaGreatDoorQA
import Derived.Deep.RegionWith
import Derived.Test.YtkbfgbkhhfligaaGreatDoorZ3
import Derived.Test.YtkbfgbkhhfligaaGreatDoorZB4
set_option linter.unusedVariables false
set_option linter.unusedSimpArgs false
/- Division by hand of long numbers, in plain mathematics: carry and borrow apart; a guess by the two highest limbs. -/
namespace Go.Proofs.YtkbfgbkhhfligaaGreatDoor.Mth

theorem tkT_gen {R R' : List Nat} {off : Nat} {b : List Nat} {x k c s' c' : Nat} (h : TkT R R' off b x k c) (hx : x < B64) (hb : Lim B64 b) (hk : k < b.length) (hoff : off + b.length ≤ R.length) (hs : s' < B64)
    (e1 : s' + x * b.getD k 0 + c = R'.getD (off + k) 0 + B64 * c') : TkT R (R'.set (off + k) s') off b x (k + 1) c' := by
  have hl := h.len
  have hc' : c' < B64 := by
    have h1 := hb k
    have h2 : x * b.getD k 0 ≤ (B64 - 1) * (B64 - 1) := Nat.mul_le_mul (by omega) (by omega)
    have h3 : (B64 - 1) * (B64 - 1) + 2 * (B64 - 1) < B64 * B64 := by unfold B64; omega
    have := h.clt
    have h4 : B64 * c' < B64 * B64 := by omega
    exact Nat.lt_of_mul_lt_mul_left h4
  refine ⟨by rw [List.length_set, hl], ?_, lim_set h.lim hs _, hc', ?_⟩
  · intro j hj
    rw [getD_set' _ _ _ _ (by omega), if_neg (by omega)]
    exact h.rest j (by omega)
  · rw [seg_succ _ _ _ (by rw [List.length_set]; omega), getD_set' _ _ _ _ (by omega), if_pos rfl, seg_succ R off k (by omega), val_take_succ B64 b k hk]
    have e0 : seg (R'.set (off + k) s') off k = seg R' off k :=
      seg_congr (by rw [List.length_set]) (fun j h1 h2 => by rw [getD_set' _ _ _ _ (by omega), if_neg (by omega)]) (by rw [List.length_set]; omega)
    rw [e0]
    have e3 := h.eq
    have e4 := h.rest (off + k) (by omega)
    rw [e4] at e1
    generalize b.getD k 0 = y at *
    generalize R.getD (off + k) 0 = s at *
    generalize seg R' off k = s1 at *
    generalize seg R off k = s2 at *
    generalize val B64 (b.take k) = vb at *
    have e7 : B64 ^ k * s' + B64 ^ k * (x * y) + B64 ^ k * c = B64 ^ k * s + B64 ^ k * (B64 * c') := by rw [← Nat.mul_add, ← Nat.mul_add, e1, Nat.mul_add]
    have e8 : x * (B64 ^ k * y) = B64 ^ k * (x * y) := Nat.mul_left_comm _ _ _
    rw [Nat.pow_succ, Nat.mul_assoc, Nat.mul_add x vb, e8]
    omega
/-- one round with carry and borrow apart -/
theorem two_eq {x y c d s : Nat} (hs : s < B64) (hd : d ≤ 1) :
    sLo s (aLo (mLo x y) c 0) d + x * y + (c + d) = s + B64 * (mHi x y + aHi (mLo x y) c 0 + sHi s (aLo (mLo x y) c 0) d) := by
  have e1 := m_eq x y
  have e2 := a_eq (mLo x y) c 0
  have e3 := s_eq (x := s) (y := aLo (mLo x y) c 0) (b := d) hs (aLo_lt _ _ _) hd
  rw [Nat.mul_add, Nat.mul_add]
  omega
theorem two_carry {x y c : Nat} (hx : x < B64) (hy : y < B64) (hc : c < B64) : mHi x y + aHi (mLo x y) c 0 < B64 := by
  have e1 := m_eq x y
  have e2 := a_eq (mLo x y) c 0
  have h2 : x * y ≤ (B64 - 1) * (B64 - 1) := Nat.mul_le_mul (by omega) (by omega)
  have h3 : (B64 - 1) * (B64 - 1) + 2 * (B64 - 1) < B64 * B64 := by unfold B64; omega
  have h4 : B64 * (mHi x y + aHi (mLo x y) c 0) < B64 * B64 := by rw [Nat.mul_add]; omega
  exact Nat.lt_of_mul_lt_mul_left h4
theorem sLo_two {s c d : Nat} (hs : s < B64) (hc : c + d < B64) : sLo s c d = if c + d ≤ s then s - (c + d) else s + B64 - (c + d) := by
  unfold sLo
  unfold B64 at *
  split <;> omega
theorem sHi_two {s c d : Nat} : ((((sHi s c d : Nat) : Int) != 0) : Bool) = decide (s < c + d) := by
  unfold sHi
  by_cases h : s < c + d
  · rw [if_pos h, decide_eq_true h]; rfl
  · rw [if_neg h, decide_eq_false h]; rfl

/-- the guess that whole makes: the highest limbs, b's two, divided; all ones, if that is no limb -/
def gsq (T E : Nat) : Nat := if T / E < B64 then T / E else B64 - 1
theorem gsq_lt (T E : Nat) : gsq T E < B64 := by unfold gsq; have := B64_pos; split <;> omega
theorem gsq_ok {M P D T E Pl Dl : Nat} (hP : P = T * M + Pl) (hPl : Pl < M) (hD : D = E * M + Dl) (hDl : Dl < M) (hE : B64 ≤ E ∨ M = 1) (hE0 : 0 < E) (hlt : P < B64 * D) :
    P / D ≤ gsq T E ∧ gsq T E ≤ P / D + 1 := by
  rcases hE with hE | rfl
  · by_cases h : T / E < B64
    · have := guess_ok hP hPl hD hDl hE rfl h
      rw [gsq, if_pos h]; exact this
    · rw [gsq, if_neg h]
      have hM : 0 < M := by omega
      have hD0 : 0 < D := by have := Nat.mul_pos hE0 hM; omega
      constructor
      · have := (Nat.div_lt_iff_lt_mul hD0).2 hlt
        omega
      · have h1 : B64 * E ≤ T := (Nat.le_div_iff_mul_le hE0).1 (by omega)
        have h2 : B64 * E * M ≤ T * M := Nat.mul_le_mul_right _ h1
        have h3 : (B64 - 2) * D ≤ P := by
          have h4 : (B64 - 2) * D ≤ (B64 - 2) * ((E + 1) * M) := Nat.mul_le_mul_left _ (by rw [hD, Nat.add_mul, Nat.one_mul]; omega)
          have h5 : (B64 - 2) * (E + 1) ≤ B64 * E := by
            unfold B64 at *
            omega
          have h6 : (B64 - 2) * (E + 1) * M ≤ B64 * E * M := Nat.mul_le_mul_right _ h5
          rw [Nat.mul_assoc] at h6
          omega
        have := (Nat.le_div_iff_mul_le hD0).2 h3
        unfold B64 at *
        omega
  · have e1 : P = T := by omega
    have e2 : D = E := by omega
    subst e1 e2
    have h : P / D < B64 := (Nat.div_lt_iff_lt_mul hE0).2 hlt
    rw [gsq, if_pos h]
    exact ⟨Nat.le_refl _, Nat.le_succ _⟩
end Go.Proofs.YtkbfgbkhhfligaaGreatDoor.Mth

/- Package whole: takeTimes. -/
namespace Go.Proofs.YtkbfgbkhhfligaaGreatDoor
open Go.RowKit Mth

/-- what takeTimes's loop holds -/
def TkW (w wr : World) (g : Nat) (pre : List Value) (xs b : List Nat) (x : Nat) (post : List Value) (ca bo i : Value) : Prop :=
  ∃ (k c d : Nat) (ys : List Nat), k ≤ b.length ∧ i = .int .i64 k ∧ ca = .int .u64 (c : Int) ∧ bo = .int .u64 (d : Int) ∧ c < B64 ∧ d ≤ 1 ∧ TkT xs ys 0 b x k (c + d) ∧ Mid wr g pre ys post ∧ w.grownBy wr (some g)

set_option maxHeartbeats 2000000 in
set_option maxRecDepth 100000 in
theorem wtakeTimes_any (g off cap x : Nat) (pre post : List Value) (xs b : List Nat) (bv : Value) (w : World) (hoff : pre.length = off) (hM : Mid w g pre xs post) (lx : Lim B64 xs) (hb : Sl w .u64 bv b) (lb : Lim B64 b) (hne : inBlock bv ≠ some g) (hp : 0 < b.length) (hlen : xs.length = b.length + 1)
    (hcap : xs.length ≤ cap) (hm : cap ≤ maxLen) (_ho : off ≤ 16777217) (hx : x < B64) :
    Calls Tryz.prog 227 #[.slice (some ⟨g, off, none⟩) xs.length cap, bv, .int .u64 (x : Int)] w fun e w' => ∃ (ys : List Nat) (c : Nat), e = .returned (.bool (decide (ys.getD b.length 0 < c))) ∧
      Mid w' g pre (ys.set b.length (if c ≤ ys.getD b.length 0 then ys.getD b.length 0 - c else ys.getD b.length 0 + B64 - c)) post ∧ w.grownBy w' (some g) ∧ TkT xs ys 0 b x b.length c := by
  have hbl := hb.len
  obtain ⟨bb, boff, cap2, rfl, h1, h2, hblt, hbc⟩ := hb.pos hp
  have HNE : Hid (bb ≠ g) := Lib.hid (by simpa [inBlock] using hne)
  have HO := Lib.hid hoff; have HC := Lib.hid hbc; have HM := Lib.hid hM; have LX := Lib.hid lx; have LB := Lib.hid lb; have HX := Lib.hid hx; have HLE := Lib.hid hlen
  unfold maxLen at h2 hm
  clear hM lx lb hne hoff hbc hb hx
  rw [hlen] at hcap ⊢
  clear hlen
  go_enter Tryz.func227, Tryz.ntmps227
  go_wp2
  go_loopw [7, 8, 16] (fun c d i wr => TkW w wr g pre xs b x post c d i) (fun _ _ i _ => b.length - (intOf i).toNat)
  case atStart => exact ⟨0, 0, 0, xs, Nat.zero_le _, rfl, rfl, rfl, by unfold B64; omega, by omega, tkT_zero LX.out, HM.out, World.grownBy.refl _ _⟩
  case round =>
    obtain ⟨k, c, d, ys, hk, rfl, rfl, rfl, hcl, hdl, hT, hrow, hgr⟩ := hrel
    have HT := Lib.hid hT; have HROW := Lib.hid hrow; have HG := Lib.hid hgr
    have hyl : ys.length = b.length + 1 := by rw [hT.len]; exact HLE.out
    by_cases hlt : k < b.length
    · have hcb : wr.cell? ⟨bb, boff + k, none⟩ = some (.int .u64 ((b.getD k 0 : Nat) : Int)) := hgr.cell (HC.out k hlt) (by simpa using HNE.out)
      have hky : k < ys.length := by omega
      have hcr : wr.cell? ⟨g, off + k, none⟩ = some (.int .u64 ((ys.getD k 0 : Nat) : Int)) := by rw [← HO.out]; exact hrow.cell hky
      have hfr : wr.frozen? ⟨g, off + k, none⟩ = false := hrow.free _
      have HKY := Lib.hid hky
      have hy := LB.out k; have hs := hT.lim k
      have STEP : Hid (TkT xs (ys.set k (sLo (ys.getD k 0) (aLo (mLo x (b.getD k 0)) c 0) d)) 0 b x (k + 1) (mHi x (b.getD k 0) + aHi (mLo x (b.getD k 0)) c 0 + sHi (ys.getD k 0) (aLo (mLo x (b.getD k 0)) c 0) d)) := Lib.hid (by
        have := tkT_gen (s' := sLo (ys.getD (0 + k) 0) (aLo (mLo x (b.getD k 0)) c 0) d) (c' := mHi x (b.getD k 0) + aHi (mLo x (b.getD k 0)) c 0 + sHi (ys.getD (0 + k) 0) (aLo (mLo x (b.getD k 0)) c 0) d) hT HX.out LB.out hlt (by have := HLE.out; omega) (sLo_lt _ _ _) (two_eq (hT.lim _) hdl)
        simpa only [Nat.zero_add] using this)
      have CAR := Lib.hid (two_carry HX.out hy hcl)
      have MUL := Lib.hid (fun w => mul64_any x (b.getD k 0) HX.out hy w)
      have hadd := fun w => add64_run0 (mLo x (b.getD k 0)) c w
      have hsub := fun w => sub64_run (ys.getD k 0) (aLo (mLo x (b.getD k 0)) c 0) d hdl w
      have hd1 := sHi_le (ys.getD k 0) (aLo (mLo x (b.getD k 0)) c 0) d
      have HD1 := Lib.hid hd1
      have hw : IntKind.u64.wrap ((mHi x (b.getD k 0) : Int) + ((aHi (mLo x (b.getD k 0)) c 0 : Nat) : Int)) = ((mHi x (b.getD k 0) + aHi (mLo x (b.getD k 0)) c 0 : Nat) : Int) := by
        rw [← wrap_u64 _ CAR.out]; congr 1
      generalize b.getD k 0 = y at *
      generalize ys.getD k 0 = s at *
      generalize sLo s (aLo (mLo x y) c 0) d = s2 at *
      generalize sHi s (aLo (mLo x y) c 0) d = d2 at *
      generalize aLo (mLo x y) c 0 = l2 at *
      generalize aHi (mLo x y) c 0 = ov at *
      generalize mLo x y = lo at *
      generalize mHi x y = hi at *
      clear hT hrow hgr hky hy hs hcl hdl hd1
      go_wp2_with fail
      refine (MUL.out _).mono ?_
      rintro e w' ⟨rfl, rfl⟩
      go_wp2
      go_roundw
      case rel =>
        have hset := HROW.out.set HKY.out s2
        rw [HO.out] at hset
        exact ⟨k + 1, hi + ov, d2, _, by omega, by go_num, rfl, rfl, CAR.out, HD1.out, STEP.out, hset.1, grown_trans' HG.out hset.2⟩
      case measure => simp [intOf]; omega
    · obtain rfl : k = b.length := by omega
      have hky : b.length < ys.length := by omega
      have hcr : wr.cell? ⟨g, off + b.length, none⟩ = some (.int .u64 ((ys.getD b.length 0 : Nat) : Int)) := by rw [← HO.out]; exact hrow.cell hky
      have hfr : wr.frozen? ⟨g, off + b.length, none⟩ = false := hrow.free _
      have HKY := Lib.hid hky
      have hs := hT.lim b.length
      have hsub := fun w => sub64_run (ys.getD b.length 0) c d hdl w
      have E1 := Lib.hid (sLo_two (d := d) hs hT.clt)
      have E2 : Hid ((((sHi (ys.getD b.length 0) c d : Nat) : Int) != 0) = decide (ys.getD b.length 0 < c + d)) := Lib.hid sHi_two
      obtain ⟨s2, es2⟩ : ∃ s2, s2 = sLo (ys.getD b.length 0) c d := ⟨_, rfl⟩
      obtain ⟨d2, ed2⟩ : ∃ d2, d2 = sHi (ys.getD b.length 0) c d := ⟨_, rfl⟩
      rw [← es2] at E1
      rw [← ed2] at E2
      rw [← es2, ← ed2] at hsub
      obtain ⟨s, es⟩ : ∃ s, s = ys.getD b.length 0 := ⟨_, rfl⟩
      rw [← es] at hcr hsub
      have ES := Lib.hid es
      clear hT hrow hgr hky hs hcl hdl es es2 ed2
      go_wp2
      go_ret
      have hset := HROW.out.set HKY.out s2
      rw [HO.out] at hset
      refine ⟨ys, c + d, by rw [← E2.out]; rfl, ?_, grown_trans' HG.out hset.2, HT.out⟩
      rw [← E1.out]
      exact hset.1
end Go.Proofs.YtkbfgbkhhfligaaGreatDoor

/- Package whole: guessQuotient. -/
namespace Go.Proofs.YtkbfgbkhhfligaaGreatDoor
open Go.RowKit Mth

theorem Sl.dropm {w : World} {k : IntKind} {b off n cap m : Nat} {xs : List Nat} (h : Sl w k (.slice (some ⟨b, off, none⟩) n cap) xs) (hm : m < n) : Sl w k (.slice (some ⟨b, off + m, none⟩) (n - m) (cap - m)) (xs.drop m) := by
  obtain ⟨ao, cap', e, h1, h2, h3, h4, h5⟩ := h
  simp only [Value.slice.injEq] at e
  obtain ⟨rfl, rfl, rfl⟩ := e
  have hl : (xs.drop m).length = xs.length - m := List.length_drop ..
  obtain ⟨b', off', e, hlt, hc⟩ := h5 (by omega)
  simp only [Option.some.injEq, Addr.mk.injEq, and_true] at e
  obtain ⟨rfl, rfl⟩ := e
  refine ⟨_, _, by rw [hl], by omega, by omega, by omega, (fun e => by cases e), fun hp => ⟨b, off + m, rfl, hlt, fun j hj => ?_⟩⟩
  rw [getD_drop, Nat.add_assoc]
  exact hc _ (by omega)
theorem Sl.parts {w : World} {k : IntKind} {b off n cap : Nat} {xs : List Nat} (h : Sl w k (.slice (some ⟨b, off, none⟩) n cap) xs) : xs.length = n ∧ n ≤ cap ∧ cap ≤ maxLen ∧ n ≤ 16777216 := by
  obtain ⟨ao, cap', e, h1, h2, h3, _⟩ := h
  simp only [Value.slice.injEq] at e
  obtain ⟨rfl, rfl, rfl⟩ := e
  exact ⟨rfl, h1, h2, h3⟩
/-- what guessQuotient's division answers -/
def GQ (w : World) (u v : Value) (T E : Nat) : Prop := ∀ w1, Below w.heap.size w w1 → Calls Tryz.prog 133 #[u, v] w1 fun e w' => ∃ vq vr, e = .returned (.tuple #[vq, vr, .int .i64 0]) ∧ Num w' vq (T / E) ∧ Below w1.heap.size w1 w'
theorem gq_of {w : World} {u v : Value} {xs ys : List Nat} (h1 : Sl w .u64 u xs) (h2 : Sl w .u64 v ys) (l1 : Lim B64 xs) (l2 : Lim B64 ys) (n1 : xs.length ≤ 3) (n2 : ys.length ≤ 2) (h0 : 0 < val B64 ys) : GQ w u v (val B64 xs) (val B64 ys) := fun w1 hb => by
  have b3 : ∀ zs : List Nat, Lim B64 zs → zs.length ≤ 3 → val B64 zs < Big := fun zs l h => Nat.lt_of_lt_of_le (val_lt l) (Nat.pow_le_pow_right (by have := B64_pos; omega) (by unfold maxL; omega))
  have hx := b3 _ l1 n1; have hy := b3 _ l2 (by omega)
  have F := quo_fine (show ¬ (Big ≤ val B64 xs ∨ Big ≤ val B64 ys) by omega) (by omega)
  refine (quo_any u v xs ys w1 (h1.below hb) (h2.below hb) l1 l2).mono ?_
  rintro e w' ⟨vq, vr, rfl, hq, _, hb'⟩
  rw [F.1] at hq
  exact ⟨vq, vr, by rw [F.2.2], hq.num, hb'⟩
/-- Small of a quotient -/
theorem small_num {v : Value} {n : Nat} {w : World} (h : Num w v n) : Calls Tryz.prog 191 #[v] w fun e w' => e = .returned (.tuple #[.int .u64 ((smallV n : Nat) : Int), .bool (smallB n)]) ∧ Below w.heap.size w w' := by
  obtain ⟨xs, s, l, _, rfl⟩ := h
  exact small_any v xs w s l

set_option maxHeartbeats 4000000 in
set_option maxRecDepth 100000 in
theorem wguess_two (g off cap bb boff bcap m T E : Nat) (w : World) (hc1 : m + 3 ≤ cap) (hc2 : cap ≤ maxLen) (hc3 : m + 2 ≤ bcap) (hc4 : bcap ≤ maxLen) (hm : m ≤ 16777216)
    (hq : GQ w (.slice (some ⟨g, off + m, none⟩) 3 (cap - m)) (.slice (some ⟨bb, boff + m, none⟩) 2 (bcap - m)) T E) :
    Calls Tryz.prog 226 #[.slice (some ⟨g, off, none⟩) (m + 3) cap, .slice (some ⟨bb, boff, none⟩) (m + 2) bcap] w fun e w' => e = .returned (.int .u64 ((gsq T E : Nat) : Int)) ∧ Below w.heap.size w w' := by
  have HQ := Lib.hid hq
  clear hq
  unfold maxLen at hc2 hc4
  have hw1 : IntKind.i64.wrap ((m : Int) + 2 - 2) = (m : Int) := by rw [IntKind.wrap_i64]; omega
  have hw2 : IntKind.i64.wrap (m : Int) = (m : Int) := by rw [IntKind.wrap_i64]; omega
  have hcm1 : ¬ cap = m := by omega
  have hcm2 : ¬ bcap = m := by omega
  have hcm3 : (m : Int) ≤ (m : Int) + 3 := by omega
  have hcm4 : (m : Int) ≤ (m : Int) + 2 := by omega
  go_enter Tryz.func226, Tryz.ntmps226
  go_wp2
  go_region_with (first
    | (go_at_call 58; refine Calls.mono (limbs_is _ _ _ _) ?_; rintro e w1 ⟨rfl, rfl⟩)
    | (go_at_call 133; refine Calls.mono (HQ.out _ ?_) ?_; (first | exact (Below.refl _ _) | exact (Below.refl _ _).drew); rintro e w2 ⟨vq, vr, rfl, hn, hb⟩; have HN := Lib.hid hn; have HB := Lib.hid (below_of (Below.refl w.heap.size w).drew hb); obtain ⟨aq, kq, cq, rfl⟩ := hn.nm.shape; clear hn hb))
  all_goals
    go_wp2_with fail
    refine (small_num HN.out).mono ?_
    rintro e w3 ⟨rfl, hb3⟩
    have HB3 := Lib.hid (below_of HB.out hb3)
    clear hb3
    by_cases hfit : T / E < B64
    · have e1 : smallV (T / E) = gsq T E := by unfold smallV gsq; rw [if_pos hfit, if_pos hfit]
      have e2 : smallB (T / E) = true := decide_eq_true hfit
      rw [e1, e2]
      clear e1 e2 hfit
      go_wp2
      go_ret
      exact ⟨rfl, HB3.out⟩
    · have E1 : Hid (((gsq T E : Nat) : Int) = 18446744073709551615) := Lib.hid (by unfold gsq B64; rw [if_neg (by unfold B64 at hfit; exact hfit)]; rfl)
      have e2 : smallB (T / E) = false := decide_eq_false hfit
      rw [e2]
      clear e2 hfit
      go_wp2
      go_ret
      exact ⟨by rw [E1.out]; rfl, HB3.out⟩

set_option maxHeartbeats 4000000 in
set_option maxRecDepth 100000 in
theorem wguess_one (g off cap bb boff bcap T E : Nat) (w : World) (hc1 : 2 ≤ cap) (hc2 : cap ≤ maxLen) (hc3 : 1 ≤ bcap) (hc4 : bcap ≤ maxLen)
    (hq : GQ w (.slice (some ⟨g, off, none⟩) 2 cap) (.slice (some ⟨bb, boff, none⟩) 1 bcap) T E) :
    Calls Tryz.prog 226 #[.slice (some ⟨g, off, none⟩) 2 cap, .slice (some ⟨bb, boff, none⟩) 1 bcap] w fun e w' => e = .returned (.int .u64 ((gsq T E : Nat) : Int)) ∧ Below w.heap.size w w' := by
  have HQ := Lib.hid hq
  clear hq
  unfold maxLen at hc2 hc4
  have hcm1 : ¬ cap = 0 := by omega
  have hcm2 : ¬ bcap = 0 := by omega
  go_enter Tryz.func226, Tryz.ntmps226
  go_wp2
  go_region_with (first
    | (go_at_call 58; refine Calls.mono (limbs_is _ _ _ _) ?_; rintro e w1 ⟨rfl, rfl⟩)
    | (go_at_call 133; refine Calls.mono (HQ.out _ ?_) ?_; (first | exact (Below.refl _ _) | exact (Below.refl _ _).drew); rintro e w2 ⟨vq, vr, rfl, hn, hb⟩; have HN := Lib.hid hn; have HB := Lib.hid (below_of (Below.refl w.heap.size w).drew hb); obtain ⟨aq, kq, cq, rfl⟩ := hn.nm.shape; clear hn hb))
  all_goals
    go_wp2_with fail
    refine (small_num HN.out).mono ?_
    rintro e w3 ⟨rfl, hb3⟩
    have HB3 := Lib.hid (below_of HB.out hb3)
    clear hb3
    by_cases hfit : T / E < B64
    · have e1 : smallV (T / E) = gsq T E := by unfold smallV gsq; rw [if_pos hfit, if_pos hfit]
      have e2 : smallB (T / E) = true := decide_eq_true hfit
      rw [e1, e2]
      clear e1 e2 hfit
      go_wp2
      go_ret
      exact ⟨rfl, HB3.out⟩
    · have E1 : Hid (((gsq T E : Nat) : Int) = 18446744073709551615) := Lib.hid (by unfold gsq B64; rw [if_neg (by unfold B64 at hfit; exact hfit)]; rfl)
      have e2 : smallB (T / E) = false := decide_eq_false hfit
      rw [e2]
      clear e2 hfit
      go_wp2
      go_ret
      exact ⟨by rw [E1.out]; rfl, HB3.out⟩

/-- the guess, whatever the lengths -/
theorem wguess_any (g off cap bb boff bcap n : Nat) (xs ys : List Nat) (w : World) (hx : Sl w .u64 (.slice (some ⟨g, off, none⟩) (n + 1) cap) xs) (hy : Sl w .u64 (.slice (some ⟨bb, boff, none⟩) n bcap) ys) (lx : Lim B64 xs) (ly : Lim B64 ys) (ty : Top ys) (hn : 0 < n) (hlt : val B64 xs < B64 * val B64 ys) :
    Calls Tryz.prog 226 #[.slice (some ⟨g, off, none⟩) (n + 1) cap, .slice (some ⟨bb, boff, none⟩) n bcap] w fun e w' => ∃ q : Nat, e = .returned (.int .u64 (q : Int)) ∧ q < B64 ∧ val B64 xs / val B64 ys ≤ q ∧ q ≤ val B64 xs / val B64 ys + 1 ∧ Below w.heap.size w w' := by
  obtain ⟨px1, px2, px3, px4⟩ := hx.parts
  obtain ⟨py1, py2, py3, py4⟩ := hy.parts
  by_cases h1 : n = 1
  · subst h1
    have hv0 : 0 < val B64 ys := Nat.pos_of_ne_zero (fun e => by rw [e] at hlt; omega)
    have G := gsq_ok (M := 1) (P := val B64 xs) (D := val B64 ys) (T := val B64 xs) (E := val B64 ys) (Pl := 0) (Dl := 0) (by omega) (by omega) (by omega) (by omega) (.inr rfl) hv0 hlt
    refine (wguess_one g off cap bb boff bcap (val B64 xs) (val B64 ys) w px2 px3 py2 py3 (gq_of hx hy lx ly (by omega) (by omega) hv0)).mono ?_
    rintro e w' ⟨rfl, hb⟩
    exact ⟨_, rfl, gsq_lt _ _, G.1, G.2, hb⟩
  · obtain ⟨m, rfl⟩ : ∃ m, n = m + 2 := ⟨n - 2, by omega⟩
    have hx2 := hx.dropm (m := m) (by omega)
    have hy2 := hy.dropm (m := m) (by omega)
    rw [show m + 2 + 1 - m = 3 by omega] at hx2
    rw [show m + 2 - m = 2 by omega] at hy2
    have sx := val_split B64 xs m (by omega)
    have sy := val_split B64 ys m (by omega)
    have bx := val_lt (lim_take (by have := B64_pos; omega) lx m)
    have by' := val_lt (lim_take (by have := B64_pos; omega) ly m)
    rw [List.length_take, Nat.min_eq_left (by omega)] at bx by'
    have ht := tlen_top ys (by rw [ty]; omega)
    rw [ty, py1, show m + 2 - 1 = m + 1 by omega] at ht
    have hE : B64 ≤ val B64 (ys.drop m) := by
      have e1 := val_drop B64 ys m (by omega)
      have e2 := val_drop B64 ys (m + 1) (by omega)
      have e3 : B64 * 1 ≤ B64 * val B64 (ys.drop (m + 1)) := Nat.mul_le_mul_left _ (by omega)
      omega
    have G := gsq_ok (M := B64 ^ m) (P := val B64 xs) (D := val B64 ys) (T := val B64 (xs.drop m)) (E := val B64 (ys.drop m)) (by rw [sx, Nat.mul_comm]; omega) bx (by rw [sy, Nat.mul_comm]; omega) by' (.inl hE) (by have := B64_pos; omega) hlt
    refine (wguess_two g off cap bb boff bcap m _ _ w px2 px3 py2 py3 (by omega) (gq_of hx2 hy2 (lim_drop lx m) (lim_drop ly m) (by rw [List.length_drop]; omega) (by rw [List.length_drop]; omega) (by have := B64_pos; omega))).mono ?_
    rintro e w' ⟨rfl, hb⟩
    exact ⟨_, rfl, gsq_lt _ _, G.1, G.2, hb⟩
end Go.Proofs.YtkbfgbkhhfligaaGreatDoor

/- Package whole: takeQuotient. -/
namespace Go.Proofs.YtkbfgbkhhfligaaGreatDoor
open Go.RowKit Mth

theorem seg_all {xs : List Nat} {n : Nat} (h : xs.length = n) : seg xs 0 n = val B64 xs := by
  unfold seg
  rw [List.drop_zero, List.take_of_length_le (by omega)]

set_option maxHeartbeats 4000000 in
set_option maxRecDepth 100000 in
theorem wtakeQuotient_any (g off cap bb boff bcap n : Nat) (pre post : List Value) (xs ys : List Nat) (w : World) (hoff : pre.length = off) (hM : Mid w g pre xs post) (hS : Sl w .u64 (.slice (some ⟨g, off, none⟩) (n + 1) cap) xs) (lx : Lim B64 xs) (hb : Sl w .u64 (.slice (some ⟨bb, boff, none⟩) n bcap) ys) (ly : Lim B64 ys) (ty : Top ys) (hn : 0 < n) (hne : bb ≠ g) (ho : off ≤ 16777216) (hlt : val B64 xs < B64 * val B64 ys) :
    Calls Tryz.prog 211 #[.slice (some ⟨g, off, none⟩) (n + 1) cap, .slice (some ⟨bb, boff, none⟩) n bcap] w fun e w' => ∃ zs : List Nat, e = .returned (.int .u64 ((val B64 xs / val B64 ys : Nat) : Int)) ∧ Mid w' g pre zs post ∧ zs.length = n + 1 ∧ Lim B64 zs ∧ val B64 zs = val B64 xs % val B64 ys ∧ w.grownBy w' (some g) := by
  obtain ⟨px1, px2, px3, px4⟩ := hS.parts
  obtain ⟨py1, py2, py3, py4⟩ := hb.parts
  have hD0 : 0 < val B64 ys := Nat.pos_of_ne_zero (fun e => by rw [e] at hlt; omega)
  have GU := Lib.hid (wguess_any g off cap bb boff bcap n xs ys w hS hb lx ly ty hn hlt)
  have HM := Lib.hid hM; have LX := Lib.hid lx; have HB := Lib.hid hb; have LY := Lib.hid ly; have HO := Lib.hid hoff; have HP1 := Lib.hid px1; have HY1 := Lib.hid py1; have HD := Lib.hid hD0; have HNE := Lib.hid hne
  have SA := Lib.hid (seg_all px1)
  clear hM lx hb ly hoff hS px1 py1 hD0 hlt ty hne
  go_enter Tryz.func211, Tryz.ntmps211
  go_wp2_with fail
  refine GU.out.mono ?_
  rintro e w1 ⟨q, rfl, hq, hq1, hq2, hb1⟩
  have hM1 : Mid w1 g pre xs post := (hb1.block g HM.out.lt).trans HM.out
  have TT := wtakeTimes_any g off cap q pre post xs ys (.slice (some ⟨bb, boff, none⟩) n bcap) w1 HO.out hM1 LX.out (HB.out.below hb1) LY.out (by have := HNE.out; simpa [inBlock] using this) (by rw [HY1.out]; exact hn) (by rw [HP1.out, HY1.out]) (by rw [HP1.out]; exact px2) px3 (by omega) hq
  rw [HP1.out, HY1.out] at TT
  have TQ := Lib.hid TT
  have HB1 := Lib.hid hb1; have HQ := Lib.hid hq; have HQ1 := Lib.hid hq1; have HQ2 := Lib.hid hq2
  clear TT hb1 hM1 hq hq1 hq2
  go_wp2_with fail
  refine TQ.out.mono ?_
  rintro e w2 ⟨zs, c, rfl, hM2, hg2, hT⟩
  obtain ⟨pz, hpz⟩ : ∃ pz, pz = zs.getD n 0 := ⟨_, rfl⟩
  rw [← hpz]
  have HPZ := Lib.hid hpz
  clear hpz
  have hzl := hT.len
  rw [HP1.out] at hzl
  have FINE := Lib.hid (fun h => dig_fine (d := ys) hT HY1.out.symm (by rw [HP1.out]; omega) (by rw [SA.out]; exact HQ1.out) h HD.out)
  have OVQ := Lib.hid (fun h => dig_over_q (d := ys) hT HY1.out.symm (by rw [HP1.out]; omega) (by rw [SA.out]; exact HQ1.out) (by rw [SA.out]; exact HQ2.out) h)
  have OV := Lib.hid (fun R3 c3 h1 h2 h3 h4 => dig_over (R3 := R3) (c3 := c3) (d := ys) hT HY1.out.symm LY.out (by rw [HP1.out]; omega) h1 h2 h3 HD.out h4)
  simp only [Nat.zero_add, SA.out] at FINE OVQ OV
  have hpl := hT.lim n
  have hcl := hT.clt
  have HZL := Lib.hid hzl; have HG2 := Lib.hid (grown_trans' (grown_of_below HB1.out (some g)) hg2); have HM2 := Lib.hid hM2; have LZ := Lib.hid hT.lim
  have HS2 := Lib.hid ((HB.out.below HB1.out).grown hg2 (.inl (by have := HNE.out; simpa [inBlock] using this)))
  clear hT hzl hM2 hg2
  by_cases hov : zs.getD n 0 < c
  · have hd : decide (pz < c) = true := by rw [HPZ.out]; exact decide_eq_true hov
    have e3 : (if c ≤ zs.getD n 0 then zs.getD n 0 - c else zs.getD n 0 + B64 - c) = zs.getD n 0 + B64 - c := if_neg (by omega)
    rw [e3] at HM2
    have OQ := Lib.hid (OVQ.out hov)
    have OV2 := Lib.hid (fun R3 c3 => OV.out R3 c3 OQ.out.1 OQ.out.2 hov)
    have hw4 : IntKind.u64.wrap ((q : Int) - 1) = ((val B64 xs / val B64 ys : Nat) : Int) := by
      have h1 := OQ.out.1; have h2 := HQ.out
      generalize val B64 xs / val B64 ys = Q at h1 ⊢
      unfold B64 at h2
      rw [IntKind.wrap_u64]; omega
    have hlz : Lim B64 (zs.set n (zs.getD n 0 + B64 - c)) := lim_set LZ.out (by omega) n
    have hls : (zs.set n (zs.getD n 0 + B64 - c)).length = n + 1 := by rw [List.length_set, HZL.out]
    have AD := waddTo_any g off cap pre post (zs.set n (zs.getD n 0 + B64 - c)) ys (.slice (some ⟨bb, boff, none⟩) n bcap) w2 HO.out HM2.out hlz HS2.out LY.out (.inl (by have := HNE.out; simpa [inBlock] using this)) (by rw [hls, HY1.out]; omega) (by rw [hls]; exact px2) px3 (by rw [hls]; omega) (by omega)
    rw [hls] at AD
    have ADD := Lib.hid AD
    obtain ⟨Q, hQ⟩ : ∃ Q, Q = val B64 xs / val B64 ys := ⟨_, rfl⟩
    rw [← hQ] at hw4
    have HQQ := Lib.hid hQ
    clear hQ
    clear AD hov e3 hlz hls hpl hcl
    go_wp2_with fail
    refine ADD.out.mono ?_
    rintro e w3 ⟨us, c3, rfl, hM3, hg3, hP3⟩
    have DT := OV2.out us c3 hP3
    have hul : us.length = n + 1 := by rw [DT.len, HP1.out]
    have hue := DT.eq
    rw [seg_all hul, SA.out] at hue
    have HM3 := Lib.hid hM3; have HG3 := Lib.hid (grown_trans' HG2.out hg3); have HUL := Lib.hid hul; have HUE := Lib.hid hue; have LU := Lib.hid DT.lim
    clear hM3 hg3 hP3 DT hul hue
    go_wp2
    go_ret
    exact ⟨us, by rw [← HQQ.out]; rfl, HM3.out, HUL.out, LU.out, HUE.out, HG3.out⟩
  · have hd : decide (pz < c) = false := by rw [HPZ.out]; exact decide_eq_false hov
    have e3 : (if c ≤ zs.getD n 0 then zs.getD n 0 - c else zs.getD n 0 + B64 - c) = zs.getD n 0 - c := if_pos (by omega)
    rw [e3] at HM2
    have FN := FINE.out (by omega)
    have DT := FN.2
    have hul : (zs.set n (zs.getD n 0 - c)).length = n + 1 := by rw [List.length_set, HZL.out]
    have hue := DT.eq
    rw [seg_all hul, SA.out] at hue
    have HUL := Lib.hid hul; have HUE := Lib.hid hue; have LU := Lib.hid DT.lim; have HFQ := Lib.hid FN.1
    clear hov e3 FN DT hul hue hpl hcl
    go_wp2
    go_ret
    exact ⟨_, by rw [← HFQ.out]; rfl, HM2.out, HUL.out, LU.out, HUE.out, HG2.out⟩
end Go.Proofs.YtkbfgbkhhfligaaGreatDoor

/- Package whole: quoByHand; quo of any two amounts. -/
namespace Go.Proofs.YtkbfgbkhhfligaaGreatDoor
open Go.RowKit Mth

theorem make_am {w : World} {ops : Array Oper} {rest : List Oper} {o : Oper} {a : Act} {Q : Exit → Act → World → Prop}
    (hg : o.guard = none) (l c : Operand) (hop : o.op = Op.makeSlice 76 l c) (L C : Int) (n : Nat) (hl : a.eval l = .int .i64 L) (hc : a.eval c = .int .i64 C) (hL : L = (n : Int)) (hC : C = (n : Int))
    (hn : n ≤ 16777217)
    (hK : ∀ w', Row w' 36 .u64 w.heap.size (List.replicate n 0) → Below w.heap.size w w' → wpList Tryz.prog ops Q rest (a.put o.dst (.slice (some ⟨w.heap.size, 0, none⟩) n n)) w') :
    wpList Tryz.prog ops Q (o :: rest) a w := by
  obtain ⟨i0, hi, hz0, hz1, hz2⟩ := info_parts info_u64
  refine wpList_make_full w hg l c 76 hop w.heap.size 36 i0 _ 1 Tryz.underlying76 hi hz0 hz1 .i64 .i64 L C n hl hc hL hC (by rw [hz2]; omega) (by unfold maxLen; omega) (Nat.le_refl _) ?_
  intro w' hown hgrow
  rw [zeros_own] at hown
  exact hK w' (row_of_own hown).1 ((Below.refl _ _).grown hgrow (Nat.le_refl _) (fun k e => by simp at e))

/-- a stretch, seen from within a row -/
theorem mid_part {w : World} {g : Nat} {R : List Nat} {post : List Value} (h : Mid w g [] R post) {i m : Nat} (hi : i + m ≤ R.length) :
    Mid w g (cellsOf .u64 (R.take i)) ((R.drop i).take m) (cellsOf .u64 (R.drop (i + m)) ++ post) := by
  unfold Mid at *
  rw [h]
  congr 3
  rw [List.nil_append, ← List.append_assoc, ← cellsOf_append, ← cellsOf_append]
  congr 2
  rw [← List.drop_drop, List.append_assoc, List.take_append_drop, List.take_append_drop]
theorem part_mid {w : World} {g : Nat} {R zs : List Nat} {post : List Value} {i m : Nat} (h : Mid w g (cellsOf .u64 (R.take i)) zs (cellsOf .u64 (R.drop (i + m)) ++ post)) : Mid w g [] (R.take i ++ zs ++ R.drop (i + m)) post := by
  unfold Mid at *
  rw [h]
  congr 3
  rw [List.nil_append, ← List.append_assoc, ← cellsOf_append, ← cellsOf_append]
theorem Mid.sl {w : World} {g off cap : Nat} {pre post : List Value} {xs : List Nat} (h : Mid w g pre xs post) (hoff : pre.length = off) (hc : xs.length ≤ cap) (hm : cap ≤ maxLen) (hl : xs.length ≤ 16777216) : Sl w .u64 (.slice (some ⟨g, off, none⟩) xs.length cap) xs :=
  ⟨_, cap, rfl, hc, hm, hl, (fun e => by cases e), fun _ => ⟨g, off, rfl, h.lt, fun _ hj => by rw [← hoff]; exact h.cell hj⟩⟩
/-- one digit, put back into the row -/
theorem dig_put {R zs : List Nat} {i n D : Nat} (hi : i + (n + 1) ≤ R.length) (hz : zs.length = n + 1) (lz : Lim B64 zs) (lR : Lim B64 R) (hv : val B64 zs = val B64 ((R.drop i).take (n + 1)) % D) : DigT R (R.take i ++ zs ++ R.drop (i + (n + 1))) i n D := by
  have hl : (R.take i).length = i := by rw [List.length_take]; omega
  have key : ∀ j, (R.take i ++ zs ++ R.drop (i + (n + 1))).getD j 0 = if j < i then R.getD j 0 else if j < i + (n + 1) then zs.getD (j - i) 0 else R.getD j 0 := by
    intro j
    simp only [List.getD_eq_getElem?_getD]
    by_cases h1 : j < i
    · rw [if_pos h1, List.append_assoc, List.getElem?_append_left (by omega), List.getElem?_take_of_lt h1]
    · rw [if_neg h1, List.append_assoc, List.getElem?_append_right (by omega), hl]
      by_cases h2 : j < i + (n + 1)
      · rw [if_pos h2, List.getElem?_append_left (by omega)]
      · rw [if_neg h2, List.getElem?_append_right (by omega), List.getElem?_drop]
        congr 2
        omega
  refine ⟨by simp [hz]; omega, fun j hj => ?_, fun j => ?_, ?_⟩
  · rw [key]
    by_cases h1 : j < i
    · rw [if_pos h1]
    · rw [if_neg h1, if_neg (by omega)]
  · rw [key]
    split
    · exact lR j
    · split
      · exact lz _
      · exact lR j
  · unfold seg
    rw [← hv]
    congr 1
    rw [List.append_assoc, List.drop_append_of_le_length (by omega), List.drop_of_length_le (by omega), List.nil_append, List.take_append_of_le_length (by omega), List.take_of_length_le (by omega)]
/-- the beginning -/
theorem hand_zero {xs ys : List Nat} {p n : Nat} (lx : Lim B64 xs) (ty : Top ys) (hy : ys.length = n) (hn : 0 < n) (hx : xs.length = p + n) :
    LongT (xs ++ [0]) (List.replicate (p + 1) 0) (p + n + 1) (p + 1) n (val B64 xs) (val B64 ys) (p + 1) := by
  have e0 : val B64 (xs ++ [0]) = val B64 xs := by rw [val_append]; simp [val]
  refine ⟨by simp; omega, by simp, ?_, fun j => by rw [getD_replicate]; have := B64_pos; omega, ?_, ?_⟩
  · exact lim_snoc lx (by have := B64_pos; omega)
  · rw [e0]
    have h1 := val_lt lx
    have h2 := val_ge_top (B := B64) ty (by omega)
    have h3 : B64 ^ (p + 1) * B64 ^ (ys.length - 1) ≤ B64 ^ (p + 1) * val B64 ys := Nat.mul_le_mul_left _ h2
    rw [← Nat.pow_add, show p + 1 + (ys.length - 1) = xs.length by omega] at h3
    omega
  · rw [e0, List.drop_of_length_le (by simp)]
    simp [val]

/-- what quoByHand's loop holds -/
def HandQ (w wr : World) (gr gq p n N D : Nat) (post : List Value) (i : Value) : Prop := ∃ (k : Nat) (R Q : List Nat), k ≤ p + 1 ∧ i = .int .i64 ((k : Int) - 1) ∧ LongT R Q (p + n + 1) (p + 1) n N D k ∧ Mid wr gr [] R post ∧ Row wr 36 .u64 gq Q ∧ Below w.heap.size w wr

set_option maxHeartbeats 8000000 in
set_option maxRecDepth 100000 in
theorem byHand_any (u v : Value) (xs ys : List Nat) (p n : Nat) (w : World) (ha : Sl w .u64 u xs) (hb : Sl w .u64 v ys) (lx : Lim B64 xs) (ly : Lim B64 ys) (tx : Top xs) (ty : Top ys) (hn : 0 < n) (hyl : ys.length = n) (hxl : xs.length = p + n) (hal : xs.length ≤ 8000000) :
    Calls Tryz.prog 181 #[u, v] w fun e w' => ∃ q r, e = .returned (.tuple #[q, r]) ∧ Ow w' w.heap.size q (val B64 xs / val B64 ys) ∧ Ow w' w.heap.size r (val B64 xs % val B64 ys) ∧ Below w.heap.size w w' := by
  have ZZ := Lib.hid (hand_zero lx ty hyl hn hxl)
  have HA := Lib.hid ha; have LX := Lib.hid lx; have LY := Lib.hid ly; have TX := Lib.hid tx; have TY := Lib.hid ty
  obtain ⟨aa, ca, rfl⟩ := ha.shape
  obtain ⟨bb, boff, bcap, rfl, hb1, hb2, hblt, _⟩ := hb.pos (by omega)
  have HB := Lib.hid hb
  rw [hyl] at HB hb1 ⊢
  rw [hxl] at HA hal ⊢
  have HXL := Lib.hid hxl; have HYL := Lib.hid hyl
  have hw1 : IntKind.i64.wrap ((p : Int) + (n : Int) - (n : Int)) = (p : Int) := by rw [IntKind.wrap_i64]; omega
  have hw2 : IntKind.i64.wrap ((p : Int) + 1) = ((p + 1 : Nat) : Int) := by rw [IntKind.wrap_i64]; omega
  clear ha hb lx ly tx ty hyl hxl
  go_enter Tryz.func181, Tryz.ntmps181
  go_wp2_with (at_make; refine make_am rfl _ _ rfl _ _ (p + 1) rfl rfl (by omega) (by omega) (by omega) ?_; intro w1 hrow hb1')
  refine (wfresh_any _ xs w1 (HA.out.below hb1') LX.out TX.out).mono ?_
  rintro e w2 ⟨v2, rfl, _, ho2, hb2⟩
  obtain ⟨a2, c2, rfl, hd1, hd2⟩ := own_shape ho2
  have HO2 := Lib.hid ho2
  have B2 := Lib.hid (below_step (Lib.hid hb1').out hb2)
  have HRQ2 := Lib.hid (hrow.below hb2)
  have hq1 := hrow.lt
  have hs12 := hb2.size
  have hws := hb1'.size
  clear hrow hb1' hb2 ho2
  go_wp2_with (refine append_one (o := ⟨some 19, _, _, _, _, _⟩) rfl _ _ rfl w1.heap.size _ xs 0 ⟨w2.heap.size, 0, none⟩ rfl rfl (HO2.out.alloc _) (World.cell?_alloc_new _ _ _ _) (by have := HXL.out; omega) (by simp; omega) ?_; intro v5 w5 ho5 hg5 hat5)
  obtain ⟨gr, cap, post, rfl, hgb, hc5, hm5, hM5, hs5⟩ := mid_own ho5 (by simp)
  have hRl : (xs ++ [0]).length = p + n + 1 := by rw [List.length_append, HXL.out]; rfl
  have B5 := Lib.hid ((below_step B2.out ((Below.refl _ _).alloc (Nat.le_refl _) _)).grown hg5 (by simp; omega) (fun k e => by have := (HO2.out.lt k e).1; omega))
  have HQ5 := Lib.hid ((HRQ2.out.below ((Below.refl _ _).alloc (Nat.le_refl _) _)).grown hg5 (fun e => by have := (HO2.out.lt _ e.symm).1; omega))
  have HM5 := Lib.hid hM5
  have hgq : w.heap.size < gr := by omega
  have e5 : (xs ++ [0]).length + post.length = cap := hs5
  rw [hRl] at hc5 e5 ⊢
  unfold maxLen at hm5
  clear ho5 hg5 hM5 hs5 hat5 hRl
  go_loopw [8] (fun i wr => HandQ w wr gr w.heap.size p n (val B64 xs) (val B64 ys) post i) (fun i _ => (intOf i + 1).toNat)
  case atStart => exact ⟨p + 1, _, _, Nat.le_refl _, by congr 1; omega, ZZ.out, HM5.out, HQ5.out, B5.out⟩
  case round =>
    obtain ⟨k0, R, Q, hk, rfl, hT, hM, hroq, hbel⟩ := hrel
    have HT := Lib.hid hT; have HM := Lib.hid hM; have HROQ := Lib.hid hroq; have HBEL := Lib.hid hbel
    have hRlen := hT.len
    by_cases hlt : 0 < k0
    · obtain ⟨k, rfl⟩ : ∃ k, k0 = k + 1 := ⟨k0 - 1, by omega⟩
      have he : ((k + 1 : Nat) : Int) - 1 = (k : Int) := by omega
      rw [he]
      have hD0 : 0 < val B64 ys := Nat.pos_of_ne_zero (fun e => by have h1 := hT.lt; rw [e] at h1; omega)
      have hDle : val B64 ys ≤ B64 ^ n := by have := val_lt LY.out; rw [HYL.out] at this; omega
      have hP := (long_part hT hDle (by omega)).2.2
      have hpart := mid_part hM (i := k) (m := n + 1) (by omega)
      have hpl : ((R.drop k).take (n + 1)).length = n + 1 := by rw [List.length_take, List.length_drop]; omega
      have hprel : (cellsOf .u64 (R.take k)).length = k := by rw [length_cellsOf, List.length_take]; omega
      have lpart : Lim B64 ((R.drop k).take (n + 1)) := lim_take (by have := B64_pos; omega) (lim_drop hT.lim k) _
      have hS := hpart.sl (cap := cap - k) hprel (by rw [hpl]; omega) (by unfold maxLen; omega) (by rw [hpl]; omega)
      rw [hpl] at hS
      have TQ := wtakeQuotient_any gr k (cap - k) bb boff bcap n _ _ _ ys wr hprel hpart hS lpart (HB.out.below HBEL.out) LY.out TY.out hn (by omega) (by omega) hP
      have PUT := fun zs (hz : zs.length = n + 1) lz (hv : val B64 zs = val B64 ((R.drop k).take (n + 1)) % val B64 ys) => dig_put (R := R) (zs := zs) (i := k) (by omega) hz lz hT.lim hv
      have ST := Lib.hid (fun R' h => long_step (R' := R') hT hD0 hDle (by omega) (by omega) h)
      have hzz : seg R k (n + 1) = val B64 ((R.drop k).take (n + 1)) := rfl
      rw [hzz] at ST
      obtain ⟨z, hz⟩ : ∃ z, z = val B64 ((R.drop k).take (n + 1)) / val B64 ys := ⟨_, rfl⟩
      rw [← hz] at TQ ST
      have TQQ := Lib.hid TQ; have PUTT := Lib.hid PUT; have HQL := Lib.hid hT.qlen
      have hkp : k ≤ p := by omega
      have hw3 : IntKind.i64.wrap ((k : Int) + (n : Int)) = (k : Int) + (n : Int) := by rw [IntKind.wrap_i64]; omega
      have hw4 : IntKind.i64.wrap ((k : Int) + (n : Int) + 1) = (k : Int) + (n : Int) + 1 := by rw [IntKind.wrap_i64]; omega
      have k1 : (k : Int) ≤ (k : Int) + (n : Int) + 1 := by omega
      have k2 : (k : Int) + (n : Int) + 1 ≤ (cap : Int) := by omega
      have k3 : ((k : Int) + (n : Int) + 1).toNat = k + n + 1 := by omega
      have k4 : ¬ cap = k := by omega
      clear hT hM hroq hbel hP hpart hpl hprel lpart hS TQ PUT hzz hz hD0 hDle
      go_wp2_with fail
      rw [show k + n + 1 - k = n + 1 by omega]
      refine TQQ.out.mono ?_
      rintro e w6 ⟨zs, rfl, hM6, hz6, lz6, hv6, hg6⟩
      have hd6 := PUTT.out zs hz6 lz6 hv6
      have HN6 := Lib.hid (ST.out _ hd6)
      have HM6 := Lib.hid (part_mid hM6)
      have hq6 := HROQ.out.grown hg6 (by simp; omega)
      have hcq : w6.cell? ⟨w.heap.size, k, none⟩ = some (.int .u64 ((Q.getD k 0 : Nat) : Int)) := hq6.cell (by rw [HQL.out]; omega)
      have hfq : w6.frozen? ⟨w.heap.size, k, none⟩ = false := hq6.free _
      have HQ6 := Lib.hid hq6
      have HB6 := Lib.hid (below_of_grown HBEL.out hg6 (by omega) HBEL.out.size)
      generalize Q.getD k 0 = qo at hcq
      clear hM6 hz6 lz6 hv6 hg6 hd6 hq6 k1 k2 k3 k4
      go_wp2
      go_roundw
      case rel =>
        have hset := HQ6.out.set k z
        exact ⟨k, _, _, by omega, by go_num, HN6.out, (hset.2.block gr HM6.out.lt (by simp; omega)).trans HM6.out, hset.1, below_of_grown HB6.out hset.2 (Nat.le_refl _) HB6.out.size⟩
      case measure => simp [intOf]
    · obtain rfl : k0 = 0 := by omega
      have hE := long_end hT
      have hql := hT.qlen
      have hRt := mid_ow (base := w.heap.size) (cap := cap) hM (by omega) (tlen_le R) (Nat.le_trans (tlen_le R) (by omega)) (by unfold maxLen; omega) (Nat.le_trans (tlen_le R) (by omega)) hT.lim (top_trimL R)
      have e1 : val B64 (R.take (tlen R)) = val B64 xs % val B64 ys := by have := val_trimL B64 R; unfold trimL at this; rw [this]; exact hE.2
      rw [e1] at hRt
      have hQt := row_ow (base := w.heap.size) (cap := p + 1) (xs := trimL Q) hroq (Nat.le_refl _) (by rw [length_trimL]; rfl) (by rw [length_trimL]; exact tlen_le Q) (by rw [length_trimL, ← hql]; exact tlen_le Q) (by unfold maxLen; omega) (by rw [length_trimL]; exact Nat.le_trans (tlen_le Q) (by omega)) (lim_trimL hT.qlim) (top_trimL Q)
      rw [val_trimL, hE.1, length_trimL] at hQt
      have s1 := hroq.sl_all (by omega)
      rw [hql] at s1
      have s2 := hM.sl (off := 0) (cap := cap) rfl (by omega) (by unfold maxLen; omega) (by omega)
      rw [hRlen] at s2
      have T1 := Lib.hid (wtrim_eq s1); have T2 := Lib.hid (wtrim_eq s2)
      have O1 := Lib.hid hQt; have O2 := Lib.hid hRt
      clear hE hRt e1 hQt s1 s2 hT hM hroq hbel
      go_wp2_with fail
      refine T1.out.mono ?_
      rintro e w7 ⟨rfl, rfl⟩
      go_wp2_with fail
      refine T2.out.mono ?_
      rintro e w8 ⟨rfl, rfl⟩
      go_wp2
      go_ret2
      exact ⟨_, _, rfl, O1.out, O2.out, HBEL.out⟩
end Go.Proofs.YtkbfgbkhhfligaaGreatDoor

/- Package whole: quo of any two amounts. -/
namespace Go.Proofs.YtkbfgbkhhfligaaGreatDoor
open Go.RowKit Mth

set_option maxHeartbeats 4000000 in
set_option maxRecDepth 100000 in
theorem quo_full (u v : Value) (m n : Nat) (w : World) (h1 : Num w u m) (h2 : Num w v n) (h0 : n ≠ 0) (hm : m < HugeN) (hn : n < HugeN) : QuoOk w u v m n := by
  by_cases hs : m < Big ∧ n < Big
  · exact quo_short u v m n w h1 h2 hs.1 hs.2 h0
  unfold QuoOk
  have N1 := Lib.hid h1; have N2 := Lib.hid h2
  obtain ⟨xs, s1, l1, t1, rfl⟩ := h1
  obtain ⟨ys, s2, l2, t2, rfl⟩ := h2
  have x1 : xs.length ≤ 4000001 := by
    have := len_huge (m := 1) t1 (by omega) (by omega)
    unfold Lm at this; omega
  have y0 : 0 < ys.length := Nat.pos_of_ne_zero (fun e => h0 (by rw [List.eq_nil_of_length_eq_zero e]; rfl))
  have CMP := Lib.hid (fun c => wcmp_any u v (val B64 xs) (val B64 ys) w N1.out N2.out c)
  have FR : Hid (∀ w1, Below w.heap.size w w1 → Calls Tryz.prog 118 #[u] w1 fun e w' => ∃ v', e = .returned v' ∧ Ow w' w1.heap.size v' (val B64 xs) ∧ Below w1.heap.size w1 w') := Lib.hid (fun w1 hb => (wfresh_any u xs w1 (s1.below hb) l1 t1).mono fun e w' ⟨v', h1, h2, _, h3⟩ => ⟨v', h1, h2, h3⟩)
  have HAND : Hid (¬ val B64 xs < val B64 ys → ∀ w1, Below w.heap.size w w1 → Calls Tryz.prog 181 #[u, v] w1 fun e w' => ∃ q r, e = .returned (.tuple #[q, r]) ∧ Ow w' w1.heap.size q (val B64 xs / val B64 ys) ∧ Ow w' w1.heap.size r (val B64 xs % val B64 ys) ∧ Below w1.heap.size w1 w') := Lib.hid (fun hge w1 hb => by
    have hl : ys.length ≤ xs.length := by
      rcases Nat.lt_or_ge xs.length ys.length with h | h
      · have e1 := val_ge_top (B := B64) t2 y0
        have e2 := val_lt l1
        have e3 : B64 ^ xs.length ≤ B64 ^ (ys.length - 1) := pow_mono' (by omega)
        omega
      · exact h
    exact byHand_any u v xs ys (xs.length - ys.length) ys.length w1 (s1.below hb) (s2.below hb) l1 l2 t1 t2 y0 rfl (by omega) (by omega))
  obtain ⟨a1, c1, rfl⟩ := s1.shape
  obtain ⟨a2, c2, rfl⟩ := s2.shape
  have L1 := num_long N1.out
  have L2 := num_long N2.out
  clear s1 s2 l1 l2 t1 t2 h0 hm hn
  generalize val B64 xs = m at *
  generalize val B64 ys = n at *
  generalize xs.length = k1 at *
  generalize ys.length = k2 at *
  by_cases hlt : m < n
  · have LT := Lib.hid hlt
    have CL := Lib.hid (CMP.out (-1) (by unfold cmp3; rw [if_pos hlt]))
    have hd2 : decide ((4096 : Int) < (k2 : Int)) = true := decide_eq_true (by have := L2.2; omega)
    by_cases ha : Big ≤ m
    · have hd1 : decide ((4096 : Int) < (k1 : Int)) = true := decide_eq_true (by have := L1.2 ha; omega)
      clear ha hlt hs L1 L2
      go_enter Tryz.func149, Tryz.ntmps149
      go_wp2_with (first | (go_at_call 59; refine (long_is _ _ _ _).mono ?_; rintro e w' ⟨rfl, rfl⟩))
      refine (CL.out).mono ?_
      rintro e w2 ⟨rfl, hb2⟩
      have F2 := Lib.hid (FR.out w2 hb2)
      have B2 := Lib.hid hb2
      clear hb2
      go_wp2_with fail
      refine F2.out.mono ?_
      rintro e w3 ⟨v3, rfl, o3, hb3⟩
      obtain ⟨a3, k3, c3, rfl⟩ := o3.shape
      have O3 := Lib.hid (o3.mono B2.out.size); have B3 := Lib.hid (below_of B2.out hb3)
      clear o3 hb3
      go_wp2
      go_ret2
      exact ⟨_, _, rfl, by rw [Nat.div_eq_of_lt LT.out]; exact ow_nil _ _, by rw [Nat.mod_eq_of_lt LT.out]; exact O3.out, B3.out⟩
    · have hd1 : decide ((4096 : Int) < (k1 : Int)) = false := decide_eq_false (by have := L1.1; omega)
      clear ha hlt hs L1 L2
      go_enter Tryz.func149, Tryz.ntmps149
      go_wp2_with (first | (go_at_call 59; refine (long_is _ _ _ _).mono ?_; rintro e w' ⟨rfl, rfl⟩))
      refine (CL.out).mono ?_
      rintro e w2 ⟨rfl, hb2⟩
      have F2 := Lib.hid (FR.out w2 hb2)
      have B2 := Lib.hid hb2
      clear hb2
      go_wp2_with fail
      refine F2.out.mono ?_
      rintro e w3 ⟨v3, rfl, o3, hb3⟩
      obtain ⟨a3, k3, c3, rfl⟩ := o3.shape
      have O3 := Lib.hid (o3.mono B2.out.size); have B3 := Lib.hid (below_of B2.out hb3)
      clear o3 hb3
      go_wp2
      go_ret2
      exact ⟨_, _, rfl, by rw [Nat.div_eq_of_lt LT.out]; exact ow_nil _ _, by rw [Nat.mod_eq_of_lt LT.out]; exact O3.out, B3.out⟩
  · have HH := Lib.hid (HAND.out hlt)
    obtain ⟨c, hc⟩ : ∃ c, cmp3 m n = c := ⟨_, rfl⟩
    have CL := Lib.hid (CMP.out c hc)
    have hd3 : decide (c < 0) = false := decide_eq_false (by rw [← hc]; unfold cmp3; rw [if_neg hlt]; split <;> omega)
    have hd1 : decide ((4096 : Int) < (k1 : Int)) = true := decide_eq_true (by have := L1.2; omega)
    clear hc hlt hs L1 L2
    go_enter Tryz.func149, Tryz.ntmps149
    go_wp2_with (first | (go_at_call 59; refine (long_is _ _ _ _).mono ?_; rintro e w' ⟨rfl, rfl⟩))
    refine (CL.out).mono ?_
    rintro e w2 ⟨rfl, hb2⟩
    have F2 := Lib.hid (HH.out w2 hb2)
    have B2 := Lib.hid hb2
    clear hb2
    go_wp2_with fail
    refine F2.out.mono ?_
    rintro e w3 ⟨q, r, rfl, oq, orr, hb3⟩
    have OQ := Lib.hid (oq.mono B2.out.size); have OR := Lib.hid (orr.mono B2.out.size); have B3 := Lib.hid (below_of B2.out hb3)
    clear oq orr hb3
    go_wp2
    go_ret2
    exact ⟨_, _, rfl, OQ.out, OR.out, B3.out⟩
end Go.Proofs.YtkbfgbkhhfligaaGreatDoor

/- Package whole: divide in general; a division's answers in general. -/
namespace Go.Proofs.YtkbfgbkhhfligaaGreatDoor
open Go.RowKit Mth

/-- two answers: both, or too long -/
def twE (x y : Int) : Int := if zE x = 0 ∧ zE y = 0 then 0 else 5
def twZ (x y z : Int) : Int := if zE x = 0 ∧ zE y = 0 then z else 0
theorem tw_fine {x y : Int} (hx : zE x = 0) (hy : zE y = 0) (z : Int) : twE x y = 0 ∧ twZ x y z = z := ⟨if_pos ⟨hx, hy⟩, if_pos ⟨hx, hy⟩⟩
theorem tw_big {x y : Int} (h : zE x = 5 ∨ zE y = 5) (z : Int) : twE x y = 5 ∧ twZ x y z = 0 := by
  have hn : ¬ (zE x = 0 ∧ zE y = 0) := by omega
  exact ⟨if_neg hn, if_neg hn⟩

theorem dvc_gen {w : World} {a1 a2 : Option Addr} {t1 c1 t2 c2 : Nat} {x y : Int} (N1 : NuV w (.agg #[.slice a1 t1 c1, .bool (sgn x)]) x) (N2 : NuV w (.agg #[.slice a2 t2 c2, .bool (sgn y)]) y) (hx : x.natAbs < HugeN) (hy : y.natAbs < HugeN) (h0 : y ≠ 0) (hl : t1 ≤ 4096 + t2) : DvC w (.agg #[.slice a1 t1 c1, .bool (sgn x)]) (.agg #[.slice a2 t2 c2, .bool (sgn y)]) x y := by
  intro w1 hB
  refine Calls.mono (divide_fine _ _ x y w1 (N1.below hB) (N2.below hB) h0 ?_ (fun u v w2 _ m n => quo_full u v _ _ w2 m n (by omega) hx hy)) ?_
  rotate_left
  · rintro e w' ⟨q, b, r, d, he, hq, hr, hb⟩
    obtain ⟨aq, kq, cq, bq, e1⟩ := hq.shape
    obtain ⟨ar, kr, cr, br, e2⟩ := hr.shape
    simp only [Value.agg.injEq, Array.mk.injEq, List.cons.injEq, and_true] at e1 e2
    obtain ⟨rfl, rfl⟩ := e1
    obtain ⟨rfl, rfl⟩ := e2
    exact ⟨_, _, _, _, _, _, _, _, he, hq, hr, hb⟩
  intro a1 k1 c1 b1 a2 k2 c2 b2 e1 e2
  simp only [Value.agg.injEq, Array.mk.injEq, List.cons.injEq, Value.slice.injEq, and_true] at e1 e2
  obtain ⟨⟨_, rfl, _⟩, _⟩ := e1
  obtain ⟨⟨_, rfl, _⟩, _⟩ := e2
  exact hl

set_option maxHeartbeats 4000000 in
set_option maxRecDepth 100000 in
theorem divide_far (a1 a2 : Option Addr) (t1 c1 t2 c2 : Nat) (x y : Int) (w : World) (ha : NuV w (.agg #[.slice a1 t1 c1, .bool (sgn x)]) x) (hb : NuV w (.agg #[.slice a2 t2 c2, .bool (sgn y)]) y) (h0 : y ≠ 0) (hl : 4096 + t2 < t1) :
    Calls Tryz.prog 104 #[.agg #[.slice a1 t1 c1, .bool (sgn x)], .agg #[.slice a2 t2 c2, .bool (sgn y)]] w fun e w' => e = .returned (.tuple #[.agg #[.slice none 0 0, .bool false, .slice none 0 0, .bool false], .int .i64 5]) ∧ Below w.heap.size w w' := by
  obtain ⟨_, _, m1⟩ := ha.parts
  obtain ⟨_, z2, m2⟩ := hb.parts
  have hd : ((t2 : Int) == 0) = false := by rw [beq_eq_false_iff_ne]; intro e; exact h0 (z2.1 (by omega))
  have L1 : t1 ≤ 16777216 := by obtain ⟨xs, s, _⟩ := m1; have := s.len; obtain ⟨_, _, e, _⟩ := s; simp only [Value.slice.injEq] at e; omega
  clear ha hb z2 m1 m2 h0
  go_enter Tryz.func104, Tryz.ntmps104
  go_wp2_with fail
  refine (zero_is _ _ _ _).mono ?_
  rintro e w' ⟨rfl, rfl⟩
  obtain ⟨W, eW, h1, h2, h3, bel, hsz⟩ := alloc3 w (Obj.cells #[Value.slice a1 t1 c1, Value.bool (sgn x)] 78) (Obj.cells #[Value.slice a2 t2 c2, Value.bool (sgn y)] 78) (Obj.cells #[Value.slice none 0 0, Value.bool false, Value.slice none 0 0, Value.bool false] 144)
  rw [eW]
  obtain ⟨p0, p1, _, _, _⟩ := blk2 h1
  obtain ⟨q0, q1, _, _, _⟩ := blk2 h2
  have h3' : W.heap[w.heap.size + 1 + 1]? = _ := h3
  obtain ⟨⟨k0, k1', k2', k3⟩, g0, g1, g2, g3⟩ := blk4 h3'
  clear eW h1 h2 h3 h3'
  go_wp2
  have hl : w.heap.size ≤ w.heap.size + 1 + 1 := by omega
  refine bodyPost_ret (v := .tuple #[.agg #[.slice none 0 0, .bool false, .slice none 0 0, .bool false], .int .i64 5]) ?_ rfl ⟨rfl, (((bel.setCell (p := ⟨w.heap.size + 1 + 1, 0, none⟩) hl _).setCell (p := ⟨w.heap.size + 1 + 1, 1, none⟩) hl _).setCell (p := ⟨w.heap.size + 1 + 1, 2, none⟩) hl _).setCell (p := ⟨w.heap.size + 1 + 1, 3, none⟩) hl _⟩
  simp [results, Tryz.results104, go_sem, *]

set_option maxHeartbeats 4000000 in
set_option maxRecDepth 100000 in
theorem answers_any (base : Nat) (q b r d : Value) (x y : Int) (w : World) (h1 : NuC w base (.agg #[q, b]) x) (h2 : NuC w base (.agg #[r, d]) y) (hbase : base ≤ w.heap.size) :
    Calls Tryz.prog 106 #[.agg #[q, b, r, d]] w fun e w' => ∃ v1 v2, e = .returned (.tuple #[v1, v2, .int .i64 (twE x y)]) ∧ IntK w' v1 (twZ x y x) ∧ IntK w' v2 (twZ x y y) ∧ Below w.heap.size w w' := by
  rcases zE_or x with ⟨zx, nx⟩ | ⟨zx, nx⟩
  · -- the quotient is too long
    rw [(tw_big (.inl zx) x).1, (tw_big (.inl zx) x).2, (tw_big (.inl zx) y).2]
    obtain ⟨aq, kq, cq, nq, e1⟩ := h1.shape
    obtain ⟨ar, kr, cr, nr, e2⟩ := h2.shape
    simp only [Value.agg.injEq, Array.mk.injEq, List.cons.injEq, and_true] at e1 e2
    obtain ⟨rfl, rfl⟩ := e1
    obtain ⟨rfl, rfl⟩ := e2
    have A1 : Hid (∀ w1, Below w.heap.size w w1 → Calls Tryz.prog 55 #[.agg #[.slice aq kq cq, .bool nq]] w1 fun e w' => ∃ v', e = .returned (.tuple #[v', .int .i64 5]) ∧ IntC w' base v' (zN x) ∧ Below w1.heap.size w1 w') :=
      Lib.hid (fun w1 hb => by have := answer_number base _ x w1 (h1.below hb) (Nat.le_trans hbase hb.size); rwa [zx] at this)
    clear h1 h2 zx nx
    go_enter Tryz.func106, Tryz.ntmps106
    go_wp2_with fail
    obtain ⟨W, eW, b1, b2, b3, bel, hsz⟩ := alloc3 w (Obj.cells #[Value.slice aq kq cq, Value.bool nq, Value.slice ar kr cr, Value.bool nr] 144) (Obj.cells #[Value.bool false, Value.slice none 0 0] 25) (Obj.cells #[Value.bool false, Value.slice none 0 0] 25)
    rw [eW]
    have H2 := Lib.hid b2
    have H3 : Hid (W.heap[w.heap.size + 1 + 1]? = some (Obj.cells #[Value.bool false, Value.slice none 0 0] 25)) := Lib.hid b3
    clear eW b1 b2 b3
    refine (A1.out W bel).mono ?_
    rintro e w1 ⟨v1, rfl, i1, hb1⟩
    obtain ⟨m1, a1, k1, c1, rfl⟩ := i1.shape
    have hz1 := hb1.size
    have hN := nuc_new w1 (Obj.cells #[Value.bool m1, Value.slice a1 k1 c1] 25)
    have B1 := Lib.hid (below_of (below_of bel hb1) hN)
    obtain ⟨k0, k1', g0, g1, _⟩ := blk2 ((hN.block _ (by omega)).trans ((hb1.block _ (by omega)).trans H2.out))
    obtain ⟨k3, k4, g3, g4, _⟩ := blk2 ((hN.block _ (by omega)).trans ((hb1.block _ (by omega)).trans H3.out))
    have l2 : w.heap.size ≤ w.heap.size + 1 := by omega
    have l3 : w.heap.size ≤ w.heap.size + 1 + 1 := by omega
    clear i1 hN
    go_wp2
    refine bodyPost_ret (v := .tuple #[.agg #[.bool false, .slice none 0 0], .agg #[.bool false, .slice none 0 0], .int .i64 5]) ?_ rfl ⟨_, _, rfl, intk_zero _, intk_zero _, set_below (set_below (set_below (set_below B1.out l2) l2) l3) l3⟩
    simp [results, Tryz.results106, go_sem, *]
  rcases zE_or y with ⟨zy, ny⟩ | ⟨zy, ny⟩
  · -- what is left is too long
    rw [(tw_big (.inr zy) x).1, (tw_big (.inr zy) x).2, (tw_big (.inr zy) y).2]
    obtain ⟨aq, kq, cq, nq, e1⟩ := h1.shape
    obtain ⟨ar, kr, cr, nr, e2⟩ := h2.shape
    simp only [Value.agg.injEq, Array.mk.injEq, List.cons.injEq, and_true] at e1 e2
    obtain ⟨rfl, rfl⟩ := e1
    obtain ⟨rfl, rfl⟩ := e2
    have A1 : Hid (∀ w1, Below w.heap.size w w1 → Calls Tryz.prog 55 #[.agg #[.slice aq kq cq, .bool nq]] w1 fun e w' => ∃ v', e = .returned (.tuple #[v', .int .i64 0]) ∧ IntC w' base v' (zN x) ∧ Below w1.heap.size w1 w') :=
      Lib.hid (fun w1 hb => by have := answer_number base _ x w1 (h1.below hb) (Nat.le_trans hbase hb.size); rwa [zx] at this)
    have A2 : Hid (∀ w1, Below w.heap.size w w1 → Calls Tryz.prog 55 #[.agg #[.slice ar kr cr, .bool nr]] w1 fun e w' => ∃ v', e = .returned (.tuple #[v', .int .i64 5]) ∧ IntC w' base v' (zN y) ∧ Below w1.heap.size w1 w') :=
      Lib.hid (fun w1 hb => by have := answer_number base _ y w1 (h2.below hb) (Nat.le_trans hbase hb.size); rwa [zy] at this)
    clear h1 h2 zx nx zy ny
    go_enter Tryz.func106, Tryz.ntmps106
    go_wp2_with fail
    obtain ⟨W, eW, b1, b2, b3, bel, hsz⟩ := alloc3 w (Obj.cells #[Value.slice aq kq cq, Value.bool nq, Value.slice ar kr cr, Value.bool nr] 144) (Obj.cells #[Value.bool false, Value.slice none 0 0] 25) (Obj.cells #[Value.bool false, Value.slice none 0 0] 25)
    rw [eW]
    obtain ⟨⟨p0, p1, p2, p3⟩, _⟩ := blk4 b1
    have P := Lib.hid (show (W.cell? ⟨w.heap.size, 2, none⟩ = some (.slice ar kr cr) ∧ W.cell? ⟨w.heap.size, 3, none⟩ = some (.bool nr)) from ⟨p2, p3⟩)
    have H2 := Lib.hid b2
    have H3 : Hid (W.heap[w.heap.size + 1 + 1]? = some (Obj.cells #[Value.bool false, Value.slice none 0 0] 25)) := Lib.hid b3
    clear eW b1 b2 b3 p0 p1 p2 p3
    refine (A1.out W bel).mono ?_
    rintro e w1 ⟨v1, rfl, i1, hb1⟩
    obtain ⟨m1, a1, k1, c1, rfl⟩ := i1.shape
    have p2 := cell_to hb1 P.out.1 (by omega); have p3 := cell_to hb1 P.out.2 (by omega)
    have B1 := below_of bel hb1
    have hz1 := hb1.size
    have ha1 : w.heap.size < w1.heap.size := by omega
    have ha2 : w.heap.size + 1 < w1.heap.size := by omega
    have ha3 : w.heap.size + 1 + 1 < w1.heap.size := by omega
    clear i1
    go_wp2_with fail
    have hB1 : Below w1.heap.size w1 (w1.alloc (Obj.cells #[Value.bool m1, Value.slice a1 k1 c1] 25)) := (Below.refl _ _).alloc (Nat.le_refl _) _
    refine (A2.out _ (below_of B1 hB1)).mono ?_
    rintro e w2 ⟨v2, rfl, i2, hb2⟩
    obtain ⟨m2, a2, k2, c2, rfl⟩ := i2.shape
    have hN := nuc_new w2 (Obj.cells #[Value.bool m2, Value.slice a2 k2 c2] 25)
    have B2 := Lib.hid (below_of (below_of (below_of B1 hB1) hb2) hN)
    have hz2 := hb2.size
    simp at hz2
    obtain ⟨k0, k1', g0, g1, _⟩ := blk2 ((hN.block (w.heap.size + 1) (by omega)).trans ((hb2.block (w.heap.size + 1) (by simp; omega)).trans ((hB1.block (w.heap.size + 1) (by omega)).trans ((hb1.block _ (by omega)).trans H2.out))))
    obtain ⟨k3, k4, g3, g4, _⟩ := blk2 ((hN.block (w.heap.size + 1 + 1) (by omega)).trans ((hb2.block (w.heap.size + 1 + 1) (by simp; omega)).trans ((hB1.block (w.heap.size + 1 + 1) (by omega)).trans ((hb1.block _ (by omega)).trans H3.out))))
    have l2 : w.heap.size ≤ w.heap.size + 1 := by omega
    have l3 : w.heap.size ≤ w.heap.size + 1 + 1 := by omega
    clear i2 hN p2 p3
    go_wp2
    refine bodyPost_ret (v := .tuple #[.agg #[.bool false, .slice none 0 0], .agg #[.bool false, .slice none 0 0], .int .i64 5]) ?_ rfl ⟨_, _, rfl, intk_zero _, intk_zero _, set_below (set_below (set_below (set_below B2.out l2) l2) l3) l3⟩
    simp [results, Tryz.results106, go_sem, *]
  · have hx : x.natAbs < Big := by
      rcases Nat.lt_or_ge x.natAbs Big with h | h
      · exact h
      · have := (z_big h).2; omega
    have hy : y.natAbs < Big := by
      rcases Nat.lt_or_ge y.natAbs Big with h | h
      · exact h
      · have := (z_big h).2; omega
    rw [(tw_fine zx zy x).1, (tw_fine zx zy x).2, (tw_fine zx zy y).2]
    refine (answers_fine base q b r d x y w h1 h2 hx hy hbase).mono ?_
    rintro e w' ⟨v1, v2, he, i1, i2, hb⟩
    exact ⟨v1, v2, he, i1.k, i2.k, hb⟩
end Go.Proofs.YtkbfgbkhhfligaaGreatDoor
