/- Package whole: takeTimes. -/
import Derived.Test.YtfdilnfmcpbkgaaGreatDoorZ2
import Derived.Test.YtfdilnfmcpbkgaaGreatDoorHMath
import Derived.Test.YtfdilnfmcpbkgaaGreatDoorSM
set_option linter.unusedVariables false
set_option linter.unusedSimpArgs false
namespace Go.Proofs.YtfdilnfmcpbkgaaGreatDoor
open Go.RowKit Mth

/-- what takeTimes's loop holds -/
def TkW (w wr : World) (g : Nat) (pre : List Value) (xs b : List Nat) (x : Nat) (post : List Value) (ca bo i : Value) : Prop :=
  ∃ (k c d : Nat) (ys : List Nat), k ≤ b.length ∧ i = .int .i64 k ∧ ca = .int .u64 (c : Int) ∧ bo = .int .u64 (d : Int) ∧ c < B64 ∧ d ≤ 1 ∧ TkT xs ys 0 b x k (c + d) ∧ Mid wr g pre ys post ∧ w.grownBy wr (some g)

set_option maxHeartbeats 2000000 in
set_option maxRecDepth 100000 in
theorem wtakeTimes_any (g off cap x : Nat) (pre post : List Value) (xs b : List Nat) (bv : Value) (w : World) (hoff : pre.length = off) (hM : Mid w g pre xs post) (lx : Lim B64 xs) (hb : Sl w .u64 bv b) (lb : Lim B64 b) (hne : inBlock bv ≠ some g) (hp : 0 < b.length) (hlen : xs.length = b.length + 1)
    (hcap : xs.length ≤ cap) (hm : cap ≤ maxLen) (_ho : off ≤ 16777217) (hx : x < B64) :
    Calls Tryz.prog 123 #[.slice (some ⟨g, off, none⟩) xs.length cap, bv, .int .u64 (x : Int)] w fun e w' => ∃ (ys : List Nat) (c : Nat), e = .returned (.bool (decide (ys.getD b.length 0 < c))) ∧
      Mid w' g pre (ys.set b.length (if c ≤ ys.getD b.length 0 then ys.getD b.length 0 - c else ys.getD b.length 0 + B64 - c)) post ∧ w.grownBy w' (some g) ∧ TkT xs ys 0 b x b.length c := by
  have hbl := hb.len
  obtain ⟨bb, boff, cap2, rfl, h1, h2, hblt, hbc⟩ := hb.pos hp
  have HNE : Hid (bb ≠ g) := Lib.hid (by simpa [inBlock] using hne)
  have HO := Lib.hid hoff; have HC := Lib.hid hbc; have HM := Lib.hid hM; have LX := Lib.hid lx; have LB := Lib.hid lb; have HX := Lib.hid hx; have HLE := Lib.hid hlen
  unfold maxLen at h2 hm
  clear hM lx lb hne hoff hbc hb hx
  rw [hlen] at hcap ⊢
  clear hlen
  go_enter Tryz.func123, Tryz.ntmps123
  go_wp2
  go_loopw [7, 8, 16] (fun c d i wr => TkW w wr g pre xs b x post c d i) (fun _ _ i _ => b.length - (intOf i).toNat)
  case atStart => exact ⟨0, 0, 0, xs, Nat.zero_le _, rfl, rfl, rfl, by unfold B64; omega, by omega, tkT_zero LX.out, HM.out, World.grownBy.refl _ _⟩
  case round =>
    obtain ⟨k, c, d, ys, hk, rfl, rfl, rfl, hcl, hdl, hT, hrow, hgr⟩ := hrel
    have HT := Lib.hid hT; have HROW := Lib.hid hrow; have HG := Lib.hid hgr
    have hyl : ys.length = b.length + 1 := by rw [hT.len]; exact HLE.out
    by_cases hlt : k < b.length
    · have hcb : wr.cell? ⟨bb, boff + k, none⟩ = some (.int .u64 ((b.getD k 0 : Nat) : Int)) := hgr.cell (HC.out k hlt) (by simpa using HNE.out)
      have hky : k < ys.length := by omega
      have hcr : wr.cell? ⟨g, off + k, none⟩ = some (.int .u64 ((ys.getD k 0 : Nat) : Int)) := by rw [← HO.out]; exact hrow.cell hky
      have hfr : wr.frozen? ⟨g, off + k, none⟩ = false := hrow.free _
      have HKY := Lib.hid hky
      have hy := LB.out k; have hs := hT.lim k
      have STEP : Hid (TkT xs (ys.set k (sLo (ys.getD k 0) (aLo (mLo x (b.getD k 0)) c 0) d)) 0 b x (k + 1) (mHi x (b.getD k 0) + aHi (mLo x (b.getD k 0)) c 0 + sHi (ys.getD k 0) (aLo (mLo x (b.getD k 0)) c 0) d)) := Lib.hid (by
        have := tkT_gen (s' := sLo (ys.getD (0 + k) 0) (aLo (mLo x (b.getD k 0)) c 0) d) (c' := mHi x (b.getD k 0) + aHi (mLo x (b.getD k 0)) c 0 + sHi (ys.getD (0 + k) 0) (aLo (mLo x (b.getD k 0)) c 0) d) hT HX.out LB.out hlt (by have := HLE.out; omega) (sLo_lt _ _ _) (two_eq (hT.lim _) hdl)
        simpa only [Nat.zero_add] using this)
      have CAR := Lib.hid (two_carry HX.out hy hcl)
      have MUL := Lib.hid (fun w => mul64_any x (b.getD k 0) HX.out hy w)
      have hadd := fun w => add64_run0 (mLo x (b.getD k 0)) c w
      have hsub := fun w => sub64_run (ys.getD k 0) (aLo (mLo x (b.getD k 0)) c 0) d hdl w
      have hd1 := sHi_le (ys.getD k 0) (aLo (mLo x (b.getD k 0)) c 0) d
      have HD1 := Lib.hid hd1
      have hw : IntKind.u64.wrap ((mHi x (b.getD k 0) : Int) + ((aHi (mLo x (b.getD k 0)) c 0 : Nat) : Int)) = ((mHi x (b.getD k 0) + aHi (mLo x (b.getD k 0)) c 0 : Nat) : Int) := by
        rw [← wrap_u64 _ CAR.out]; congr 1
      generalize b.getD k 0 = y at *
      generalize ys.getD k 0 = s at *
      generalize sLo s (aLo (mLo x y) c 0) d = s2 at *
      generalize sHi s (aLo (mLo x y) c 0) d = d2 at *
      generalize aLo (mLo x y) c 0 = l2 at *
      generalize aHi (mLo x y) c 0 = ov at *
      generalize mLo x y = lo at *
      generalize mHi x y = hi at *
      clear hT hrow hgr hky hy hs hcl hdl hd1
      go_wp2_with fail
      refine (MUL.out _).mono ?_
      rintro e w' ⟨rfl, rfl⟩
      go_wp2
      go_roundw
      case rel =>
        have hset := HROW.out.set HKY.out s2
        rw [HO.out] at hset
        exact ⟨k + 1, hi + ov, d2, _, by omega, by go_num, rfl, rfl, CAR.out, HD1.out, STEP.out, hset.1, grown_trans' HG.out hset.2⟩
      case measure => simp [intOf]; omega
    · obtain rfl : k = b.length := by omega
      have hky : b.length < ys.length := by omega
      have hcr : wr.cell? ⟨g, off + b.length, none⟩ = some (.int .u64 ((ys.getD b.length 0 : Nat) : Int)) := by rw [← HO.out]; exact hrow.cell hky
      have hfr : wr.frozen? ⟨g, off + b.length, none⟩ = false := hrow.free _
      have HKY := Lib.hid hky
      have hs := hT.lim b.length
      have hsub := fun w => sub64_run (ys.getD b.length 0) c d hdl w
      have E1 := Lib.hid (sLo_two (d := d) hs hT.clt)
      have E2 : Hid ((((sHi (ys.getD b.length 0) c d : Nat) : Int) != 0) = decide (ys.getD b.length 0 < c + d)) := Lib.hid sHi_two
      obtain ⟨s2, es2⟩ : ∃ s2, s2 = sLo (ys.getD b.length 0) c d := ⟨_, rfl⟩
      obtain ⟨d2, ed2⟩ : ∃ d2, d2 = sHi (ys.getD b.length 0) c d := ⟨_, rfl⟩
      rw [← es2] at E1
      rw [← ed2] at E2
      rw [← es2, ← ed2] at hsub
      obtain ⟨s, es⟩ : ∃ s, s = ys.getD b.length 0 := ⟨_, rfl⟩
      rw [← es] at hcr hsub
      have ES := Lib.hid es
      clear hT hrow hgr hky hs hcl hdl es es2 ed2
      go_wp2
      go_ret
      have hset := HROW.out.set HKY.out s2
      rw [HO.out] at hset
      refine ⟨ys, c + d, by rw [← E2.out]; rfl, ?_, grown_trans' HG.out hset.2, HT.out⟩
      rw [← E1.out]
      exact hset.1
end Go.Proofs.YtfdilnfmcpbkgaaGreatDoor
