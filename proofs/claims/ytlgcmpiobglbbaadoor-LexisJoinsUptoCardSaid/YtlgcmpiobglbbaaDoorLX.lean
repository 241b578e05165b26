/- lexis: startOf, skip. -/
import Derived.Test.YtlgcmpiobglbbaaDoorLU
import Derived.Test.YtlgcmpiobglbbaaDoorLI
set_option linter.unusedVariables false
set_option linter.unusedSimpArgs false
namespace Go.Proofs.YtlgcmpiobglbbaaDoor
open Go.RowKit Mth

/-- what begins with a byte -/
def stF (c : Nat) : Nat := if c = 40 ∨ c = 41 then 1 else if c = 35 then 3 else if c = 34 then 4 else if c = 124 then 5 else if c = 58 then 6 else if bDig c then 2 else if bSimple c then 7 else 0
set_option maxHeartbeats 2000000 in
set_option maxRecDepth 100000 in
theorem startOf_any (c : Nat) (hc : c ≤ 255) (w : World) (hT : STab w) : Calls Tryd.prog 27 #[.int .u8 ((c : Nat) : Int)] w fun e w' => e = .returned (.int .i64 ((stF c : Nat) : Int)) ∧ w = w' := by
  have KO := Lib.hid (kindsOf_any c hc w hT)
  clear hT
  by_cases hl : c = 40 ∨ c = 41 ∨ c = 35 ∨ c = 34 ∨ c = 124 ∨ c = 58
  · rcases hl with rfl | rfl | rfl | rfl | rfl | rfl
    all_goals (
      go_enter Tryd.func27, Tryd.ntmps27
      go_wp2_with (go_at_call 45; refine KO.out.mono ?_; rintro e w1 ⟨rfl, rfl⟩)
      go_ret
      exact ⟨ret_z (by rfl), rfl⟩)
  · have hn : c ≠ 40 ∧ c ≠ 41 ∧ c ≠ 35 ∧ c ≠ 34 ∧ c ≠ 124 ∧ c ≠ 58 := by omega
    clear hl
    obtain ⟨n1, n2, n3, n4, n5, n6⟩ := hn
    have e1 : ((c : Int) == 40) = false := ne_i (k := 40) n1
    have e2 : ((c : Int) == 41) = false := ne_i (k := 41) n2
    have e3 : ((c : Int) == 35) = false := ne_i (k := 35) n3
    have e4 : ((c : Int) == 34) = false := ne_i (k := 34) n4
    have e5 : ((c : Int) == 124) = false := ne_i (k := 124) n5
    have e6 : ((c : Int) == 58) = false := ne_i (k := 58) n6
    have ES : Hid (stF c = if bDig c then 2 else if bSimple c then 7 else 0) := Lib.hid (by
      unfold stF
      rw [if_neg (by omega), if_neg n3, if_neg n4, if_neg n5, if_neg n6])
    clear n1 n2 n3 n4 n5 n6
    have hk := kinds_cases c
    have b1 : (bits BinOp.and IntKind.i64 15 2 != 0) = true := by decide
    have b2 : (bits BinOp.and IntKind.i64 14 2 != 0) = true := by decide
    have b3 : (bits BinOp.and IntKind.i64 12 2 != 0) = false := by decide
    have b4 : (bits BinOp.and IntKind.i64 8 2 != 0) = false := by decide
    have b5 : (bits BinOp.and IntKind.i64 0 2 != 0) = false := by decide
    have d3 : (bits BinOp.and IntKind.i64 12 8 != 0) = true := by decide
    have d4 : (bits BinOp.and IntKind.i64 8 8 != 0) = true := by decide
    have d5 : (bits BinOp.and IntKind.i64 0 8 != 0) = false := by decide
    rcases hk with ⟨h, _, h2, _, h4⟩ | ⟨h, _, h2, _, h4⟩ | ⟨h, _, h2, _, h4⟩ | ⟨h, _, h2, _, h4⟩ | ⟨h, _, h2, _, h4⟩
    all_goals (
      rw [h] at KO
      have ER := Lib.hid (ES.out.trans (by rw [h2, h4]))
      clear h h2 h4
      go_enter Tryd.func27, Tryd.ntmps27
      go_wp2_with (go_at_call 45; refine KO.out.mono ?_; rintro e w1 ⟨rfl, rfl⟩)
      go_ret
      exact ⟨ret_z (by rw [ER.out]; rfl), rfl⟩)

/-- the answer of skip -/
def SkipO (w w' : World) (g : Nat) (s : ByteArray) (a : Nat) (e : Ending) : Prop :=
  w.grownBy w' (some g) ∧ ((e = .returned (.bool true) ∧ skipF s a < s.size ∧ bBlank (cb s (skipF s a)) = false ∧ cb s (skipF s a) ≠ 59 ∧ RdA w' g s (skipF s a)) ∨ (e = .returned (.bool false) ∧ s.size ≤ skipF s a))
def SkR (w wr : World) (g : Nat) (s : ByteArray) (a : Nat) : Prop := ∃ p : Nat, p ≤ s.size ∧ skipF s a = skipF s p ∧ AdA w wr g s p
theorem rdaC {w : World} {g p : Nat} {s : ByteArray} (h : RdA w g s p) :
    w.cell? ⟨g, 0, none⟩ = some (.string s) ∧ w.cell? ⟨g, 1, none⟩ = some (.int .i64 (p : Int)) ∧ w.cell? ⟨g, 2, none⟩ = some (.int .i64 (lnAt s p : Int)) ∧ w.cell? ⟨g, 3, none⟩ = some (.int .i64 (fsAt s p : Int)) ∧
    w.frozen? ⟨g, 0, none⟩ = false ∧ w.frozen? ⟨g, 1, none⟩ = false ∧ w.frozen? ⟨g, 2, none⟩ = false ∧ w.frozen? ⟨g, 3, none⟩ = false := Rdr.cells h
theorem RdA.step {s : ByteArray} {p : Nat} {w : World} {g : Nat} (hn : cb s p ≠ 10) (h : Rdr w g s (p + 1) (lnAt s p) (fsAt s p)) : RdA w g s (p + 1) := by
  have := ln_same hn
  unfold RdA; rw [this.1, this.2]; exact h
theorem RdA.stepN {s : ByteArray} {p : Nat} {w : World} {g : Nat} (hn : cb s p = 10) (h : Rdr w g s (p + 1) (lnAt s p + 1) (p + 1)) : RdA w g s (p + 1) := by
  have := ln_nl hn
  unfold RdA; rw [this.1, this.2]; exact h
set_option maxHeartbeats 2000000 in
set_option maxRecDepth 100000 in
theorem skip_any (g : Nat) (s : ByteArray) (a : Nat) (w : World) (h : RdA w g s a) (hs : s.size ≤ 1048576) (ha : a ≤ s.size) :
    Calls Tryd.prog 25 #[.pointer (some ⟨g, 0, none⟩)] w fun e w' => SkipO w w' g s a e := by
  have HR := Lib.hid h
  clear h
  go_enter Tryd.func25, Tryd.ntmps25
  go_wp2
  go_loopw [] (fun wr => SkR w wr g s a) (fun wr => s.size - atIn wr g)
  case atStart => exact ⟨a, ha, rfl, grown_refl _ _, HR.out⟩
  case round =>
    obtain ⟨p, hp, hsk, hadv⟩ := hrel
    have HS := Lib.hid hsk
    have HA := Lib.hid hadv
    have HM : Hid (atIn wr g = p) := Lib.hid (atIn_of hadv.2)
    obtain ⟨d0, d1, d2, d3, g0, g1, g2, g3⟩ := rdaC hadv.2
    clear hadv hsk
    by_cases hlt : p < s.size
    · have hbk := cb_at hlt
      by_cases h59 : cb s p = 59
      · have CM : Hid (∀ n, Calls Tryd.prog 43 #[.pointer (some ⟨g, 0, none⟩)] (wr.drewN n) fun e w' => e = .returned (.tuple #[]) ∧ ∃ q, p ≤ q ∧ q ≤ s.size ∧ (∀ i, p ≤ i → i < q → (cb s i != 10) = true) ∧ (q = s.size ∨ cb s q = 10) ∧ Adv (wr.drewN n) w' g s q (lnAt s p) (fsAt s p)) :=
          Lib.hid (fun n => comment_any g s p _ _ _ (Rdr.drewN HA.out.2 n) hs (by omega))
        have H59 := Lib.hid h59
        rw [h59] at hbk
        clear h59
        go_wp2
        go_quiet (fail)
        go_wp2
        go_quiet (fail)
        go_wp2_with fail
        refine (CM.out _).mono ?_
        rintro e w1 ⟨rfl, q, h1, h2, h3, h4, hadv⟩
        have hpq : p < q := by
          rcases Nat.lt_or_ge p q with h | h
          · exact h
          · obtain rfl : p = q := by omega
            have h5 := H59.out
            rcases h4 with h4 | h4 <;> omega
        have HN : Hid (∀ i, p ≤ i → i < q → cb s i ≠ 10) := Lib.hid (fun i i1 i2 e => by have := h3 i i1 i2; rw [e] at this; cases this)
        have HK : Hid (skipF s a = skipF s q) := Lib.hid (by rw [HS.out, skip_cmt hlt H59.out, cmt_of (q - (p + 1)) (Nat.le_refl _) (by omega) h2 (fun i i1 i2 => HN.out i (by omega) i2) h4])
        have HA1 : Hid (AdA w w1 g s q) := Lib.hid ⟨grown_tr (grown_drewN HA.out.1 _) hadv.1, RdA.nl (Nat.le_of_lt hpq) HN.out hadv.2⟩
        clear h3 h4 hadv
        go_wp2
        go_roundw
        case rel => exact ⟨q, h2, HK.out, HA1.out⟩
        case measure => exact meas_lt HM.out HA1.out.2 hpq h2
      · have e59 : ((cb s p : Int) == 59) = false := ne_i (k := 59) h59
        by_cases h10 : cb s p = 10
        · have HK : Hid (skipF s a = skipF s (p + 1)) := Lib.hid (by rw [HS.out, skip_blank hlt (by rw [h10]; rfl)])
          have H10 := Lib.hid h10
          have hl := ln_le s p
          have NL : Hid (∀ n, Calls Tryd.prog 44 #[.pointer (some ⟨g, 0, none⟩)] (wr.drewN n) fun e w' => e = .returned (.tuple #[]) ∧ Adv (wr.drewN n) w' g s p (lnAt s p + 1) (p + 1)) :=
            Lib.hid (fun n => newLine_any g s p _ _ _ (Rdr.drewN HA.out.2 n) (by omega) (by omega))
          rw [h10] at hbk e59
          clear h10 h59
          go_wp2
          go_quiet (fail)
          go_wp2
          go_quiet (fail)
          go_wp2_with fail
          refine (NL.out _).mono ?_
          rintro e w1 ⟨rfl, hadv⟩
          have HA1 := Lib.hid hadv
          obtain ⟨k0, k1, k2, k3, j0, j1, j2, j3⟩ := hadv.2.cells
          clear hadv
          go_wp2
          go_roundw
          case rel => exact ⟨p + 1, by omega, HK.out, grown_set (grown_tr (grown_drewN HA.out.1 _) HA1.out.1) _, RdA.stepN H10.out HA1.out.2.setAt⟩
          case measure => exact meas_lt HM.out (HA1.out.2.setAt (a' := p + 1)) (by omega) (by omega)
        · have e10 : ((cb s p : Int) == 10) = false := ne_i (k := 10) h10
          have H10 := Lib.hid h10
          by_cases hbl : cb s p = 9 ∨ cb s p = 13 ∨ cb s p = 32
          · have HK : Hid (skipF s a = skipF s (p + 1)) := Lib.hid (by rw [HS.out, skip_blank hlt (by rw [bBlank_iff]; omega)])
            rcases hbl with hbl | hbl | hbl
            all_goals (
              rw [hbl] at hbk e59 e10
              clear hbl h59 h10
              go_wp2
              go_quiet (fail)
              go_wp2
              go_quiet (fail)
              go_wp2
              go_roundw
              case rel => exact ⟨p + 1, by omega, HK.out, grown_set (grown_drewN HA.out.1 _) _, RdA.step H10.out (Rdr.drewN HA.out.2 _).setAt⟩
              case measure => exact meas_lt HM.out ((Rdr.drewN HA.out.2 _).setAt (a' := p + 1)) (by omega) (by omega))
          · have n9 : cb s p ≠ 9 := fun e => hbl (.inl e)
            have n13 : cb s p ≠ 13 := fun e => hbl (.inr (.inl e))
            have n32 : cb s p ≠ 32 := fun e => hbl (.inr (.inr e))
            have e9 : ((cb s p : Int) == 9) = false := ne_i (k := 9) n9
            have e13 : ((cb s p : Int) == 13) = false := ne_i (k := 13) n13
            have e32 : ((cb s p : Int) == 32) = false := ne_i (k := 32) n32
            have HBL : Hid (bBlank (cb s p) = false) := Lib.hid (by rw [← Bool.not_eq_true, bBlank_iff]; omega)
            have H59 := Lib.hid h59
            have HK : Hid (skipF s a = p) := Lib.hid (by rw [HS.out, skip_here HBL.out h59])
            clear hbl h59 h10 n9 n13 n32
            go_wp2
            go_quiet (fail)
            go_wp2
            go_quiet (fail)
            go_wp2
            go_ret
            exact ⟨grown_drewN HA.out.1 _, .inl ⟨rfl, by rw [HK.out]; exact hlt, by rw [HK.out]; exact HBL.out, by rw [HK.out]; exact H59.out, by rw [HK.out]; exact Rdr.drewN HA.out.2 _⟩⟩
    · obtain rfl : p = s.size := by omega
      have HK : Hid (s.size ≤ skipF s a) := Lib.hid (by rw [HS.out, skip_end (Nat.le_refl _)]; exact Nat.le_refl _)
      go_wp2
      go_quiet (fail)
      go_wp2
      go_ret
      exact ⟨grown_drewN HA.out.1 _, .inr ⟨rfl, HK.out⟩⟩
end Go.Proofs.YtlgcmpiobglbbaaDoor
