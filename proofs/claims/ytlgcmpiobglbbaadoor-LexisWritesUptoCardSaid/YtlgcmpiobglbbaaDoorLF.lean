/- lexis: through, skip, ended. -/
import Derived.Test.YtlgcmpiobglbbaaDoorLE
set_option linter.unusedVariables false
set_option linter.unusedSimpArgs false
namespace Go.Proofs.YtlgcmpiobglbbaaDoor
open Go.RowKit Mth

/-- the line at a place; where it begins -/
def lnAt (s : ByteArray) : Nat → Nat
  | 0 => 1
  | p + 1 => if cb s p = 10 then lnAt s p + 1 else lnAt s p
def fsAt (s : ByteArray) : Nat → Nat
  | 0 => 0
  | p + 1 => if cb s p = 10 then p + 1 else fsAt s p
theorem ln_le (s : ByteArray) : ∀ p, lnAt s p ≤ p + 1
  | 0 => Nat.le_refl _
  | p + 1 => by have := ln_le s p; unfold lnAt; split <;> omega
theorem fs_le (s : ByteArray) : ∀ p, fsAt s p ≤ p
  | 0 => Nat.le_refl _
  | p + 1 => by have := fs_le s p; unfold fsAt; split <;> omega
theorem ln_nl {s : ByteArray} {p : Nat} (h : cb s p = 10) : lnAt s (p + 1) = lnAt s p + 1 ∧ fsAt s (p + 1) = p + 1 := by
  constructor
  · show (if cb s p = 10 then lnAt s p + 1 else lnAt s p) = _; rw [if_pos h]
  · show (if cb s p = 10 then p + 1 else fsAt s p) = _; rw [if_pos h]
theorem ln_same {s : ByteArray} {p : Nat} (h : cb s p ≠ 10) : lnAt s (p + 1) = lnAt s p ∧ fsAt s (p + 1) = fsAt s p := by
  constructor
  · show (if cb s p = 10 then lnAt s p + 1 else lnAt s p) = _; rw [if_neg h]
  · show (if cb s p = 10 then p + 1 else fsAt s p) = _; rw [if_neg h]
theorem ln_run {s : ByteArray} {p : Nat} : ∀ {q : Nat}, p ≤ q → (∀ i, p ≤ i → i < q → cb s i ≠ 10) → lnAt s q = lnAt s p ∧ fsAt s q = fsAt s p
  | 0, h, _ => by obtain rfl : p = 0 := by omega
                  exact ⟨rfl, rfl⟩
  | q + 1, h, hn => by
    by_cases e : p = q + 1
    · subst e; exact ⟨rfl, rfl⟩
    · have h1 := ln_run (q := q) (by omega) (fun i i1 i2 => hn i i1 (by omega))
      have h2 := ln_same (hn q (by omega) (by omega))
      exact ⟨h2.1.trans h1.1, h2.2.trans h1.2⟩
/-- the reader, its line and where that begins as they should be -/
def RdA (w : World) (g : Nat) (s : ByteArray) (p : Nat) : Prop := Rdr w g s p (lnAt s p) (fsAt s p)
def AdA (w w' : World) (g : Nat) (s : ByteArray) (p : Nat) : Prop := w.grownBy w' (some g) ∧ RdA w' g s p
theorem AdA.adv {w w' : World} {g p : Nat} {s : ByteArray} (h : AdA w w' g s p) : Adv w w' g s p (lnAt s p) (fsAt s p) := h
theorem AdA.run {w w' : World} {g p q : Nat} {s : ByteArray} (h : Adv w w' g s q (lnAt s p) (fsAt s p)) (hpq : p ≤ q) (hn : ∀ i, p ≤ i → i < q → cb s i ≠ 10) : AdA w w' g s q := by
  obtain ⟨e1, e2⟩ := ln_run hpq hn
  refine ⟨h.1, ?_⟩
  unfold RdA; rw [e1, e2]; exact h.2

/-- bytes of a text, none the mark -/
def TxtTo (s : ByteArray) (m a q : Nat) : Prop := a ≤ q ∧ q ≤ s.size ∧ ∀ i, a ≤ i → i < q → bInner (cb s i) = true ∧ cb s i ≠ m
theorem TxtTo.more {s : ByteArray} {m a p : Nat} (h : TxtTo s m a p) (hp : p < s.size) (h1 : bInner (cb s p) = true) (h2 : cb s p ≠ m) : TxtTo s m a (p + 1) := by
  refine ⟨by have := h.1; omega, by omega, fun i i1 i2 => ?_⟩
  by_cases e : i = p
  · subst e; exact ⟨h1, h2⟩
  · exact h.2.2 i i1 (by omega)
def ThrR (w wr : World) (g : Nat) (s : ByteArray) (m a : Nat) : Prop := ∃ p : Nat, TxtTo s m a p ∧ AdA w wr g s p
def ThrO (w w' : World) (g : Nat) (s : ByteArray) (m a : Nat) (e : Ending) : Prop :=
  (∃ q, e = .returned (.bool true) ∧ TxtTo s m a q ∧ q < s.size ∧ cb s q = m ∧ AdA w w' g s (q + 1)) ∨
  (∃ q, e = .returned (.bool false) ∧ TxtTo s m a q ∧ (q = s.size ∨ (cb s q ≠ m ∧ bInner (cb s q) = false)) ∧ w.grownBy w' (some g) ∧ ∃ p l f, Rdr w' g s p l f)
set_option maxHeartbeats 1000000 in
set_option maxRecDepth 100000 in
theorem through_any (g : Nat) (s : ByteArray) (a m : Nat) (w : World) (h : RdA w g s a) (hs : s.size ≤ 1048576) (ha : a ≤ s.size) (hm : m = 34 ∨ m = 124) :
    Calls Tryd.prog 59 #[.pointer (some ⟨g, 0, none⟩), .int .u8 (m : Int)] w fun e w' => ThrO w w' g s m a e := by
  have HR := Lib.hid h
  obtain ⟨c0, c1, c2, c3, f0, f1, f2, f3⟩ := h.cells
  have HMm := Lib.hid hm
  have hm255 : m ≤ 255 := by omega
  clear h hm
  go_enter Tryd.func59, Tryd.ntmps59
  go_wp2
  go_loopw [] (fun wr => ThrR w wr g s m a) (fun wr => s.size - atIn wr g)
  case atStart => exact ⟨a, ⟨Nat.le_refl _, ha, fun i h1 h2 => by omega⟩, ⟨grown_refl _ _, HR.out⟩⟩
  case round =>
    obtain ⟨p, htx, hadv⟩ := hrel
    have HT := Lib.hid htx
    have HA := Lib.hid hadv
    have hr := hadv.2
    have HM : Hid (atIn wr g = p) := Lib.hid (atIn_of hr)
    obtain ⟨d0, d1, d2, d3, g0, g1, g2, g3⟩ := hr.cells
    have h2 := htx.2.1
    clear hadv hr c0 c1 c2 c3 f0 f1 f2 f3 htx
    by_cases hlt : p < s.size
    · have hbk := cb_at hlt
      have hb255 := cb_lt s p
      by_cases hb : cb s p = m
      · have HE := Lib.hid hb
        rw [hb] at hbk
        have HN : Hid (cb s p ≠ 10) := Lib.hid (by rw [hb]; have := HMm.out; omega)
        clear hb hb255
        go_wp2
        go_quiet (fail)
        go_wp2
        go_quiet (fail)
        go_wp2
        go_ret
        exact .inl ⟨p, rfl, HT.out, hlt, HE.out, AdA.run (p := p) ⟨grown_set (grown_drewN HA.out.1 _) _, (HA.out.2.drewN _).setAt⟩ (by omega) (fun i i1 i2 => by rw [show i = p by omega]; exact HN.out)⟩
      · have HE := Lib.hid hb
        have e0 : ((cb s p : Int) == (m : Int)) = false := ne_i hb
        by_cases hnl : cb s p = 10
        · have HX := Lib.hid hnl
          have HL := Lib.hid (ln_nl hnl)
          have hbi : Hid (bInner (cb s p) = true) := Lib.hid (by rw [hnl]; rfl)
          have hll := ln_le s p
          rw [hnl] at hbk e0
          have NLC : Hid (∀ W, Rdr W g s p (lnAt s p) (fsAt s p) → Calls Tryd.prog 44 #[.pointer (some ⟨g, 0, none⟩)] W fun e w' => e = .returned (.tuple #[]) ∧ Adv W w' g s p (lnAt s p + 1) (p + 1)) :=
            Lib.hid (fun W hW => newLine_any g s p _ _ W hW (by omega) (by omega))
          clear hnl hb hb255
          go_wp2
          go_quiet (fail)
          go_wp2
          go_quiet (fail)
          go_wp2_with fail
          refine (NLC.out _ (HA.out.2.drewN _)).mono ?_
          rintro e w1 ⟨rfl, hw1⟩
          have HW1 := Lib.hid hw1
          obtain ⟨k0, k1, k2, k3, j0, j1, j2, j3⟩ := hw1.2.cells
          clear hw1
          go_wp2
          go_roundw
          case rel => exact ⟨p + 1, HT.out.more hlt hbi.out HE.out, grown_set (grown_tr (grown_drewN HA.out.1 _) HW1.out.1) _, by unfold RdA; rw [HL.out.1, HL.out.2]; exact HW1.out.2.setAt⟩
          case measure => exact meas_lt HM.out (HW1.out.2.setAt (a' := p + 1)) (by omega) (by omega)
        · have e1 : ((cb s p : Int) == 10) = false := ne_i (k := 10) hnl
          have HX := Lib.hid hnl
          have IT : Hid (∀ W, Calls Tryd.prog 30 #[.int .u8 ((cb s p : Nat) : Int)] W fun e w' => e = .returned (.bool (bInner (cb s p))) ∧ W = w') := Lib.hid (fun W => inText_any _ hb255 W)
          rcases Bool.eq_false_or_eq_true (bInner (cb s p)) with hi | hi
          · have HI := Lib.hid hi
            rw [hi] at IT
            have HL := Lib.hid (ln_same hnl)
            clear hi hnl hb
            go_wp2
            go_quiet (fail)
            go_wp2
            go_quiet (fail)
            go_wp2_with fail
            refine (IT.out _).mono ?_
            rintro e w1 ⟨rfl, rfl⟩
            go_wp2
            go_roundw
            case rel => exact ⟨p + 1, HT.out.more hlt HI.out HE.out, grown_set (grown_drewN HA.out.1 _) _, by unfold RdA; rw [HL.out.1, HL.out.2]; exact (HA.out.2.drewN _).setAt⟩
            case measure => exact meas_lt HM.out ((HA.out.2.drewN _).setAt (a' := p + 1)) (by omega) (by omega)
          · have HI := Lib.hid hi
            rw [hi] at IT
            clear hi hnl hb
            go_wp2
            go_quiet (fail)
            go_wp2
            go_quiet (fail)
            go_wp2_with fail
            refine (IT.out _).mono ?_
            rintro e w1 ⟨rfl, rfl⟩
            go_wp2
            go_ret
            exact .inr ⟨p, rfl, HT.out, .inr ⟨HE.out, HI.out⟩, grown_drewN HA.out.1 _, _, _, _, HA.out.2.drewN _⟩
    · obtain rfl : p = s.size := by omega
      go_wp2
      go_quiet (fail)
      go_wp2
      go_ret
      exact .inr ⟨s.size, rfl, HT.out, .inl rfl, grown_drewN HA.out.1 _, _, _, _, HA.out.2.drewN _⟩
end Go.Proofs.YtlgcmpiobglbbaaDoor
