/- LF LG LH LQ LR LS LT LU. -/
import Derived.Test.YtpkdiciinhjfjaaDoorLG1
import Derived.Lib.Case
import Derived.Lib.ReplaceLaws
set_option linter.unusedVariables false
set_option linter.unusedSimpArgs false
/- lexis: through, skip, ended. -/
namespace Go.Proofs.YtpkdiciinhjfjaaDoor
open Go.RowKit Mth

/-- the line at a place; where it begins -/
def lnAt (s : ByteArray) : Nat → Nat
  | 0 => 1
  | p + 1 => if cb s p = 10 then lnAt s p + 1 else lnAt s p
def fsAt (s : ByteArray) : Nat → Nat
  | 0 => 0
  | p + 1 => if cb s p = 10 then p + 1 else fsAt s p
theorem ln_le (s : ByteArray) : ∀ p, lnAt s p ≤ p + 1
  | 0 => Nat.le_refl _
  | p + 1 => by have := ln_le s p; unfold lnAt; split <;> omega
theorem fs_le (s : ByteArray) : ∀ p, fsAt s p ≤ p
  | 0 => Nat.le_refl _
  | p + 1 => by have := fs_le s p; unfold fsAt; split <;> omega
theorem ln_nl {s : ByteArray} {p : Nat} (h : cb s p = 10) : lnAt s (p + 1) = lnAt s p + 1 ∧ fsAt s (p + 1) = p + 1 := by
  constructor
  · show (if cb s p = 10 then lnAt s p + 1 else lnAt s p) = _; rw [if_pos h]
  · show (if cb s p = 10 then p + 1 else fsAt s p) = _; rw [if_pos h]
theorem ln_same {s : ByteArray} {p : Nat} (h : cb s p ≠ 10) : lnAt s (p + 1) = lnAt s p ∧ fsAt s (p + 1) = fsAt s p := by
  constructor
  · show (if cb s p = 10 then lnAt s p + 1 else lnAt s p) = _; rw [if_neg h]
  · show (if cb s p = 10 then p + 1 else fsAt s p) = _; rw [if_neg h]
theorem ln_run {s : ByteArray} {p : Nat} : ∀ {q : Nat}, p ≤ q → (∀ i, p ≤ i → i < q → cb s i ≠ 10) → lnAt s q = lnAt s p ∧ fsAt s q = fsAt s p
  | 0, h, _ => by obtain rfl : p = 0 := by omega
                  exact ⟨rfl, rfl⟩
  | q + 1, h, hn => by
    by_cases e : p = q + 1
    · subst e; exact ⟨rfl, rfl⟩
    · have h1 := ln_run (q := q) (by omega) (fun i i1 i2 => hn i i1 (by omega))
      have h2 := ln_same (hn q (by omega) (by omega))
      exact ⟨h2.1.trans h1.1, h2.2.trans h1.2⟩
/-- the reader, its line and where that begins as they should be -/
def RdA (w : World) (g : Nat) (s : ByteArray) (p : Nat) : Prop := Rdr w g s p (lnAt s p) (fsAt s p)
def AdA (w w' : World) (g : Nat) (s : ByteArray) (p : Nat) : Prop := w.grownBy w' (some g) ∧ RdA w' g s p
theorem AdA.adv {w w' : World} {g p : Nat} {s : ByteArray} (h : AdA w w' g s p) : Adv w w' g s p (lnAt s p) (fsAt s p) := h
theorem AdA.run {w w' : World} {g p q : Nat} {s : ByteArray} (h : Adv w w' g s q (lnAt s p) (fsAt s p)) (hpq : p ≤ q) (hn : ∀ i, p ≤ i → i < q → cb s i ≠ 10) : AdA w w' g s q := by
  obtain ⟨e1, e2⟩ := ln_run hpq hn
  refine ⟨h.1, ?_⟩
  unfold RdA; rw [e1, e2]; exact h.2

/-- bytes of a text, none the mark -/
def TxtTo (s : ByteArray) (m a q : Nat) : Prop := a ≤ q ∧ q ≤ s.size ∧ ∀ i, a ≤ i → i < q → bInner (cb s i) = true ∧ cb s i ≠ m
theorem TxtTo.more {s : ByteArray} {m a p : Nat} (h : TxtTo s m a p) (hp : p < s.size) (h1 : bInner (cb s p) = true) (h2 : cb s p ≠ m) : TxtTo s m a (p + 1) := by
  refine ⟨by have := h.1; omega, by omega, fun i i1 i2 => ?_⟩
  by_cases e : i = p
  · subst e; exact ⟨h1, h2⟩
  · exact h.2.2 i i1 (by omega)
def ThrR (w wr : World) (g : Nat) (s : ByteArray) (m a : Nat) : Prop := ∃ p : Nat, TxtTo s m a p ∧ AdA w wr g s p
def ThrO (w w' : World) (g : Nat) (s : ByteArray) (m a : Nat) (e : Ending) : Prop :=
  (∃ q, e = .returned (.bool true) ∧ TxtTo s m a q ∧ q < s.size ∧ cb s q = m ∧ AdA w w' g s (q + 1)) ∨
  (∃ q, e = .returned (.bool false) ∧ TxtTo s m a q ∧ (q = s.size ∨ (cb s q ≠ m ∧ bInner (cb s q) = false)) ∧ w.grownBy w' (some g) ∧ ∃ p l f, Rdr w' g s p l f)
set_option maxHeartbeats 1000000 in
set_option maxRecDepth 100000 in
theorem through_any (g : Nat) (s : ByteArray) (a m : Nat) (w : World) (h : RdA w g s a) (hs : s.size ≤ 1048576) (ha : a ≤ s.size) (hm : m = 34 ∨ m = 124) :
    Calls Tryd.prog 61 #[.pointer (some ⟨g, 0, none⟩), .int .u8 (m : Int)] w fun e w' => ThrO w w' g s m a e := by
  have HR := Lib.hid h
  obtain ⟨c0, c1, c2, c3, f0, f1, f2, f3⟩ := h.cells
  have HMm := Lib.hid hm
  have hm255 : m ≤ 255 := by omega
  clear h hm
  go_enter Tryd.func61, Tryd.ntmps61
  go_wp2
  go_loopw [] (fun wr => ThrR w wr g s m a) (fun wr => s.size - atIn wr g)
  case atStart => exact ⟨a, ⟨Nat.le_refl _, ha, fun i h1 h2 => by omega⟩, ⟨grown_refl _ _, HR.out⟩⟩
  case round =>
    obtain ⟨p, htx, hadv⟩ := hrel
    have HT := Lib.hid htx
    have HA := Lib.hid hadv
    have hr := hadv.2
    have HM : Hid (atIn wr g = p) := Lib.hid (atIn_of hr)
    obtain ⟨d0, d1, d2, d3, g0, g1, g2, g3⟩ := hr.cells
    have h2 := htx.2.1
    clear hadv hr c0 c1 c2 c3 f0 f1 f2 f3 htx
    by_cases hlt : p < s.size
    · have hbk := cb_at hlt
      have hb255 := cb_lt s p
      by_cases hb : cb s p = m
      · have HE := Lib.hid hb
        rw [hb] at hbk
        have HN : Hid (cb s p ≠ 10) := Lib.hid (by rw [hb]; have := HMm.out; omega)
        clear hb hb255
        go_wp2
        go_quiet (fail)
        go_wp2
        go_quiet (fail)
        go_wp2
        go_ret
        exact .inl ⟨p, rfl, HT.out, hlt, HE.out, AdA.run (p := p) ⟨grown_set (grown_drewN HA.out.1 _) _, (HA.out.2.drewN _).setAt⟩ (by omega) (fun i i1 i2 => by rw [show i = p by omega]; exact HN.out)⟩
      · have HE := Lib.hid hb
        have e0 : ((cb s p : Int) == (m : Int)) = false := ne_i hb
        by_cases hnl : cb s p = 10
        · have HX := Lib.hid hnl
          have HL := Lib.hid (ln_nl hnl)
          have hbi : Hid (bInner (cb s p) = true) := Lib.hid (by rw [hnl]; rfl)
          have hll := ln_le s p
          rw [hnl] at hbk e0
          have NLC : Hid (∀ W, Rdr W g s p (lnAt s p) (fsAt s p) → Calls Tryd.prog 48 #[.pointer (some ⟨g, 0, none⟩)] W fun e w' => e = .returned (.tuple #[]) ∧ Adv W w' g s p (lnAt s p + 1) (p + 1)) :=
            Lib.hid (fun W hW => newLine_any g s p _ _ W hW (by omega) (by omega))
          clear hnl hb hb255
          go_wp2
          go_quiet (fail)
          go_wp2
          go_quiet (fail)
          go_wp2_with fail
          refine (NLC.out _ (HA.out.2.drewN _)).mono ?_
          rintro e w1 ⟨rfl, hw1⟩
          have HW1 := Lib.hid hw1
          obtain ⟨k0, k1, k2, k3, j0, j1, j2, j3⟩ := hw1.2.cells
          clear hw1
          go_wp2
          go_roundw
          case rel => exact ⟨p + 1, HT.out.more hlt hbi.out HE.out, grown_set (grown_tr (grown_drewN HA.out.1 _) HW1.out.1) _, by unfold RdA; rw [HL.out.1, HL.out.2]; exact HW1.out.2.setAt⟩
          case measure => exact meas_lt HM.out (HW1.out.2.setAt (a' := p + 1)) (by omega) (by omega)
        · have e1 : ((cb s p : Int) == 10) = false := ne_i (k := 10) hnl
          have HX := Lib.hid hnl
          have IT : Hid (∀ W, Calls Tryd.prog 72 #[.int .u8 ((cb s p : Nat) : Int)] W fun e w' => e = .returned (.bool (bInner (cb s p))) ∧ W = w') := Lib.hid (fun W => inText_any _ hb255 W)
          rcases Bool.eq_false_or_eq_true (bInner (cb s p)) with hi | hi
          · have HI := Lib.hid hi
            rw [hi] at IT
            have HL := Lib.hid (ln_same hnl)
            clear hi hnl hb
            go_wp2
            go_quiet (fail)
            go_wp2
            go_quiet (fail)
            go_wp2_with fail
            refine (IT.out _).mono ?_
            rintro e w1 ⟨rfl, rfl⟩
            go_wp2
            go_roundw
            case rel => exact ⟨p + 1, HT.out.more hlt HI.out HE.out, grown_set (grown_drewN HA.out.1 _) _, by unfold RdA; rw [HL.out.1, HL.out.2]; exact (HA.out.2.drewN _).setAt⟩
            case measure => exact meas_lt HM.out ((HA.out.2.drewN _).setAt (a' := p + 1)) (by omega) (by omega)
          · have HI := Lib.hid hi
            rw [hi] at IT
            clear hi hnl hb
            go_wp2
            go_quiet (fail)
            go_wp2
            go_quiet (fail)
            go_wp2_with fail
            refine (IT.out _).mono ?_
            rintro e w1 ⟨rfl, rfl⟩
            go_wp2
            go_ret
            exact .inr ⟨p, rfl, HT.out, .inr ⟨HE.out, HI.out⟩, grown_drewN HA.out.1 _, _, _, _, HA.out.2.drewN _⟩
    · obtain rfl : p = s.size := by omega
      go_wp2
      go_quiet (fail)
      go_wp2
      go_ret
      exact .inr ⟨s.size, rfl, HT.out, .inl rfl, grown_drewN HA.out.1 _, _, _, _, HA.out.2.drewN _⟩
end Go.Proofs.YtpkdiciinhjfjaaDoor

/- lexis: ended; what a token is, in plain mathematics. -/
namespace Go.Proofs.YtpkdiciinhjfjaaDoor
open Go.RowKit Mth

/-- a token, as a value -/
def tokV (k : Nat) (t : ByteArray) (q : Bool) (l c : Nat) : Value := .agg #[.int .i64 (k : Int), .string t, .bool q, .int .i64 (l : Int), .int .i64 (c : Int)]
def noTok : Value := tokV 0 ⟨#[]⟩ false 0 0
theorem ret_tok {k : Nat} {t : ByteArray} {q : Bool} {l c : Nat} : tokV k t q l c = .agg #[.int .i64 (k : Int), .string t, .bool q, .int .i64 (l : Int), .int .i64 (c : Int)] := rfl
theorem Rdr.alloc {w : World} {g : Nat} {s : ByteArray} {a l f : Nat} (h : Rdr w g s a l f) (o : Obj) : Rdr (w.alloc o) g s a l f := (Below.heap_alloc w o g h.lt).trans h
theorem Rdr.setOther {w : World} {g b i : Nat} {s : ByteArray} {a l f : Nat} {v : Value} (h : Rdr w g s a l f) (hn : g ≠ b) : Rdr (w.setCell ⟨b, i, none⟩ v) g s a l f := (Below.heap_setCell w ⟨b, i, none⟩ v g hn).trans h

theorem heap_set5 {w : World} {b : Nat} {x0 x1 x2 x3 x4 v0 v1 v2 v3 v4 : Value} {T : TypeId} (h : w.heap[b]? = some (.cells #[x0, x1, x2, x3, x4] T (0, 0))) :
    (((((w.setCell ⟨b, 0, none⟩ v0).setCell ⟨b, 1, none⟩ v1).setCell ⟨b, 2, none⟩ v2).setCell ⟨b, 3, none⟩ v3).setCell ⟨b, 4, none⟩ v4).heap[b]? = some (.cells #[v0, v1, v2, v3, v4] T (0, 0)) :=
  heap_setCell_row (heap_setCell_row (heap_setCell_row (heap_setCell_row (heap_setCell_row h rfl) rfl) rfl) rfl) rfl
theorem blk5 {w : World} {b : Nat} {v0 v1 v2 v3 v4 : Value} {T : TypeId} (h : w.heap[b]? = some (.cells #[v0, v1, v2, v3, v4] T (0, 0))) :
    w.cell? ⟨b, 0, none⟩ = some v0 ∧ w.cell? ⟨b, 1, none⟩ = some v1 ∧ w.cell? ⟨b, 2, none⟩ = some v2 ∧ w.cell? ⟨b, 3, none⟩ = some v3 ∧ w.cell? ⟨b, 4, none⟩ = some v4 := by
  refine ⟨?_, ?_, ?_, ?_, ?_⟩ <;> (rw [cell_of_row w b _ _ _ (0, 0) h]; rfl)
theorem frz5 {w : World} {b : Nat} {v0 v1 v2 v3 v4 : Value} {T : TypeId} (h : w.heap[b]? = some (.cells #[v0, v1, v2, v3, v4] T (0, 0))) :
    w.frozen? ⟨b, 0, none⟩ = false ∧ w.frozen? ⟨b, 1, none⟩ = false ∧ w.frozen? ⟨b, 2, none⟩ = false ∧ w.frozen? ⟨b, 3, none⟩ = false ∧ w.frozen? ⟨b, 4, none⟩ = false :=
  ⟨frozen_of_row w b 0 _ _ h, frozen_of_row w b 1 _ _ h, frozen_of_row w b 2 _ _ h, frozen_of_row w b 3 _ _ h, frozen_of_row w b 4 _ _ h⟩
set_option maxRecDepth 100000 in
/-- a token and an error come back: the token out of a block -/
theorem results_tok {fn : Func} {t u : Tmp} {tmps : Array Value} {b : Nat} {v0 v1 v2 v3 v4 v5 : Value} {T : TypeId} {W : World} (h : fn.results = #[.cell t 34, .tmp u])
    (h1 : tmps.getD t undef = .pointer (some ⟨b, 0, none⟩)) (h2 : tmps.getD u undef = v5) (h3 : W.heap[b]? = some (.cells #[v0, v1, v2, v3, v4] T (0, 0))) :
    (results fn tmps).run Tryd.prog W = .ok (.tuple #[.agg #[v0, v1, v2, v3, v4], v5]) W := by
  obtain ⟨c0, c1, c2, c3, c4⟩ := blk5 h3
  rw [Array.getD_eq_getD_getElem?] at h1 h2
  simp [results, h, h1, h2, go_sem, c0, c1, c2, c3, c4]

theorem gsetN {a w : World} {g b i : Nat} (h : a.grownBy w (some g)) (hb : a.heap.size ≤ b) (v : Value) : a.grownBy (w.setCell ⟨b, i, none⟩ v) (some g) :=
  ⟨h.os, h.tape, h.output, by simp [World.setCell]; exact h.size, fun k hk hn => (Below.heap_setCell _ _ _ _ (by show k ≠ b; omega)).trans (h.block k hk hn)⟩
theorem gset5 {a w : World} {g b : Nat} {v0 v1 v2 v3 v4 : Value} (h : a.grownBy w (some g)) (hb : a.heap.size ≤ b) :
    a.grownBy (((((w.setCell ⟨b, 0, none⟩ v0).setCell ⟨b, 1, none⟩ v1).setCell ⟨b, 2, none⟩ v2).setCell ⟨b, 3, none⟩ v3).setCell ⟨b, 4, none⟩ v4) (some g) :=
  gsetN (gsetN (gsetN (gsetN (gsetN h hb _) hb _) hb _) hb _) hb _
theorem rset5 {w : World} {g b : Nat} {s : ByteArray} {a l f : Nat} {v0 v1 v2 v3 v4 : Value} (h : Rdr w g s a l f) (hn : g ≠ b) :
    Rdr (((((w.setCell ⟨b, 0, none⟩ v0).setCell ⟨b, 1, none⟩ v1).setCell ⟨b, 2, none⟩ v2).setCell ⟨b, 3, none⟩ v3).setCell ⟨b, 4, none⟩ v4) g s a l f :=
  ((((h.setOther hn).setOther hn).setOther hn).setOther hn).setOther hn
/-- a result and whether it is right -/
def EndO (w w' : World) (g : Nat) (s : ByteArray) (a l f k : Nat) (t : ByteArray) (e : Ending) : Prop :=
  Adv w w' g s a l f ∧ ((e = .returned (.tuple #[tokV k t false 0 0, .int .i64 0]) ∧ (a = s.size ∨ bEnd (cb s a) = true)) ∨ (e = .returned (.tuple #[noTok, .int .i64 62]) ∧ a < s.size ∧ bEnd (cb s a) = false))
set_option maxHeartbeats 1000000 in
set_option maxRecDepth 100000 in
theorem ended_any (g : Nat) (s : ByteArray) (a l f k : Nat) (t : ByteArray) (w : World) (h : Rdr w g s a l f) (hs : s.size ≤ 1048576) (ha : a ≤ s.size) :
    Calls Tryd.prog 59 #[.pointer (some ⟨g, 0, none⟩), .int .i64 (k : Int), .string t] w fun e w' => EndO w w' g s a l f k t e := by
  have HR := Lib.hid h
  have hg := h.lt
  obtain ⟨c0, c1, c2, c3, f0, f1, f2, f3⟩ := h.cells
  have HB := Lib.hid (heap_alloc_new w (Obj.cells #[.int .i64 0, .string ⟨#[]⟩, .bool false, .int .i64 0, .int .i64 0] 34))
  clear h
  go_enter Tryd.func59, Tryd.ntmps59
  by_cases hlt : a < s.size
  · have hbk := cb_at hlt
    have PA : Hid (∀ W, Calls Tryd.prog 65 #[.int .u8 ((cb s a : Nat) : Int)] W fun e w' => e = .returned (.bool (bEnd (cb s a))) ∧ w' = W) := Lib.hid (fun W => (parts_any _ (cb_lt s a) W).mono fun _ _ ⟨x, y⟩ => ⟨x, y.symm⟩)
    rcases Bool.eq_false_or_eq_true (bEnd (cb s a)) with hb | hb
    · have HE := Lib.hid hb
      rw [hb] at PA
      clear hb
      go_wp2
      go_quiet ((go_at_call 65; exact Calls.quiet_of_same (PA.out _)))
      go_wp2
      refine bodyPost_ret (results_tok rfl rfl rfl (heap_set5 (w := World.drewN _ _) HB.out)) rfl ?_
      exact ⟨⟨gset5 (grown_drewN (grown_alloc (grown_refl _ _) _) _) (Nat.le_refl _), rset5 ((HR.out.alloc _).drewN _) (by omega)⟩, .inl ⟨rfl, .inr HE.out⟩⟩
    · have HE := Lib.hid hb
      rw [hb] at PA
      clear hb
      go_wp2
      go_quiet ((go_at_call 65; exact Calls.quiet_of_same (PA.out _)))
      go_wp2
      refine bodyPost_ret (results_tok rfl rfl rfl (heap_set5 (w := World.drewN _ _) HB.out)) rfl ?_
      exact ⟨⟨gset5 (grown_drewN (grown_alloc (grown_refl _ _) _) _) (Nat.le_refl _), rset5 ((HR.out.alloc _).drewN _) (by omega)⟩, .inr ⟨rfl, hlt, HE.out⟩⟩
  · obtain rfl : a = s.size := by omega
    go_wp2
    go_quiet (fail)
    go_wp2
    refine bodyPost_ret (results_tok rfl rfl rfl (heap_set5 (w := World.drewN _ _) HB.out)) rfl ?_
    exact ⟨⟨gset5 (grown_drewN (grown_alloc (grown_refl _ _) _) _) (Nat.le_refl _), rset5 ((HR.out.alloc _).drewN _) (by omega)⟩, .inl ⟨rfl, .inl rfl⟩⟩
end Go.Proofs.YtpkdiciinhjfjaaDoor

/- Tokens in plain mathematics: what stands at a place. -/
namespace Go.Proofs.YtpkdiciinhjfjaaDoor
open Go.RowKit Mth

inductive Res
  | tok (k : Nat) (t : ByteArray) (q : Bool) (n : Nat)
  | err (e : Nat)
/-- where the piece that begins at p ends -/
def endAt (s : ByteArray) (p : Nat) : Nat := if p < s.size then if bEnd (cb s p) then p else endAt s (p + 1) else p
termination_by s.size - p
def allP (s : ByteArray) (P : Nat → Bool) (a b : Nat) : Prop := ∀ i, a ≤ i → i < b → P (cb s i) = true
def isNum (s : ByteArray) (p e : Nat) : Prop := p < e ∧ allP s bDig p e ∧ (cb s p ≠ 48 ∨ e = p + 1)
def isDec (s : ByteArray) (p e : Nat) : Prop := ∃ i, i < e ∧ cb s i = 46 ∧ isNum s p i ∧ allP s bDig (i + 1) e ∧ i + 1 < e
def lower (l : List UInt8) : List UInt8 := l.map Lib.lowerB
def lowB (t : ByteArray) : ByteArray := ⟨(lower t.data.toList).toArray⟩
open Classical in
/-- the token of a piece that has no end of its own -/
noncomputable def bareF (s : ByteArray) (p e : Nat) : Res :=
  if isNum s p e then .tok 3 (s.extract p e) false e else
  if isDec s p e then .tok 4 (s.extract p e) false e else
  if cb s p = 35 ∧ cb s (p + 1) = 120 ∧ p + 2 < e ∧ allP s bHex (p + 2) e then .tok 5 (lowB (s.extract (p + 2) e)) false e else
  if cb s p = 35 ∧ cb s (p + 1) = 98 ∧ p + 2 < e ∧ allP s bBin (p + 2) e then .tok 6 (s.extract (p + 2) e) false e else
  if cb s p = 58 ∧ p + 1 < e ∧ allP s bSimple (p + 1) e then .tok 9 (s.extract (p + 1) e) false e else
  if bDig (cb s p) = false ∧ p < e ∧ allP s bSimple p e then .tok 8 (s.extract p e) false e else .err 62
/-- a text, from behind its first mark on -/
def quF (s : ByteArray) (i : Nat) (t : ByteArray) : Res :=
  if i < s.size then
    if cb s i = 34 then (if i + 1 < s.size ∧ cb s (i + 1) = 34 then quF s (i + 2) (t ++ ⟨#[34]⟩) else .tok 7 t false (i + 1))
    else if bInner (cb s i) then quF s (i + 1) (t ++ s.extract i (i + 1)) else .err 61
  else .err 61
termination_by s.size - i
/-- a symbol with bars -/
def baF (s : ByteArray) (a i : Nat) : Res :=
  if i < s.size then
    if cb s i = 124 then .tok 8 (s.extract a i) true (i + 1)
    else if bInner (cb s i) = true ∧ cb s i ≠ 92 then baF s a (i + 1) else .err 61
  else .err 61
termination_by s.size - i
/-- the token at a place where no blank and no comment stands -/
noncomputable def oneF (s : ByteArray) (p : Nat) : Res :=
  if cb s p = 40 then .tok 1 ⟨#[40]⟩ false (p + 1) else
  if cb s p = 41 then .tok 2 ⟨#[41]⟩ false (p + 1) else
  if cb s p = 34 then quF s (p + 1) ⟨#[]⟩ else
  if cb s p = 124 then baF s (p + 1) (p + 1) else
  if cb s p ≠ 35 ∧ cb s p ≠ 58 ∧ bSimple (cb s p) = false then .err 60 else
  bareF s p (endAt s p)

theorem endAt_of {s : ByteArray} : ∀ (k : Nat) {p q : Nat}, q - p ≤ k → p ≤ q → q ≤ s.size → (∀ i, p ≤ i → i < q → bEnd (cb s i) = false) → (q = s.size ∨ bEnd (cb s q) = true) → endAt s p = q
  | 0, p, q, hk, h1, h2, _, h4 => by
    obtain rfl : p = q := by omega
    rw [endAt]
    rcases h4 with h | h
    · rw [if_neg (by omega)]
    · by_cases hp : p < s.size
      · rw [if_pos hp, if_pos h]
      · rw [if_neg hp]
  | k + 1, p, q, hk, h1, h2, h3, h4 => by
    by_cases e : p = q
    · exact endAt_of 0 (by omega) h1 h2 h3 h4
    · rw [endAt, if_pos (by omega), if_neg (by rw [h3 p (Nat.le_refl _) (by omega)]; simp)]
      exact endAt_of k (by omega) (by omega) h2 (fun i i1 i2 => h3 i (by omega) i2) h4
theorem endAt_spec {s : ByteArray} : ∀ (k : Nat) {p : Nat}, s.size - p ≤ k → p ≤ s.size → p ≤ endAt s p ∧ endAt s p ≤ s.size ∧ (∀ i, p ≤ i → i < endAt s p → bEnd (cb s i) = false) ∧ (endAt s p = s.size ∨ bEnd (cb s (endAt s p)) = true)
  | 0, p, hk, hp => by
    obtain rfl : p = s.size := by omega
    have e : endAt s s.size = s.size := by rw [endAt, if_neg (by omega)]
    rw [e]; exact ⟨by omega, by omega, fun i _ _ => by omega, .inl rfl⟩
  | k + 1, p, hk, hp => by
    by_cases h1 : p < s.size
    · by_cases h2 : bEnd (cb s p) = true
      · have e : endAt s p = p := by rw [endAt, if_pos h1, if_pos h2]
        rw [e]; exact ⟨by omega, by omega, fun i _ _ => by omega, .inr h2⟩
      · have e : endAt s p = endAt s (p + 1) := by rw [endAt, if_pos h1, if_neg h2]
        have ih := endAt_spec (s := s) k (p := p + 1) (by omega) (by omega)
        rw [e]
        refine ⟨by omega, ih.2.1, fun i i1 i2 => ?_, ih.2.2.2⟩
        by_cases e : i = p
        · subst e; simpa using h2
        · exact ih.2.2.1 i (by omega) i2
    · exact endAt_spec 0 (by omega) hp
/-- a place that is no end lies ahead of the end -/
theorem endAt_lt {s : ByteArray} {p q : Nat} (hp : p ≤ q) (hq : q < s.size) (h : ∀ i, p ≤ i → i ≤ q → bEnd (cb s i) = false) : q < endAt s p := by
  have hs := endAt_spec (s := s) s.size (p := p) (by omega) (by omega)
  rcases Nat.lt_or_ge q (endAt s p) with h1 | h1
  · exact h1
  · exfalso
    rcases hs.2.2.2 with h2 | h2
    · omega
    · rw [h _ hs.1 h1] at h2; cases h2
theorem dig_no_end {c : Nat} (h : bDig c = true) : bEnd c = false := by rw [← Bool.not_eq_true, bEnd_iff]; rw [bDig_iff] at h; omega
theorem hex_no_end {c : Nat} (h : bHex c = true) : bEnd c = false := by rw [← Bool.not_eq_true, bEnd_iff]; rw [bHex_iff] at h; omega
theorem bin_no_end {c : Nat} (h : bBin c = true) : bEnd c = false := by rw [← Bool.not_eq_true, bEnd_iff]; rw [bBin_iff] at h; omega
theorem dig_simple {c : Nat} (h : bDig c = true) : bSimple c = true := by rw [bSimple_iff]; rw [bDig_iff] at h; exact .inr (.inr (.inl h))
theorem end_of_run {s : ByteArray} {p q : Nat} (hpq : p ≤ q) (hq : q ≤ s.size) (h : ∀ i, p ≤ i → i < q → bEnd (cb s i) = false) (he : q = s.size ∨ bEnd (cb s q) = true) : endAt s p = q := endAt_of (q - p) (Nat.le_refl _) hpq hq h he
theorem allP_app {s : ByteArray} {P : Nat → Bool} {a b c : Nat} (h : allP s P a b) (k : allP s P b c) : allP s P a c := fun i i1 i2 => by
  rcases Nat.lt_or_ge i b with h1 | h1
  · exact h i i1 h1
  · exact k i h1 i2

theorem one_dig {s : ByteArray} {p : Nat} (h : bDig (cb s p) = true) : oneF s p = bareF s p (endAt s p) := by
  have hd := bDig_iff.1 h
  have hs := dig_simple h
  unfold oneF
  rw [if_neg (by omega), if_neg (by omega), if_neg (by omega), if_neg (by omega), if_neg (by rw [hs]; simp)]
theorem bare_dig_err {s : ByteArray} {p e : Nat} (hd : bDig (cb s p) = true) (h1 : ¬ isNum s p e) (h2 : ¬ isDec s p e) : bareF s p e = .err 62 := by
  have hd' := bDig_iff.1 hd
  unfold bareF
  rw [if_neg h1, if_neg h2, if_neg (by omega), if_neg (by omega), if_neg (by omega), if_neg (by rw [hd]; simp)]
theorem num_tok {s : ByteArray} {p q : Nat} (h : isNum s p q) (hq : q ≤ s.size) (he : q = s.size ∨ bEnd (cb s q) = true) : oneF s p = .tok 3 (s.extract p q) false q := by
  have hd := h.2.1 p (Nat.le_refl _) h.1
  have e : endAt s p = q := end_of_run (Nat.le_of_lt h.1) hq (fun i i1 i2 => dig_no_end (h.2.1 i i1 i2)) he
  rw [one_dig hd, e]
  unfold bareF
  rw [if_pos h]
theorem not_num_dot {s : ByteArray} {p q e : Nat} (hpq : p ≤ q) (hqe : q < e) (h : bDig (cb s q) = false) : ¬ isNum s p e := fun hn => by
  have := hn.2.1 q hpq hqe; rw [h] at this; cases this
theorem dot_nd {c : Nat} (h : c = 46) : bDig c = false ∧ bEnd c = false := by subst h; exact ⟨rfl, rfl⟩
theorem dec_tok {s : ByteArray} {p q1 q2 : Nat} (h : isNum s p q1) (hd : cb s q1 = 46) (h2 : allP s bDig (q1 + 1) q2) (hlt : q1 + 1 < q2) (hq : q2 ≤ s.size) (he : q2 = s.size ∨ bEnd (cb s q2) = true) : oneF s p = .tok 4 (s.extract p q2) false q2 := by
  have hdp := h.2.1 p (Nat.le_refl _) h.1
  have hp1 := h.1
  have e : endAt s p = q2 := end_of_run (by omega) hq (fun i i1 i2 => by
    rcases (show i < q1 ∨ i = q1 ∨ q1 + 1 ≤ i by omega) with h9 | h9 | h9
    · exact dig_no_end (h.2.1 i i1 h9)
    · subst h9; exact (dot_nd hd).2
    · exact dig_no_end (h2 i h9 i2)) he
  rw [one_dig hdp, e]
  unfold bareF
  rw [if_neg (not_num_dot (Nat.le_of_lt h.1) (by omega) (dot_nd hd).1), if_pos ⟨q1, by omega, hd, h, h2, hlt⟩]
/-- behind a numeral something else than it may -/
theorem num_err {s : ByteArray} {p q : Nat} (h : isNum s p q) (hq : q < s.size) (he : bEnd (cb s q) = false) (hd : cb s q ≠ 46) (hx : (cb s p = 48 ∧ q = p + 1) ∨ (cb s p ≠ 48 ∧ bDig (cb s q) = false)) : oneF s p = .err 62 := by
  have hdp := h.2.1 p (Nat.le_refl _) h.1
  have hp1 := h.1
  have hlt : q < endAt s p := endAt_lt (by omega) hq (fun i i1 i2 => by
    by_cases e : i = q
    · subst e; exact he
    · exact dig_no_end (h.2.1 i i1 (by omega)))
  rw [one_dig hdp]
  have key : ∀ e, q < e → ¬ isNum s p e := fun e h1 hn => by
    rcases hx with ⟨h2, h3⟩ | ⟨h2, h3⟩
    · rcases hn.2.2 with h4 | h4
      · exact h4 h2
      · omega
    · exact not_num_dot (Nat.le_of_lt hp1) h1 h3 hn
  refine bare_dig_err hdp (key _ hlt) ?_
  rintro ⟨i, i1, i2, i3, _⟩
  rcases (show i < q ∨ i = q ∨ q < i by omega) with h9 | h9 | h9
  · have := h.2.1 i (Nat.le_of_lt i3.1) h9; rw [i2] at this; cases this
  · subst h9; exact hd i2
  · exact key i h9 i3
theorem dec_err {s : ByteArray} {p q1 q2 : Nat} (h : isNum s p q1) (hd : cb s q1 = 46) (hq1 : q1 < s.size) (h2 : allP s bDig (q1 + 1) q2) (hq : q1 + 1 ≤ q2) (hx : (q1 + 1 = q2 ∧ (q2 = s.size ∨ bDig (cb s q2) = false)) ∨ (q2 < s.size ∧ bDig (cb s q2) = false ∧ bEnd (cb s q2) = false)) : oneF s p = .err 62 := by
  have hdp := h.2.1 p (Nat.le_refl _) h.1
  have hp1 := h.1
  have hne : ∀ i, p ≤ i → i < q2 → bEnd (cb s i) = false := fun i i1 i2 => by
    rcases (show i < q1 ∨ i = q1 ∨ q1 + 1 ≤ i by omega) with h9 | h9 | h9
    · exact dig_no_end (h.2.1 i i1 h9)
    · subst h9; exact (dot_nd hd).2
    · exact dig_no_end (h2 i h9 i2)
  have hlt : q1 < endAt s p := endAt_lt (by omega) hq1 (fun i i1 i2 => hne i i1 (by omega))
  rw [one_dig hdp]
  refine bare_dig_err hdp (not_num_dot (Nat.le_of_lt hp1) hlt (dot_nd hd).1) ?_
  rintro ⟨i, i1, i2, i3, i4, i5⟩
  rcases (show i < q1 ∨ i = q1 ∨ q1 < i by omega) with h9 | h9 | h9
  · have := h.2.1 i (Nat.le_of_lt i3.1) h9; rw [i2] at this; cases this
  · subst h9
    rcases hx with ⟨h3, h4⟩ | ⟨h3, h4, h6⟩
    · rcases h4 with h4 | h4
      · have := (endAt_spec (s := s) s.size (p := p) (by omega) (by omega)).2.1; omega
      · have := i4 q2 (by omega) (by omega); rw [h4] at this; cases this
    · have hl2 : q2 < endAt s p := endAt_lt (by omega) h3 (fun i i1 i2 => by
        by_cases e : i = q2
        · subst e; exact h6
        · exact hne i i1 (by omega))
      have := i4 q2 (by omega) hl2; rw [h4] at this; cases this
  · exact not_num_dot (Nat.le_of_lt hp1) h9 (dot_nd hd).1 i3
/-- a piece that begins with no digit is no number -/
theorem no_num {s : ByteArray} {p e : Nat} (h : bDig (cb s p) = false) : ¬ isNum s p e ∧ ¬ isDec s p e := by
  have key : ∀ e, ¬ isNum s p e := fun e hn => by have := hn.2.1 p (Nat.le_refl _) hn.1; rw [h] at this; cases this
  exact ⟨key e, fun ⟨i, _, _, i3, _⟩ => key i i3⟩
theorem one_hash {s : ByteArray} {p : Nat} (h : cb s p = 35) : oneF s p = bareF s p (endAt s p) := by
  unfold oneF
  rw [if_neg (by omega), if_neg (by omega), if_neg (by omega), if_neg (by omega), if_neg (by omega)]
theorem bare_hash {s : ByteArray} {p e : Nat} (h : cb s p = 35) (h1 : ¬ (cb s (p + 1) = 120 ∧ p + 2 < e ∧ allP s bHex (p + 2) e)) (h2 : ¬ (cb s (p + 1) = 98 ∧ p + 2 < e ∧ allP s bBin (p + 2) e)) : bareF s p e = .err 62 := by
  have hn := no_num (s := s) (p := p) (e := e) (by rw [h]; rfl)
  unfold bareF
  rw [if_neg hn.1, if_neg hn.2, if_neg (fun x => h1 x.2), if_neg (fun x => h2 x.2), if_neg (by omega), if_neg ?_]
  rintro ⟨_, x2, x3⟩
  have := x3 p (Nat.le_refl _) x2; rw [h] at this; cases this
theorem hex_tok {s : ByteArray} {p q : Nat} (h : cb s p = 35) (h1 : cb s (p + 1) = 120) (h2 : allP s bHex (p + 2) q) (hlt : p + 2 < q) (hq : q ≤ s.size) (he : q = s.size ∨ bEnd (cb s q) = true) : oneF s p = .tok 5 (lowB (s.extract (p + 2) q)) false q := by
  have e : endAt s p = q := end_of_run (by omega) hq (fun i i1 i2 => by
    rcases (show i = p ∨ i = p + 1 ∨ p + 2 ≤ i by omega) with h9 | h9 | h9
    · subst h9; rw [h]; rfl
    · subst h9; rw [h1]; rfl
    · exact hex_no_end (h2 i h9 i2)) he
  have hn := no_num (s := s) (p := p) (e := q) (by rw [h]; rfl)
  rw [one_hash h, e]
  unfold bareF
  rw [if_neg hn.1, if_neg hn.2, if_pos ⟨h, h1, hlt, h2⟩]
theorem bin_tok {s : ByteArray} {p q : Nat} (h : cb s p = 35) (h1 : cb s (p + 1) = 98) (h2 : allP s bBin (p + 2) q) (hlt : p + 2 < q) (hq : q ≤ s.size) (he : q = s.size ∨ bEnd (cb s q) = true) : oneF s p = .tok 6 (s.extract (p + 2) q) false q := by
  have e : endAt s p = q := end_of_run (by omega) hq (fun i i1 i2 => by
    rcases (show i = p ∨ i = p + 1 ∨ p + 2 ≤ i by omega) with h9 | h9 | h9
    · subst h9; rw [h]; rfl
    · subst h9; rw [h1]; rfl
    · exact bin_no_end (h2 i h9 i2)) he
  have hn := no_num (s := s) (p := p) (e := q) (by rw [h]; rfl)
  rw [one_hash h, e]
  unfold bareF
  rw [if_neg hn.1, if_neg hn.2, if_neg (by omega), if_pos ⟨h, h1, hlt, h2⟩]
theorem hex_err {s : ByteArray} {p q : Nat} (h : cb s p = 35) (h1 : cb s (p + 1) = 120) (hp : p + 1 < s.size) (h2 : allP s bHex (p + 2) q) (hq : p + 2 ≤ q)
    (hx : (q = p + 2 ∧ (q = s.size ∨ bHex (cb s q) = false)) ∨ (q < s.size ∧ bHex (cb s q) = false ∧ bEnd (cb s q) = false)) : oneF s p = .err 62 := by
  rw [one_hash h]
  refine bare_hash h ?_ (by omega)
  rintro ⟨_, x2, x3⟩
  have hs := (endAt_spec (s := s) s.size (p := p) (by omega) (by omega)).2.1
  rcases hx with ⟨h3, h4⟩ | ⟨h3, h4, h6⟩
  · rcases h4 with h4 | h4
    · omega
    · have := x3 q (by omega) (by omega); rw [h4] at this; cases this
  · have hl2 : q < endAt s p := endAt_lt (by omega) h3 (fun i i1 i2 => by
      rcases (show i = p ∨ i = p + 1 ∨ (p + 2 ≤ i ∧ i < q) ∨ i = q by omega) with h9 | h9 | h9 | h9
      · subst h9; rw [h]; rfl
      · subst h9; rw [h1]; rfl
      · exact hex_no_end (h2 i h9.1 h9.2)
      · subst h9; exact h6)
    have := x3 q (by omega) hl2; rw [h4] at this; cases this
theorem bin_err {s : ByteArray} {p q : Nat} (h : cb s p = 35) (h1 : cb s (p + 1) = 98) (hp : p + 1 < s.size) (h2 : allP s bBin (p + 2) q) (hq : p + 2 ≤ q)
    (hx : (q = p + 2 ∧ (q = s.size ∨ bBin (cb s q) = false)) ∨ (q < s.size ∧ bBin (cb s q) = false ∧ bEnd (cb s q) = false)) : oneF s p = .err 62 := by
  rw [one_hash h]
  refine bare_hash h (by omega) ?_
  rintro ⟨_, x2, x3⟩
  have hs := (endAt_spec (s := s) s.size (p := p) (by omega) (by omega)).2.1
  rcases hx with ⟨h3, h4⟩ | ⟨h3, h4, h6⟩
  · rcases h4 with h4 | h4
    · omega
    · have := x3 q (by omega) (by omega); rw [h4] at this; cases this
  · have hl2 : q < endAt s p := endAt_lt (by omega) h3 (fun i i1 i2 => by
      rcases (show i = p ∨ i = p + 1 ∨ (p + 2 ≤ i ∧ i < q) ∨ i = q by omega) with h9 | h9 | h9 | h9
      · subst h9; rw [h]; rfl
      · subst h9; rw [h1]; rfl
      · exact bin_no_end (h2 i h9.1 h9.2)
      · subst h9; exact h6)
    have := x3 q (by omega) hl2; rw [h4] at this; cases this
theorem hash_err {s : ByteArray} {p : Nat} (h : cb s p = 35) (h1 : p + 1 = s.size ∨ (cb s (p + 1) ≠ 120 ∧ cb s (p + 1) ≠ 98)) (hp : p < s.size) : oneF s p = .err 62 := by
  rw [one_hash h]
  have hs := (endAt_spec (s := s) s.size (p := p) (by omega) (by omega)).2.1
  rcases h1 with h1 | ⟨h1, h2⟩
  · exact bare_hash h (fun x => by omega) (fun x => by omega)
  · exact bare_hash h (fun x => h1 x.1) (fun x => h2 x.1)
theorem one_colon {s : ByteArray} {p : Nat} (h : cb s p = 58) : oneF s p = bareF s p (endAt s p) := by
  unfold oneF
  rw [if_neg (by omega), if_neg (by omega), if_neg (by omega), if_neg (by omega), if_neg (by omega)]
theorem key_tok {s : ByteArray} {p q : Nat} (h : cb s p = 58) (h2 : allP s bSimple (p + 1) q) (hlt : p + 1 < q) (hq : q ≤ s.size) (he : q = s.size ∨ bEnd (cb s q) = true) : oneF s p = .tok 9 (s.extract (p + 1) q) false q := by
  have e : endAt s p = q := end_of_run (by omega) hq (fun i i1 i2 => by
    rcases (show i = p ∨ p + 1 ≤ i by omega) with h9 | h9
    · subst h9; rw [h]; rfl
    · exact simple_not_end (h2 i h9 i2)) he
  have hn := no_num (s := s) (p := p) (e := q) (by rw [h]; rfl)
  rw [one_colon h, e]
  unfold bareF
  rw [if_neg hn.1, if_neg hn.2, if_neg (by omega), if_neg (by omega), if_pos ⟨h, hlt, h2⟩]
theorem key_err {s : ByteArray} {p q : Nat} (h : cb s p = 58) (hp : p < s.size) (h2 : allP s bSimple (p + 1) q) (hq : p + 1 ≤ q)
    (hx : (q = p + 1 ∧ (q = s.size ∨ bSimple (cb s q) = false)) ∨ (q < s.size ∧ bSimple (cb s q) = false ∧ bEnd (cb s q) = false)) : oneF s p = .err 62 := by
  have hn := no_num (s := s) (p := p) (e := endAt s p) (by rw [h]; rfl)
  rw [one_colon h]
  have hs := (endAt_spec (s := s) s.size (p := p) (by omega) (by omega)).2.1
  unfold bareF
  rw [if_neg hn.1, if_neg hn.2, if_neg (by omega), if_neg (by omega), if_neg ?_, if_neg ?_]
  · rintro ⟨_, x2, x3⟩
    have := x3 p (Nat.le_refl _) x2; rw [h] at this; cases this
  · rintro ⟨_, x2, x3⟩
    rcases hx with ⟨h3, h4⟩ | ⟨h3, h4, h6⟩
    · rcases h4 with h4 | h4
      · omega
      · have := x3 q (by omega) (by omega); rw [h4] at this; cases this
    · have hl2 : q < endAt s p := endAt_lt (by omega) h3 (fun i i1 i2 => by
        rcases (show i = p ∨ (p + 1 ≤ i ∧ i < q) ∨ i = q by omega) with h9 | h9 | h9
        · subst h9; rw [h]; rfl
        · exact simple_not_end (h2 i h9.1 h9.2)
        · subst h9; exact h6)
      have := x3 q (by omega) hl2; rw [h4] at this; cases this
theorem simple_facts {c : Nat} (h : bSimple c = true) : c ≠ 40 ∧ c ≠ 41 ∧ c ≠ 34 ∧ c ≠ 124 ∧ c ≠ 35 ∧ c ≠ 58 := by
  rw [bSimple_iff, bMore_or] at h; omega
theorem one_word {s : ByteArray} {p : Nat} (h : bSimple (cb s p) = true) : oneF s p = bareF s p (endAt s p) := by
  obtain ⟨h1, h2, h3, h4, _, _⟩ := simple_facts h
  unfold oneF
  rw [if_neg h1, if_neg h2, if_neg h3, if_neg h4, if_neg (by rw [h]; simp)]
theorem word_tok {s : ByteArray} {p q : Nat} (hd : bDig (cb s p) = false) (h2 : allP s bSimple p q) (hlt : p < q) (hq : q ≤ s.size) (he : q = s.size ∨ bEnd (cb s q) = true) : oneF s p = .tok 8 (s.extract p q) false q := by
  have h := h2 p (Nat.le_refl _) hlt
  have hf := simple_facts h
  have e : endAt s p = q := end_of_run (by omega) hq (fun i i1 i2 => simple_not_end (h2 i i1 i2)) he
  have hn := no_num (s := s) (p := p) (e := q) hd
  rw [one_word h, e]
  unfold bareF
  rw [if_neg hn.1, if_neg hn.2, if_neg (by omega), if_neg (by omega), if_neg (by omega), if_pos ⟨hd, hlt, h2⟩]
theorem word_err {s : ByteArray} {p q : Nat} (hd : bDig (cb s p) = false) (h2 : allP s bSimple p q) (hlt : p < q) (h3 : q < s.size) (h4 : bSimple (cb s q) = false) (h6 : bEnd (cb s q) = false) : oneF s p = .err 62 := by
  have h := h2 p (Nat.le_refl _) hlt
  have hf := simple_facts h
  have hn := no_num (s := s) (p := p) (e := endAt s p) hd
  have hl2 : q < endAt s p := endAt_lt (by omega) h3 (fun i i1 i2 => by
    rcases (show i < q ∨ i = q by omega) with h9 | h9
    · exact simple_not_end (h2 i i1 h9)
    · subst h9; exact h6)
  rw [one_word h]
  unfold bareF
  rw [if_neg hn.1, if_neg hn.2, if_neg (by omega), if_neg (by omega), if_neg (by omega), if_neg ?_]
  rintro ⟨_, _, x3⟩
  have := x3 q (by omega) hl2; rw [h4] at this; cases this
end Go.Proofs.YtpkdiciinhjfjaaDoor

/- lexis: what a whole text is, in plain mathematics: blanks and comments gone past, tokens one behind the other. -/
namespace Go.Proofs.YtpkdiciinhjfjaaDoor
open Go.RowKit Mth

/-- where a comment ends -/
def cmtF (s : ByteArray) (p : Nat) : Nat := if p < s.size then if cb s p = 10 then p else cmtF s (p + 1) else p
termination_by s.size - p
theorem cmt_ge {s : ByteArray} : ∀ (k : Nat) {p : Nat}, s.size - p ≤ k → p ≤ cmtF s p
  | 0, p, h => by rw [cmtF, if_neg (by omega)]; exact Nat.le_refl _
  | k + 1, p, h => by
    rw [cmtF]
    split
    · split
      · exact Nat.le_refl _
      · have := cmt_ge (s := s) k (p := p + 1) (by omega); omega
    · exact Nat.le_refl _
/-- where the next token begins -/
def skipF (s : ByteArray) (p : Nat) : Nat :=
  if p < s.size then if bBlank (cb s p) then skipF s (p + 1) else if cb s p = 59 then skipF s (cmtF s (p + 1)) else p else p
termination_by s.size - p
decreasing_by
  · omega
  · have := cmt_ge (s := s) s.size (p := p + 1) (by omega); omega
theorem skip_blank {s : ByteArray} {p : Nat} (h : p < s.size) (hb : bBlank (cb s p) = true) : skipF s p = skipF s (p + 1) := by rw [skipF, if_pos h, if_pos hb]
theorem skip_cmt {s : ByteArray} {p : Nat} (h : p < s.size) (hb : cb s p = 59) : skipF s p = skipF s (cmtF s (p + 1)) := by
  rw [skipF, if_pos h, if_neg (by rw [hb]; decide), if_pos hb]
theorem skip_here {s : ByteArray} {p : Nat} (hb : bBlank (cb s p) = false) (hc : cb s p ≠ 59) : skipF s p = p := by
  rw [skipF]; split
  · simp [hb]
  · rfl
theorem skip_end {s : ByteArray} {p : Nat} (h : s.size ≤ p) : skipF s p = p := by rw [skipF, if_neg (by omega)]
theorem cmt_of {s : ByteArray} : ∀ (k : Nat) {p q : Nat}, q - p ≤ k → p ≤ q → q ≤ s.size → (∀ i, p ≤ i → i < q → cb s i ≠ 10) → (q = s.size ∨ cb s q = 10) → cmtF s p = q
  | 0, p, q, h, h1, h2, h3, h4 => by
    obtain rfl : p = q := by omega
    rw [cmtF]
    split
    · rw [if_pos (h4.resolve_left (by omega))]
    · rfl
  | k + 1, p, q, h, h1, h2, h3, h4 => by
    by_cases e : p = q
    · exact cmt_of 0 (by omega) h1 h2 h3 h4
    · rw [cmtF, if_pos (by omega), if_neg (h3 p (Nat.le_refl _) (by omega))]
      exact cmt_of k (by omega) (by omega) h2 (fun i i1 i2 => h3 i (by omega) i2) h4
theorem skip_ge {s : ByteArray} : ∀ (k : Nat) {p : Nat}, s.size - p ≤ k → p ≤ skipF s p
  | 0, p, h => by rw [skip_end (by omega)]; exact Nat.le_refl _
  | k + 1, p, h => by
    rw [skipF]
    split
    · split
      · have := skip_ge (s := s) k (p := p + 1) (by omega); omega
      · split
        · have h1 := cmt_ge (s := s) s.size (p := p + 1) (by omega)
          have := skip_ge (s := s) k (p := cmtF s (p + 1)) (by omega); omega
        · exact Nat.le_refl _
    · exact Nat.le_refl _

/-- a token: of any kind, at any place -/
structure Tk where
  k : Int
  t : ByteArray
  q : Bool
  l : Int
  c : Int
inductive SR
  | ok (l : List Tk)
  | bad (e x y : Nat)
def SR.pre (L : List Tk) : SR → SR
  | .ok l => .ok (L ++ l)
  | .bad e x y => .bad e x y
theorem SR.pre_nil (r : SR) : r.pre [] = r := by cases r <;> rfl
theorem SR.pre_pre (L M : List Tk) (r : SR) : (r.pre M).pre L = r.pre (L ++ M) := by cases r <;> simp [SR.pre]
/-- line and column of a place -/
def colAt (s : ByteArray) (p : Nat) : Nat := p - fsAt s p + 1
/-- the tokens of a text from a place on -/
noncomputable def scanF (s : ByteArray) (p : Nat) : SR :=
  if skipF s p < s.size then
    match oneF s (skipF s p) with
    | .tok k t q n => if skipF s p < n then (scanF s n).pre [⟨k, t, q, lnAt s (skipF s p), colAt s (skipF s p)⟩] else .bad 0 0 0
    | .err e => .bad e (lnAt s (skipF s p)) (colAt s (skipF s p))
  else .ok []
termination_by s.size - p
decreasing_by
  have := skip_ge (s := s) s.size (p := p) (by omega); omega
theorem scan_end {s : ByteArray} {p : Nat} (h : s.size ≤ skipF s p) : scanF s p = .ok [] := by rw [scanF, if_neg (by omega)]
theorem scan_tok {s : ByteArray} {p k n : Nat} {t : ByteArray} {q : Bool} (h : skipF s p < s.size) (ho : oneF s (skipF s p) = .tok k t q n) (hn : skipF s p < n) :
    scanF s p = (scanF s n).pre [⟨k, t, q, lnAt s (skipF s p), colAt s (skipF s p)⟩] := by rw [scanF, if_pos h, ho]; simp only []; rw [if_pos hn]
theorem scan_err {s : ByteArray} {p e : Nat} (h : skipF s p < s.size) (ho : oneF s (skipF s p) = .err e) : scanF s p = .bad e (lnAt s (skipF s p)) (colAt s (skipF s p)) := by rw [scanF, if_pos h, ho]
/-- the tokens of a text, where it is not too long -/
noncomputable def scanS (s : ByteArray) : SR := if s.size ≤ 1048576 then scanF s 0 else .bad 2 0 0
end Go.Proofs.YtpkdiciinhjfjaaDoor

/- lexis: a token hangs on its own bytes and what may stand behind it. -/
namespace Go.Proofs.YtpkdiciinhjfjaaDoor
open Go.RowKit Mth

inductive Shape (s : ByteArray) (p : Nat) : Nat → ByteArray → Bool → Nat → Prop
  | opn : cb s p = 40 → Shape s p 1 ⟨#[40]⟩ false (p + 1)
  | cls : cb s p = 41 → Shape s p 2 ⟨#[41]⟩ false (p + 1)
  | num (q : Nat) : isNum s p q → q ≤ s.size → (q = s.size ∨ bEnd (cb s q) = true) → Shape s p 3 (s.extract p q) false q
  | dec (i q : Nat) : isNum s p i → cb s i = 46 → allP s bDig (i + 1) q → i + 1 < q → q ≤ s.size → (q = s.size ∨ bEnd (cb s q) = true) → Shape s p 4 (s.extract p q) false q
  | hex (q : Nat) : cb s p = 35 → cb s (p + 1) = 120 → allP s bHex (p + 2) q → p + 2 < q → q ≤ s.size → (q = s.size ∨ bEnd (cb s q) = true) → Shape s p 5 (lowB (s.extract (p + 2) q)) false q
  | bin (q : Nat) : cb s p = 35 → cb s (p + 1) = 98 → allP s bBin (p + 2) q → p + 2 < q → q ≤ s.size → (q = s.size ∨ bEnd (cb s q) = true) → Shape s p 6 (s.extract (p + 2) q) false q
  | str (t : ByteArray) (n : Nat) : cb s p = 34 → quF s (p + 1) ⟨#[]⟩ = .tok 7 t false n → Shape s p 7 t false n
  | bar (t : ByteArray) (n : Nat) : cb s p = 124 → baF s (p + 1) (p + 1) = .tok 8 t true n → Shape s p 8 t true n
  | key (q : Nat) : cb s p = 58 → allP s bSimple (p + 1) q → p + 1 < q → q ≤ s.size → (q = s.size ∨ bEnd (cb s q) = true) → Shape s p 9 (s.extract (p + 1) q) false q
  | wrd (q : Nat) : bDig (cb s p) = false → allP s bSimple p q → p < q → q ≤ s.size → (q = s.size ∨ bEnd (cb s q) = true) → Shape s p 8 (s.extract p q) false q
theorem qu_kind {s : ByteArray} : ∀ (m : Nat) {i : Nat} {t0 : ByteArray}, s.size - i ≤ m → (∃ t n, quF s i t0 = .tok 7 t false n ∧ i < n ∧ n ≤ s.size) ∨ quF s i t0 = .err 61
  | 0, i, t0, h => .inr (by rw [quF, if_neg (by omega)])
  | m + 1, i, t0, h => by
    rw [quF]
    split
    · split
      · split
        · rcases qu_kind (s := s) m (i := i + 2) (t0 := t0 ++ ⟨#[34]⟩) (by omega) with ⟨t, n, h1, h2, h3⟩ | h1
          · exact .inl ⟨t, n, h1, by omega, h3⟩
          · exact .inr h1
        · exact .inl ⟨t0, i + 1, rfl, by omega, by omega⟩
      · split
        · rcases qu_kind (s := s) m (i := i + 1) (t0 := t0 ++ s.extract i (i + 1)) (by omega) with ⟨t, n, h1, h2, h3⟩ | h1
          · exact .inl ⟨t, n, h1, by omega, h3⟩
          · exact .inr h1
        · exact .inr rfl
    · exact .inr rfl
theorem ba_kind {s : ByteArray} {a : Nat} : ∀ (m : Nat) {i : Nat}, s.size - i ≤ m → (∃ n, baF s a i = .tok 8 (s.extract a n) true (n + 1) ∧ i ≤ n ∧ n < s.size ∧ cb s n = 124 ∧ ∀ j, i ≤ j → j < n → bInner (cb s j) = true ∧ cb s j ≠ 92 ∧ cb s j ≠ 124) ∨ baF s a i = .err 61
  | 0, i, h => .inr (by rw [baF, if_neg (by omega)])
  | m + 1, i, h => by
    rw [baF]
    split
    · rename_i hlt
      split
      · rename_i hc
        exact .inl ⟨i, rfl, Nat.le_refl _, hlt, hc, fun j j1 j2 => by omega⟩
      · rename_i hc
        split
        · rename_i hi
          rcases ba_kind (s := s) (a := a) m (i := i + 1) (by omega) with ⟨n, h1, h2, h3, h4, h5⟩ | h1
          · refine .inl ⟨n, h1, by omega, h3, h4, fun j j1 j2 => ?_⟩
            by_cases e : j = i
            · subst e; exact ⟨hi.1, hi.2, hc⟩
            · exact h5 j (by omega) j2
          · exact .inr h1
        · exact .inr rfl
    · exact .inr rfl
theorem shape_of {s : ByteArray} {p k n : Nat} {t : ByteArray} {q : Bool} (hp : p < s.size) (h : oneF s p = .tok k t q n) : Shape s p k t q n := by
  obtain ⟨e1, e2, e3, e4⟩ := endAt_spec (s := s) s.size (p := p) (by omega) (by omega)
  unfold oneF at h
  split at h
  · injection h with h1 h2 h3 h4; subst h1 h2 h3 h4; exact .opn ‹_›
  split at h
  · injection h with h1 h2 h3 h4; subst h1 h2 h3 h4; exact .cls ‹_›
  split at h
  · rcases qu_kind (s := s) s.size (i := p + 1) (t0 := ⟨#[]⟩) (by omega) with ⟨t', n', h1, _⟩ | h1
    · rw [h1] at h; injection h with a1 a2 a3 a4; subst a1 a2 a3 a4; exact .str _ _ ‹_› h1
    · rw [h1] at h; cases h
  split at h
  · rcases ba_kind (s := s) (a := p + 1) s.size (i := p + 1) (by omega) with ⟨n', h1, _⟩ | h1
    · rw [h1] at h; injection h with a1 a2 a3 a4; subst a1 a2 a3 a4; exact .bar _ _ ‹_› h1
    · rw [h1] at h; cases h
  split at h
  · cases h
  unfold bareF at h
  split at h
  · injection h with h1 h2 h3 h4; subst h1 h2 h3 h4; exact .num _ ‹_› e2 e4
  split at h
  · injection h with h1 h2 h3 h4; subst h1 h2 h3 h4
    have hd : isDec s p (endAt s p) := ‹_›
    obtain ⟨i, i1, i2, i3, i4, i5⟩ := hd
    exact .dec i _ i3 i2 i4 i5 e2 e4
  split at h
  · injection h with h1 h2 h3 h4; subst h1 h2 h3 h4
    have hd : cb s p = 35 ∧ cb s (p + 1) = 120 ∧ p + 2 < endAt s p ∧ allP s bHex (p + 2) (endAt s p) := ‹_›
    exact .hex _ hd.1 hd.2.1 hd.2.2.2 hd.2.2.1 e2 e4
  split at h
  · injection h with h1 h2 h3 h4; subst h1 h2 h3 h4
    have hd : cb s p = 35 ∧ cb s (p + 1) = 98 ∧ p + 2 < endAt s p ∧ allP s bBin (p + 2) (endAt s p) := ‹_›
    exact .bin _ hd.1 hd.2.1 hd.2.2.2 hd.2.2.1 e2 e4
  split at h
  · injection h with h1 h2 h3 h4; subst h1 h2 h3 h4
    have hd : cb s p = 58 ∧ p + 1 < endAt s p ∧ allP s bSimple (p + 1) (endAt s p) := ‹_›
    exact .key _ hd.1 hd.2.2 hd.2.1 e2 e4
  split at h
  · injection h with h1 h2 h3 h4; subst h1 h2 h3 h4
    have hd : bDig (cb s p) = false ∧ p < endAt s p ∧ allP s bSimple p (endAt s p) := ‹_›
    exact .wrd _ hd.1 hd.2.2 hd.2.1 e2 e4
  · cases h
/-- a token is not empty and lies within the text -/
theorem shape_lt {s : ByteArray} {p k n : Nat} {t : ByteArray} {q : Bool} (hp : p < s.size) (h : Shape s p k t q n) : p < n ∧ n ≤ s.size := by
  cases h with
  | opn h => omega
  | cls h => omega
  | num q h1 h2 h3 => exact ⟨h1.1, h2⟩
  | dec i q h1 h2 h3 h4 h5 h6 => have := h1.1; omega
  | hex q h1 h2 h3 h4 h5 h6 => omega
  | bin q h1 h2 h3 h4 h5 h6 => omega
  | str t n h1 h2 =>
    rcases qu_kind (s := s) s.size (i := p + 1) (t0 := ⟨#[]⟩) (by omega) with ⟨t', n', h3, h4, h5⟩ | h3
    · rw [h3] at h2; injection h2 with a1 a2 a3 a4; omega
    · rw [h3] at h2; cases h2
  | bar t n h1 h2 =>
    rcases ba_kind (s := s) (a := p + 1) s.size (i := p + 1) (by omega) with ⟨n', h3, h4, h5, _⟩ | h3
    · rw [h3] at h2; injection h2 with a1 a2 a3 a4; omega
    · rw [h3] at h2; cases h2
  | key q h1 h2 h3 h4 h5 => omega
  | wrd q h1 h2 h3 h4 h5 => omega

theorem ext_congr {s s' : ByteArray} {a b a' b' : Nat} (hab : b - a = b' - a') (hb : b ≤ s.size) (hb' : b' ≤ s'.size) (hle : a ≤ b) (hle' : a' ≤ b') (h : ∀ i, i < b - a → cb s' (a' + i) = cb s (a + i)) : s'.extract a' b' = s.extract a b := by
  apply ByteArray.ext_getElem
  · rw [ByteArray.size_extract, ByteArray.size_extract]; omega
  · intro i hi hi'
    rw [ByteArray.getElem_extract, ByteArray.getElem_extract]
    rw [ByteArray.size_extract] at hi hi'
    have h1 := h i (by omega)
    rw [← cb_at (s := s') (i := a' + i) (by omega), ← cb_at (s := s) (i := a + i) (by omega)] at h1
    exact UInt8.toNat_inj.1 h1
/-- what may stand behind a token -/
def Behind (s : ByteArray) (n k : Nat) (q : Bool) : Prop := n = s.size ∨ k = 1 ∨ k = 2 ∨ (k = 8 ∧ q = true) ∨ (bEnd (cb s n) = true ∧ (k = 7 → cb s n ≠ 34))
theorem qu_move {s s' : ByteArray} : ∀ (m : Nat) {i i' n : Nat} {t0 t : ByteArray} {q : Bool} {k : Nat}, s.size - i ≤ m → quF s i t0 = .tok k t q n → i' + (n - i) ≤ s'.size → (∀ j, j < n - i → cb s' (i' + j) = cb s (i + j)) →
    (i' + (n - i) = s'.size ∨ cb s' (i' + (n - i)) ≠ 34) → quF s' i' t0 = .tok k t q (i' + (n - i))
  | 0, i, i', n, t0, t, q, k, hm, h, h1, h2, h3 => by rw [quF, if_neg (by omega)] at h; cases h
  | m + 1, i, i', n, t0, t, q, k, hm, h, h1, h2, h3 => by
    rw [quF] at h
    split at h
    · rename_i hlt
      split at h
      · rename_i hc
        split at h
        · rename_i hd
          rcases qu_kind (s := s) m (i := i + 2) (t0 := t0 ++ ⟨#[34]⟩) (by omega) with ⟨t', n', g1, g2, g3⟩ | g1
          · have e := g1.symm.trans h
            injection e with a1 a2 a3 a4
            have ih := qu_move (s := s) (s' := s') m (i := i + 2) (i' := i' + 2) (by omega) h (by omega) (fun j hj => by rw [Nat.add_assoc, Nat.add_assoc]; exact h2 (2 + j) (by omega)) (by rw [show i' + 2 + (n - (i + 2)) = i' + (n - i) by omega]; exact h3)
            have c0 := h2 0 (by omega); have c1 := h2 1 (by omega)
            rw [Nat.add_zero, Nat.add_zero] at c0
            rw [quF, if_pos (by omega), if_pos (by rw [c0]; exact hc), if_pos ⟨by omega, by rw [c1]; exact hd.2⟩, ih]
            congr 1; omega
          · rw [g1] at h; cases h
        · injection h with a1 a2 a3 a4
          subst a1 a2 a3 a4
          have c0 := h2 0 (by omega)
          rw [Nat.add_zero, Nat.add_zero] at c0
          rw [show i + 1 - i = 1 by omega] at h1 h3 ⊢
          rw [quF, if_pos (by omega), if_pos (by rw [c0]; exact hc), if_neg (by omega)]
      · rename_i hc
        split at h
        · rename_i hi
          rcases qu_kind (s := s) m (i := i + 1) (t0 := t0 ++ s.extract i (i + 1)) (by omega) with ⟨t', n', g1, g2, g3⟩ | g1
          · have e := g1.symm.trans h
            injection e with a1 a2 a3 a4
            have c0 := h2 0 (by omega)
            rw [Nat.add_zero, Nat.add_zero] at c0
            have ex : s'.extract i' (i' + 1) = s.extract i (i + 1) := ext_congr (by omega) (by omega) (by omega) (by omega) (by omega) (fun j hj => by rw [show j = 0 by omega]; exact c0)
            have ih := qu_move (s := s) (s' := s') m (i := i + 1) (i' := i' + 1) (by omega) h (by omega) (fun j hj => by rw [Nat.add_assoc, Nat.add_assoc]; exact h2 (1 + j) (by omega)) (by rw [show i' + 1 + (n - (i + 1)) = i' + (n - i) by omega]; exact h3)
            rw [quF, if_pos (by omega), if_neg (by rw [c0]; exact hc), if_pos (by rw [c0]; exact hi), ex, ih]
            congr 1; omega
          · rw [g1] at h; cases h
        · cases h
    · cases h
theorem ba_of {s : ByteArray} {a : Nat} : ∀ (m : Nat) {i n : Nat}, n - i ≤ m → i ≤ n → n < s.size → cb s n = 124 → (∀ j, i ≤ j → j < n → bInner (cb s j) = true ∧ cb s j ≠ 92 ∧ cb s j ≠ 124) → baF s a i = .tok 8 (s.extract a n) true (n + 1)
  | 0, i, n, hm, h1, h2, h3, h4 => by
    obtain rfl : i = n := by omega
    rw [baF, if_pos h2, if_pos h3]
  | m + 1, i, n, hm, h1, h2, h3, h4 => by
    by_cases e : i = n
    · exact ba_of 0 (by omega) h1 h2 h3 h4
    · have hx := h4 i (Nat.le_refl _) (by omega)
      rw [baF, if_pos (by omega), if_neg hx.2.2, if_pos ⟨hx.1, hx.2.1⟩]
      exact ba_of m (by omega) (by omega) h2 h3 (fun j j1 j2 => h4 j (by omega) j2)
theorem allP_move {s s' : ByteArray} {P : Nat → Bool} {p p' a n : Nat} (h : allP s P a n) (hpa : p ≤ a) (hm : ∀ j, j < n - p → cb s' (p' + j) = cb s (p + j)) : allP s' P (p' + (a - p)) (p' + (n - p)) := fun i i1 i2 => by
  have h1 := hm (i - p') (by omega)
  rw [show p' + (i - p') = i by omega] at h1
  rw [h1]; exact h _ (by omega) (by omega)
theorem isNum_move {s s' : ByteArray} {p p' n : Nat} (h : isNum s p n) (hm : ∀ j, j < n - p → cb s' (p' + j) = cb s (p + j)) : isNum s' p' (p' + (n - p)) := by
  have hl := h.1
  refine ⟨by omega, ?_, ?_⟩
  · have := allP_move (p := p) (p' := p') h.2.1 (Nat.le_refl _) hm
    rwa [Nat.sub_self, Nat.add_zero] at this
  · have c0 := hm 0 (by omega)
    rw [Nat.add_zero, Nat.add_zero] at c0
    rw [c0]
    rcases h.2.2 with h3 | h3
    · exact .inl h3
    · exact .inr (by omega)
theorem one_qu {s : ByteArray} {p : Nat} (h : cb s p = 34) : oneF s p = quF s (p + 1) ⟨#[]⟩ := by unfold oneF; rw [if_neg (by omega), if_neg (by omega), if_pos h]
theorem one_ba {s : ByteArray} {p : Nat} (h : cb s p = 124) : oneF s p = baF s (p + 1) (p + 1) := by unfold oneF; rw [if_neg (by omega), if_neg (by omega), if_neg (by omega), if_pos h]
theorem one_op {s : ByteArray} {p : Nat} (h : cb s p = 40) : oneF s p = .tok 1 ⟨#[40]⟩ false (p + 1) := by unfold oneF; rw [if_pos h]
theorem one_cl {s : ByteArray} {p : Nat} (h : cb s p = 41) : oneF s p = .tok 2 ⟨#[41]⟩ false (p + 1) := by unfold oneF; rw [if_neg (by omega), if_pos h]
/-- the same bytes at another place, with what may stand behind them: the same token -/
theorem tok_move {s s' : ByteArray} {p p' k n : Nat} {t : ByteArray} {q : Bool} (hp : p < s.size) (h : oneF s p = .tok k t q n) (hs : p' + (n - p) ≤ s'.size) (hm : ∀ j, j < n - p → cb s' (p' + j) = cb s (p + j)) (hb : Behind s' (p' + (n - p)) k q) :
    oneF s' p' = .tok k t q (p' + (n - p)) := by
  have hsh := shape_of hp h
  obtain ⟨hl1, hl2⟩ := shape_lt hp hsh
  have c0 := hm 0 (by omega)
  rw [Nat.add_zero, Nat.add_zero] at c0
  cases hsh with
  | opn h1 => rw [one_op (by rw [c0]; exact h1)]; congr 1; omega
  | cls h1 => rw [one_cl (by rw [c0]; exact h1)]; congr 1; omega
  | num q h1 h2 h3 =>
    have e : s'.extract p' (p' + (n - p)) = s.extract p n := ext_congr (by omega) hl2 hs (by omega) (by omega) hm
    rw [num_tok (isNum_move h1 hm) hs ?_, e]
    rcases hb with hb | hb | hb | hb | hb
    · exact .inl hb
    · cases hb
    · cases hb
    · cases hb.1
    · exact .inr hb.1
  | dec i q h1 h2 h3 h4 h5 h6 =>
    have hpi := h1.1
    have e : s'.extract p' (p' + (n - p)) = s.extract p n := ext_congr (by omega) hl2 hs (by omega) (by omega) hm
    have ci := hm (i - p) (by omega)
    rw [show p + (i - p) = i by omega, h2] at ci
    have ha := allP_move (p' := p') h3 (show p ≤ i + 1 by omega) hm
    rw [show p' + (i + 1 - p) = p' + (i - p) + 1 by omega] at ha
    rw [dec_tok (isNum_move h1 (fun j hj => hm j (by omega))) ci ha (by omega) hs ?_, e]
    rcases hb with hb | hb | hb | hb | hb
    · exact .inl hb
    · cases hb
    · cases hb
    · cases hb.1
    · exact .inr hb.1
  | hex q h1 h2 h3 h4 h5 h6 =>
    have ha := allP_move (p' := p') h3 (show p ≤ p + 2 by omega) hm
    rw [show p' + (p + 2 - p) = p' + 2 by omega] at ha
    have e : s'.extract (p' + 2) (p' + (n - p)) = s.extract (p + 2) n := ext_congr (by omega) hl2 hs (by omega) (by omega) (fun i hi => by rw [Nat.add_assoc, Nat.add_assoc]; exact hm (2 + i) (by omega))
    rw [hex_tok (by rw [c0]; exact h1) (by rw [hm 1 (by omega)]; exact h2) ha (by omega) hs ?_, e]
    rcases hb with hb | hb | hb | hb | hb
    · exact .inl hb
    · cases hb
    · cases hb
    · cases hb.1
    · exact .inr hb.1
  | bin q h1 h2 h3 h4 h5 h6 =>
    have ha := allP_move (p' := p') h3 (show p ≤ p + 2 by omega) hm
    rw [show p' + (p + 2 - p) = p' + 2 by omega] at ha
    have e : s'.extract (p' + 2) (p' + (n - p)) = s.extract (p + 2) n := ext_congr (by omega) hl2 hs (by omega) (by omega) (fun i hi => by rw [Nat.add_assoc, Nat.add_assoc]; exact hm (2 + i) (by omega))
    rw [bin_tok (by rw [c0]; exact h1) (by rw [hm 1 (by omega)]; exact h2) ha (by omega) hs ?_, e]
    rcases hb with hb | hb | hb | hb | hb
    · exact .inl hb
    · cases hb
    · cases hb
    · cases hb.1
    · exact .inr hb.1
  | str t n h1 h2 =>
    rw [one_qu (by rw [c0]; exact h1)]
    have := qu_move (s := s) (s' := s') s.size (i := p + 1) (i' := p' + 1) (by omega) h2 (by omega) (fun j hj => by rw [Nat.add_assoc, Nat.add_assoc]; exact hm (1 + j) (by omega)) (by
      rw [show p' + 1 + (n - (p + 1)) = p' + (n - p) by omega]
      rcases hb with hb | hb | hb | hb | hb
      · exact .inl hb
      · cases hb
      · cases hb
      · cases hb.1
      · exact .inr (hb.2 rfl))
    rw [this]; congr 1; omega
  | bar t n h1 h2 =>
    rcases ba_kind (s := s) (a := p + 1) s.size (i := p + 1) (by omega) with ⟨n', g1, g2, g3, g4, g5⟩ | g1
    · rw [g1] at h2; injection h2 with a1 a2 a3 a4
      subst a2 a4
      have cn := hm (n' - p) (by omega)
      rw [show p + (n' - p) = n' by omega, g4] at cn
      have e : s'.extract (p' + 1) (p' + (n' - p)) = s.extract (p + 1) n' := ext_congr (by omega) (by omega) (by omega) (by omega) (by omega) (fun i hi => by rw [Nat.add_assoc, Nat.add_assoc]; exact hm (1 + i) (by omega))
      rw [one_ba (by rw [c0]; exact h1), ba_of (n := p' + (n' - p)) s'.size (by omega) (by omega) (by omega) cn (fun j j1 j2 => by
        have h1 := hm (j - p') (by omega)
        rw [show p' + (j - p') = j by omega] at h1
        rw [h1]; exact g5 _ (by omega) (by omega)), e]
      congr 1; omega
    · rw [g1] at h2; cases h2
  | key q h1 h2 h3 h4 h5 =>
    have ha := allP_move (p' := p') h2 (show p ≤ p + 1 by omega) hm
    rw [show p' + (p + 1 - p) = p' + 1 by omega] at ha
    have e : s'.extract (p' + 1) (p' + (n - p)) = s.extract (p + 1) n := ext_congr (by omega) hl2 hs (by omega) (by omega) (fun i hi => by rw [Nat.add_assoc, Nat.add_assoc]; exact hm (1 + i) (by omega))
    rw [key_tok (by rw [c0]; exact h1) ha (by omega) hs ?_, e]
    rcases hb with hb | hb | hb | hb | hb
    · exact .inl hb
    · cases hb
    · cases hb
    · cases hb.1
    · exact .inr hb.1
  | wrd q h1 h2 h3 h4 h5 =>
    have ha := allP_move (p' := p') h2 (Nat.le_refl p) hm
    rw [Nat.sub_self, Nat.add_zero] at ha
    have e : s'.extract p' (p' + (n - p)) = s.extract p n := ext_congr (by omega) hl2 hs (by omega) (by omega) hm
    rw [word_tok (by rw [c0]; exact h1) ha (by omega) hs ?_, e]
    rcases hb with hb | hb | hb | hb | hb
    · exact .inl hb
    · cases hb
    · cases hb
    · cases hb.2
    · exact .inr hb.1
end Go.Proofs.YtpkdiciinhjfjaaDoor

/- lexis: quotation marks doubled, and back. -/
namespace Go.Proofs.YtpkdiciinhjfjaaDoor
open Go.RowKit Mth

/-- each quotation mark twice -/
def dbl : List UInt8 → List UInt8
  | [] => []
  | c :: l => if c = 34 then 34 :: 34 :: dbl l else c :: dbl l
theorem index_skip {b : UInt8} {l old : List UInt8} (h : old.isPrefixOf (b :: l) = false) : Lib.index (b :: l) old = if Lib.index l old == -1 then -1 else Lib.index l old + 1 := by
  rw [Lib.index, if_neg (by rw [h]; simp)]
theorem count_skip {b : UInt8} {l old : List UInt8} (ho : old ≠ []) (h : old.isPrefixOf (b :: l) = false) : Lib.count (b :: l) old = Lib.count l old := by
  have e := index_skip h
  by_cases hm : Lib.index l old = -1
  · rw [Lib.count_miss hm, Lib.count_miss (by rw [e, hm]; rfl)]
  · have hge := Lib.index_ge l old
    obtain ⟨i, hi⟩ : ∃ i : Nat, Lib.index l old = i := ⟨(Lib.index l old).toNat, by omega⟩
    rw [Lib.count_hit ho hi, Lib.count_hit (i := i + 1) ho (by rw [e, if_neg (by rw [beq_iff_eq]; exact hm), hi]; simp)]
    rw [show i + 1 + old.length = (i + old.length) + 1 by omega, List.drop_succ_cons]
theorem repK_skip {b : UInt8} {l old new : List UInt8} (h : old.isPrefixOf (b :: l) = false) : ∀ k, Lib.replaceK old new k (b :: l) = b :: Lib.replaceK old new k l
  | 0 => rfl
  | k + 1 => by
    have e := index_skip h
    by_cases hm : Lib.index l old = -1
    · rw [Lib.replaceK, if_pos (by rw [e, hm]; rfl), Lib.replaceK, if_pos (by rw [hm]; rfl)]
    · have hge := Lib.index_ge l old
      obtain ⟨i, hi⟩ : ∃ i : Nat, Lib.index l old = i := ⟨(Lib.index l old).toNat, by omega⟩
      rw [Lib.replaceK_hit old new k l i hi, Lib.replaceK_hit old new k (b :: l) (i + 1) (by rw [e, if_neg (by rw [beq_iff_eq]; exact hm), hi]; simp)]
      rw [show i + 1 + old.length = (i + old.length) + 1 by omega, List.drop_succ_cons, List.take_succ_cons]
      rfl
theorem index_hit {r old : List UInt8} (hn : old ≠ []) : Lib.index (old ++ r) old = (0 : Nat) := by
  cases old with
  | nil => exact absurd rfl hn
  | cons c o => rw [List.cons_append, Lib.index, if_pos (by rw [← List.cons_append]; simp)]; rfl
theorem rep_all {s old new : List UInt8} (h : old ≠ new) : Lib.replaceAll s old new = Lib.replaceK old new (Lib.count s old) s := by
  unfold Lib.replaceAll Lib.replace
  rw [if_neg (by rw [beq_iff_eq]; exact h)]
  unfold Lib.replaceNum
  rw [if_pos (.inl (by decide))]
theorem rep_skip {b : UInt8} {l old new : List UInt8} (ho : old ≠ []) (hn : old ≠ new) (h : old.isPrefixOf (b :: l) = false) : Lib.replaceAll (b :: l) old new = b :: Lib.replaceAll l old new := by
  rw [rep_all hn, rep_all hn, count_skip ho h, repK_skip h]
theorem rep_hit {r old new : List UInt8} (ho : old ≠ []) (hn : old ≠ new) : Lib.replaceAll (old ++ r) old new = new ++ Lib.replaceAll r old new := by
  rw [rep_all hn, rep_all hn, Lib.count_hit ho (index_hit ho), Nat.zero_add, List.drop_left, Nat.add_comm, Lib.replaceK_hit old new _ (old ++ r) 0 (index_hit ho), Nat.zero_add, List.drop_left]
  rfl
theorem rep_nil {old new : List UInt8} (ho : old ≠ []) (hn : old ≠ new) : Lib.replaceAll [] old new = [] := by
  have h : Lib.index [] old = -1 := by
    cases old with
    | nil => exact absurd rfl ho
    | cons c o => rfl
  rw [rep_all hn, Lib.count_miss h]; rfl
theorem rep_dbl : ∀ l : List UInt8, Lib.replaceAll l [34] [34, 34] = dbl l
  | [] => rep_nil (by simp) (by simp)
  | c :: l => by
    by_cases h : c = 34
    · subst h
      rw [show (34 : UInt8) :: l = [34] ++ l from rfl, rep_hit (by simp) (by simp), rep_dbl l]
      rfl
    · rw [rep_skip (by simp) (by simp) (by simp [List.isPrefixOf]; exact fun e => h e.symm), rep_dbl l, dbl, if_neg h]
theorem rep_undbl : ∀ l : List UInt8, Lib.replaceAll (dbl l) [34, 34] [34] = l
  | [] => rep_nil (by simp) (by simp)
  | c :: l => by
    by_cases h : c = 34
    · subst h
      rw [dbl, if_pos rfl, show (34 : UInt8) :: 34 :: dbl l = [34, 34] ++ dbl l from rfl, rep_hit (by simp) (by simp), rep_undbl l]
      rfl
    · rw [dbl, if_neg h, rep_skip (by simp) (by simp) (by simp [List.isPrefixOf]; exact fun e => absurd e.symm h), rep_undbl l]
theorem dbl_app : ∀ a b : List UInt8, dbl (a ++ b) = dbl a ++ dbl b
  | [], b => rfl
  | c :: a, b => by
    rw [List.cons_append, dbl, dbl, dbl_app a b]
    split <;> rfl
theorem dbl_len : ∀ l : List UInt8, l.length ≤ (dbl l).length ∧ (dbl l).length ≤ 2 * l.length
  | [] => by simp [dbl]
  | c :: l => by
    have := dbl_len l
    rw [dbl]
    split <;> (simp; omega)
end Go.Proofs.YtpkdiciinhjfjaaDoor

/- lexis: how a token is written; what is written is read as the token. -/
namespace Go.Proofs.YtpkdiciinhjfjaaDoor
open Go.RowKit Mth

/-- the bytes of a text from a place on -/
def Byt (s : ByteArray) : Nat → List UInt8 → Prop
  | _, [] => True
  | i, c :: l => cb s i = c.toNat ∧ Byt s (i + 1) l
theorem byt_at {s : ByteArray} : ∀ {l : List UInt8} {i j : Nat}, Byt s i l → j < l.length → cb s (i + j) = (l.getD j 0).toNat
  | [], i, j, _, h => by simp at h
  | c :: l, i, 0, h, _ => by rw [Nat.add_zero, List.getD_cons_zero]; exact h.1
  | c :: l, i, j + 1, h, hj => by
    rw [List.getD_cons_succ, show i + (j + 1) = i + 1 + j by omega]
    exact byt_at h.2 (by simpa using hj)
theorem byt_of {s : ByteArray} : ∀ {l : List UInt8} {i : Nat}, (∀ j, j < l.length → cb s (i + j) = (l.getD j 0).toNat) → Byt s i l
  | [], i, _ => True.intro
  | c :: l, i, h => ⟨by have := h 0 (by simp); rwa [Nat.add_zero, List.getD_cons_zero] at this, byt_of (fun j hj => by
      have := h (j + 1) (by simp; omega)
      rwa [List.getD_cons_succ, show i + (j + 1) = i + 1 + j by omega] at this)⟩
theorem byt_app {s : ByteArray} : ∀ {l m : List UInt8} {i : Nat}, Byt s i (l ++ m) ↔ Byt s i l ∧ Byt s (i + l.length) m
  | [], m, i => by simp [Byt]
  | c :: l, m, i => by
    rw [List.cons_append, Byt, Byt, byt_app, List.length_cons, show i + (l.length + 1) = i + 1 + l.length by omega]
    exact ⟨fun h => ⟨⟨h.1, h.2.1⟩, h.2.2⟩, fun h => ⟨h.1.1, h.1.2, h.2⟩⟩
theorem cb_list (l : List UInt8) (j : Nat) (h : j < l.length) : cb ⟨l.toArray⟩ j = (l.getD j 0).toNat := by
  have h' : j < (⟨l.toArray⟩ : ByteArray).size := by simpa [ByteArray.size] using h
  rw [← cb_at h', List.getD_eq_getElem?_getD, List.getElem?_eq_getElem h]
  rfl
theorem size_list (l : List UInt8) : (⟨l.toArray⟩ : ByteArray).size = l.length := by simp [ByteArray.size]
theorem byt_self (l : List UInt8) : Byt ⟨l.toArray⟩ 0 l := byt_of (fun j hj => by rw [Nat.zero_add]; exact cb_list l j hj)
theorem byt_ext {s : ByteArray} {l : List UInt8} {i : Nat} (h : Byt s i l) (hs : i + l.length ≤ s.size) : s.extract i (i + l.length) = ⟨l.toArray⟩ := by
  have := ext_congr (s := ⟨l.toArray⟩) (s' := s) (a := 0) (b := l.length) (a' := i) (b' := i + l.length) (by omega) (by rw [size_list]; omega) hs (by omega) (by omega) (fun j hj => by rw [Nat.zero_add, cb_list l j (by omega)]; exact byt_at h (by omega))
  rw [this]
  have e := ByteArray.extract_zero_size (b := ⟨l.toArray⟩)
  rwa [size_list] at e
theorem byt_of_ext {s t : ByteArray} {a b : Nat} (h : s.extract a b = t) (hab : a ≤ b) (hb : b ≤ s.size) : Byt s a t.data.toList ∧ t.data.toList.length = b - a := by
  have hz : t.size = b - a := by rw [← h, ByteArray.size_extract]; omega
  have hl : t.data.toList.length = b - a := by rw [← hz]; exact Array.length_toList
  refine ⟨byt_of (fun j hj => ?_), hl⟩
  have e : t = ⟨t.data.toList.toArray⟩ := by simp
  rw [← cb_list _ _ hj, ← e, ← h]
  unfold cb
  rw [dif_pos (show a + j < s.size by omega), dif_pos (show j < (s.extract a b).size by rw [ByteArray.size_extract]; omega), ByteArray.getElem_extract]

def allIn (u : List UInt8) : Prop := ∀ c ∈ u, bInner c.toNat = true
theorem u34 {c : UInt8} : c = 34 ↔ c.toNat = 34 := by
  constructor
  · intro h; subst h; rfl
  · intro h; exact UInt8.toNat_inj.1 h
theorem qu_dbl {s : ByteArray} : ∀ (u : List UInt8) {i : Nat} {t0 : ByteArray}, Byt s i (dbl u) → i + (dbl u).length < s.size → cb s (i + (dbl u).length) = 34 → (i + (dbl u).length + 1 = s.size ∨ cb s (i + (dbl u).length + 1) ≠ 34) → allIn u →
    quF s i t0 = .tok 7 (t0 ++ ⟨u.toArray⟩) false (i + (dbl u).length + 1)
  | [], i, t0, _, h2, h3, h4, _ => by
    have h2' : i < s.size := h2
    have h3' : cb s i = 34 := h3
    rw [quF, if_pos h2', if_pos h3', if_neg (fun x => h4.elim (fun e => by have e' : i + 1 = s.size := e; omega) (fun e => e x.2))]
    have e : t0 ++ (⟨([] : List UInt8).toArray⟩ : ByteArray) = t0 := ByteArray.append_empty
    rw [e]; rfl
  | c :: u, i, t0, h1, h2, h3, h4, h5 => by
    by_cases hc : c = 34
    · subst hc
      rw [dbl, if_pos rfl] at h1 h2 h3 h4 ⊢
      rw [List.length_cons, List.length_cons] at h2 h3 h4 ⊢
      have ih := qu_dbl (s := s) u (i := i + 1 + 1) (t0 := t0 ++ ⟨#[34]⟩) h1.2.2 (by omega) (by rw [← h3]; congr 1; omega) (by rw [show i + 1 + 1 + (dbl u).length + 1 = i + ((dbl u).length + 1 + 1) + 1 by omega]; exact h4) (fun x hx => h5 x (List.mem_cons_of_mem _ hx))
      rw [quF, if_pos (by omega), if_pos (by rw [h1.1]; rfl), if_pos ⟨by omega, by rw [h1.2.1]; rfl⟩, ih, ByteArray.append_assoc]
      congr 1
      omega
    · rw [dbl, if_neg hc] at h1 h2 h3 h4 ⊢
      rw [List.length_cons] at h2 h3 h4 ⊢
      have ih := qu_dbl (s := s) u (i := i + 1) (t0 := t0 ++ s.extract i (i + 1)) h1.2 (by omega) (by rw [← h3]; congr 1; omega) (by rw [show i + 1 + (dbl u).length + 1 = i + ((dbl u).length + 1) + 1 by omega]; exact h4) (fun x hx => h5 x (List.mem_cons_of_mem _ hx))
      have ex : s.extract i (i + 1) = ⟨#[c]⟩ := byt_ext (l := [c]) ⟨h1.1, True.intro⟩ (by simp; omega)
      rw [quF, if_pos (by omega), if_neg (by rw [h1.1]; exact fun e => hc (u34.2 e)), if_pos (by rw [h1.1]; exact h5 c (List.mem_cons_self ..)), ih, ex, ByteArray.append_assoc]
      congr 1
      omega
theorem qu_bad {s : ByteArray} : ∀ (u : List UInt8) {i : Nat} {t0 : ByteArray}, Byt s i (dbl u) → i + (dbl u).length < s.size → ¬ allIn u → quF s i t0 = .err 61
  | [], i, t0, _, _, h5 => absurd (fun x hx => by simp at hx) h5
  | c :: u, i, t0, h1, h2, h5 => by
    by_cases hc : c = 34
    · subst hc
      rw [dbl, if_pos rfl] at h1 h2
      rw [List.length_cons, List.length_cons] at h2
      rw [quF, if_pos (by omega), if_pos (by rw [h1.1]; rfl), if_pos ⟨by omega, by rw [h1.2.1]; rfl⟩]
      refine qu_bad u h1.2.2 (by omega) (fun h => h5 (fun x hx => ?_))
      rcases List.mem_cons.1 hx with e | e
      · subst e; rfl
      · exact h x e
    · rw [dbl, if_neg hc] at h1 h2
      rw [List.length_cons] at h2
      rw [quF, if_pos (by omega), if_neg (by rw [h1.1]; exact fun e => hc (u34.2 e)), h1.1]
      split
      · rename_i hi
        refine qu_bad u h1.2 (by omega) (fun h => h5 (fun x hx => ?_))
        rcases List.mem_cons.1 hx with e | e
        · subst e; exact hi
        · exact h x e
      · rfl
/-- what a text is made of -/
theorem qu_raw {s : ByteArray} : ∀ (m : Nat) {i n k : Nat} {t0 t : ByteArray} {q : Bool}, s.size - i ≤ m → quF s i t0 = .tok k t q n → ∃ u : List UInt8, t = t0 ++ ⟨u.toArray⟩ ∧ Byt s i (dbl u) ∧ n = i + (dbl u).length + 1 ∧ n ≤ s.size ∧ cb s (i + (dbl u).length) = 34 ∧ allIn u ∧ k = 7 ∧ q = false
  | 0, i, n, k, t0, t, q, hm, h => by rw [quF, if_neg (by omega)] at h; cases h
  | m + 1, i, n, k, t0, t, q, hm, h => by
    rw [quF] at h
    split at h
    · rename_i hlt
      split at h
      · rename_i hc
        split at h
        · rename_i hd
          obtain ⟨u, h1, h2, h3, h4, h5, h6, h7⟩ := qu_raw m (i := i + 2) (by omega) h
          refine ⟨34 :: u, ?_, ?_, ?_, h4, ?_, ?_, h7⟩
          · rw [h1, ByteArray.append_assoc]; rfl
          · rw [dbl, if_pos rfl]; exact ⟨by rw [hc]; rfl, by rw [hd.2]; rfl, h2⟩
          · rw [dbl, if_pos rfl, List.length_cons, List.length_cons]; omega
          · rw [dbl, if_pos rfl, List.length_cons, List.length_cons, ← h5]; congr 1; omega
          · intro x hx
            rcases List.mem_cons.1 hx with e | e
            · subst e; rfl
            · exact h6 x e
        · injection h with a1 a2 a3 a4
          subst a1 a2 a3 a4
          exact ⟨[], ByteArray.append_empty.symm, True.intro, rfl, by omega, hc, fun x hx => by simp at hx, rfl, rfl⟩
      · rename_i hc
        split at h
        · rename_i hi
          obtain ⟨u, h1, h2, h3, h4, h5, h6, h7⟩ := qu_raw m (i := i + 1) (by omega) h
          have ec : cb s i = (s[i]'hlt).toNat := (cb_at hlt).symm
          have hn : s[i]'hlt ≠ 34 := fun e => hc (by rw [ec, e]; rfl)
          have ex : s.extract i (i + 1) = ⟨#[s[i]'hlt]⟩ := byt_ext (l := [s[i]'hlt]) ⟨ec, True.intro⟩ (by simp; omega)
          refine ⟨s[i]'hlt :: u, ?_, ?_, ?_, h4, ?_, ?_, h7⟩
          · rw [h1, ex, ByteArray.append_assoc]; rfl
          · rw [dbl, if_neg hn]; exact ⟨ec, h2⟩
          · rw [dbl, if_neg hn, List.length_cons]; omega
          · rw [dbl, if_neg hn, List.length_cons, ← h5]; congr 1; omega
          · intro x hx
            rcases List.mem_cons.1 hx with e | e
            · subst e; rw [← ec]; exact hi
            · exact h6 x e
        · cases h
    · cases h

/-- a token as it would be written, if it is one -/
def wrL (k : Int) (t : List UInt8) (q : Bool) : List UInt8 :=
  if k = 5 then 35 :: 120 :: t else if k = 6 then 35 :: 98 :: t else if k = 7 then 34 :: (dbl t ++ [34]) else if k = 9 then 58 :: t else
  if k = 8 ∧ q = true then 124 :: (t ++ [124]) else if (1 ≤ k ∧ k ≤ 4) ∨ k = 8 then t else []
def wrB (x : Tk) : ByteArray := ⟨(wrL x.k x.t.data.toList x.q).toArray⟩
theorem low_id {l : List UInt8} (h : ∀ c ∈ l, Lib.isUpperB c = false) : lower l = l := by
  induction l with
  | nil => rfl
  | cons c l ih =>
    show Lib.lowerB c :: lower l = _
    rw [Lib.lowerB_of_not c (h c (List.mem_cons_self ..)), ih (fun x hx => h x (List.mem_cons_of_mem _ hx))]
set_option maxRecDepth 100000 in
theorem low_hex (c : UInt8) (h : bHex c.toNat = true) : bHex (Lib.lowerB c).toNat = true ∧ Lib.isUpperB (Lib.lowerB c) = false := by
  revert h; revert c
  have key : ∀ n : Nat, n < 256 → bHex (UInt8.ofNat n).toNat = true → bHex (Lib.lowerB (UInt8.ofNat n)).toNat = true ∧ Lib.isUpperB (Lib.lowerB (UInt8.ofNat n)) = false := by decide
  intro c
  have := key c.toNat c.toNat_lt
  rwa [UInt8.ofNat_toNat] at this
end Go.Proofs.YtpkdiciinhjfjaaDoor

/- lexis: texts and symbols with bars, as the program goes through them. -/
namespace Go.Proofs.YtpkdiciinhjfjaaDoor
open Go.RowKit Mth

/-- bytes of a text, none the mark -/
def TxtM (s : ByteArray) (m a q : Nat) : Prop := a ≤ q ∧ q ≤ s.size ∧ ∀ i, a ≤ i → i < q → bInner (cb s i) = true ∧ cb s i ≠ m
theorem ext_split {s : ByteArray} {a b c : Nat} (h1 : a ≤ b) (h2 : b ≤ c) : s.extract a b ++ s.extract b c = s.extract a c := by
  rw [ByteArray.extract_append_extract, Nat.min_eq_left h1, Nat.max_eq_right h2]
theorem ext_none (s : ByteArray) (a : Nat) : s.extract a a = ⟨#[]⟩ := by
  apply ByteArray.ext_getElem
  · rw [ByteArray.size_extract]; show _ = 0; omega
  · intro i hi hi'; rw [ByteArray.size_extract] at hi; omega
theorem qu_txt {s : ByteArray} : ∀ (m : Nat) {a q : Nat} {t0 : ByteArray}, q - a ≤ m → TxtM s 34 a q → quF s a t0 = quF s q (t0 ++ s.extract a q)
  | 0, a, q, t0, hm, h => by
    obtain rfl : a = q := by have := h.1; omega
    rw [ext_none]; rw [show t0 ++ (⟨#[]⟩ : ByteArray) = t0 from ByteArray.append_empty]
  | m + 1, a, q, t0, hm, h => by
    by_cases e : a = q
    · exact qu_txt 0 (by omega) h
    · have h1 := h.1; have h2 := h.2.1
      have hx := h.2.2 a (Nat.le_refl _) (by omega)
      rw [quF, if_pos (by omega), if_neg hx.2, if_pos hx.1, qu_txt m (a := a + 1) (q := q) (by omega) ⟨by omega, h2, fun i i1 i2 => h.2.2 i (by omega) i2⟩, ByteArray.append_assoc, ext_split (by omega) (by omega)]
theorem qu_open {s : ByteArray} {a q : Nat} {t0 : ByteArray} (h : TxtM s 34 a q) (he : q = s.size ∨ (cb s q ≠ 34 ∧ bInner (cb s q) = false)) : quF s a t0 = .err 61 := by
  rw [qu_txt (q - a) (Nat.le_refl _) h, quF]
  rcases he with he | he
  · rw [if_neg (by omega)]
  · split
    · rw [if_neg he.1, if_neg (by rw [he.2]; simp)]
    · rfl
theorem qu_two {s : ByteArray} {q : Nat} {t0 : ByteArray} (h1 : cb s q = 34) (h2 : q + 1 < s.size) (h3 : cb s (q + 1) = 34) : quF s q t0 = quF s (q + 2) (t0 ++ ⟨#[34]⟩) := by
  rw [quF, if_pos (by omega), if_pos h1, if_pos ⟨h2, h3⟩]
theorem qu_one {s : ByteArray} {q : Nat} {t0 : ByteArray} (h1 : cb s q = 34) (h2 : q < s.size) (h3 : ¬ (q + 1 < s.size ∧ cb s (q + 1) = 34)) : quF s q t0 = .tok 7 t0 false (q + 1) := by
  rw [quF, if_pos h2, if_pos h1, if_neg h3]
theorem ba_txt {s : ByteArray} {b : Nat} : ∀ (m : Nat) {a q : Nat}, q - a ≤ m → TxtM s 124 a q → (∀ i, a ≤ i → i < q → cb s i ≠ 92) → baF s b a = baF s b q
  | 0, a, q, hm, h, hn => by
    obtain rfl : a = q := by have := h.1; omega
    rfl
  | m + 1, a, q, hm, h, hn => by
    by_cases e : a = q
    · exact ba_txt 0 (by omega) h hn
    · have h1 := h.1; have h2 := h.2.1
      have hx := h.2.2 a (Nat.le_refl _) (by omega)
      rw [baF, if_pos (by omega), if_neg hx.2, if_pos ⟨hx.1, hn a (Nat.le_refl _) (by omega)⟩]
      exact ba_txt m (a := a + 1) (q := q) (by omega) ⟨by omega, h2, fun i i1 i2 => h.2.2 i (by omega) i2⟩ (fun i i1 i2 => hn i (by omega) i2)
theorem ba_bad {s : ByteArray} {b : Nat} : ∀ (m : Nat) {a q : Nat}, q - a ≤ m → TxtM s 124 a q → (∃ i, a ≤ i ∧ i < q ∧ cb s i = 92) → baF s b a = .err 61
  | 0, a, q, hm, h, ⟨i, i1, i2, _⟩ => by have := h.1; omega
  | m + 1, a, q, hm, h, ⟨i, i1, i2, i3⟩ => by
    have h1 := h.1; have h2 := h.2.1
    have hx := h.2.2 a (Nat.le_refl _) (by omega)
    rw [baF, if_pos (by omega), if_neg hx.2]
    by_cases e : cb s a = 92
    · rw [if_neg (fun x => x.2 e)]
    · rw [if_pos ⟨hx.1, e⟩]
      refine ba_bad m (a := a + 1) (q := q) (by omega) ⟨by omega, h2, fun i i1 i2 => h.2.2 i (by omega) i2⟩ ⟨i, ?_, i2, i3⟩
      rcases Nat.lt_or_ge a i with h9 | h9
      · exact h9
      · obtain rfl : a = i := by omega
        exact absurd i3 e
theorem ba_open {s : ByteArray} {b a q : Nat} (h : TxtM s 124 a q) (he : q = s.size ∨ (cb s q ≠ 124 ∧ bInner (cb s q) = false)) : baF s b a = .err 61 := by
  by_cases hx : ∃ i, a ≤ i ∧ i < q ∧ cb s i = 92
  · exact ba_bad (q - a) (Nat.le_refl _) h hx
  · rw [ba_txt (q - a) (Nat.le_refl _) h (fun i i1 i2 e => hx ⟨i, i1, i2, e⟩), baF]
    rcases he with he | he
    · rw [if_neg (by omega)]
    · split
      · rw [if_neg he.1, if_neg (by rw [he.2]; simp)]
      · rfl
theorem indexB_mem : ∀ (l : List UInt8) (c : UInt8), decide (0 ≤ Lib.indexByte l c) = l.contains c
  | [], c => by simp [Lib.indexByte]
  | b :: l, c => by
    have ih := indexB_mem l c
    have hge := Lib.indexByte_ge l c
    rw [Lib.indexByte, List.contains_cons]
    by_cases h : b = c
    · subst h; simp
    · rw [if_neg (by rw [beq_iff_eq]; exact h)]
      have h1 : (c == b) = false := beq_eq_false_iff_ne.2 (fun e => h e.symm)
      rw [h1, Bool.false_or, ← ih]
      by_cases hm : Lib.indexByte l c = -1
      · rw [hm]; decide
      · rw [if_neg (by rw [beq_iff_eq]; exact hm)]
        have e1 : (0 ≤ Lib.indexByte l c + 1) ↔ (0 ≤ Lib.indexByte l c) := by omega
        exact decide_eq_decide.2 e1
theorem ext_mem {s : ByteArray} {a q c : Nat} (ha : a ≤ q) (hq : q ≤ s.size) (hc : c < 256) : (s.extract a q).data.toList.contains (UInt8.ofNat c) = true ↔ ∃ i, a ≤ i ∧ i < q ∧ cb s i = c := by
  obtain ⟨h1, h2⟩ := byt_of_ext (s := s) (a := a) (b := q) rfl ha hq
  generalize (s.extract a q).data.toList = l at *
  rw [List.contains_iff_mem]
  have hcc : (UInt8.ofNat c).toNat = c := by simp; omega
  constructor
  · intro h
    obtain ⟨j, hj, e⟩ := List.mem_iff_getElem.1 h
    have := byt_at h1 hj
    refine ⟨a + j, by omega, by omega, ?_⟩
    rw [this, List.getD_eq_getElem?_getD, List.getElem?_eq_getElem hj, Option.getD_some, e, hcc]
  · rintro ⟨i, i1, i2, i3⟩
    have hj : i - a < l.length := by omega
    have := byt_at h1 hj
    rw [show a + (i - a) = i by omega, i3, List.getD_eq_getElem?_getD, List.getElem?_eq_getElem hj, Option.getD_some] at this
    exact List.mem_iff_getElem.2 ⟨i - a, hj, UInt8.toNat_inj.1 (by rw [hcc]; exact this.symm)⟩
/-- what the program makes of a text's bytes -/
theorem qu_text {s : ByteArray} {p a : Nat} {t : ByteArray} (h : quF s (p + 1) ⟨#[]⟩ = .tok 7 t false a) : p + 2 ≤ a ∧ a ≤ s.size ∧ (⟨(Lib.replaceAll (s.extract (p + 1) (a - 1)).data.toList [34, 34] [34]).toArray⟩ : ByteArray) = t := by
  obtain ⟨u, h1, h2, h3, h4, h5, h6, h7⟩ := qu_raw s.size (by omega) h
  have e := byt_ext h2 (by omega)
  refine ⟨by omega, h4, ?_⟩
  rw [show a - 1 = p + 1 + (dbl u).length by omega, e]
  show (⟨(Lib.replaceAll (dbl u).toArray.toList [34, 34] [34]).toArray⟩ : ByteArray) = t
  rw [List.toList_toArray, rep_undbl, h1]
  exact ByteArray.empty_append.symm
end Go.Proofs.YtpkdiciinhjfjaaDoor
