/- The reader of package lexis in memory; its small methods. -/
import Derived.Test.YtlgcmpiobglbbaaDoorLC
import Derived.Below
import Derived.OneCell
import Derived.Deep.QuietTactic
import Derived.BigQuiet
import Derived.Deep.RegionWith
import Derived.Deep.RegionHeld3
set_option linter.unusedVariables false
set_option linter.unusedSimpArgs false
namespace Go.Proofs.YtlgcmpiobglbbaaDoor
open Go.RowKit Mth

/-- the reader in memory -/
def Rdr (w : World) (g : Nat) (s : ByteArray) (a l f : Nat) : Prop := w.heap[g]? = some (.cells #[.string s, .int .i64 (a : Int), .int .i64 (l : Int), .int .i64 (f : Int)] 53 (0, 0))
theorem Rdr.lt {w : World} {g : Nat} {s : ByteArray} {a l f : Nat} (h : Rdr w g s a l f) : g < w.heap.size := (Array.getElem?_eq_some_iff.1 h).1
theorem Rdr.cells {w : World} {g : Nat} {s : ByteArray} {a l f : Nat} (h : Rdr w g s a l f) :
    w.cell? ⟨g, 0, none⟩ = some (.string s) ∧ w.cell? ⟨g, 1, none⟩ = some (.int .i64 (a : Int)) ∧ w.cell? ⟨g, 2, none⟩ = some (.int .i64 (l : Int)) ∧ w.cell? ⟨g, 3, none⟩ = some (.int .i64 (f : Int)) ∧
    w.frozen? ⟨g, 0, none⟩ = false ∧ w.frozen? ⟨g, 1, none⟩ = false ∧ w.frozen? ⟨g, 2, none⟩ = false ∧ w.frozen? ⟨g, 3, none⟩ = false := by
  refine ⟨?_, ?_, ?_, ?_, frozen_of_row w g 0 _ _ h, frozen_of_row w g 1 _ _ h, frozen_of_row w g 2 _ _ h, frozen_of_row w g 3 _ _ h⟩ <;> (rw [cell_of_row w g _ _ _ (0, 0) h]; rfl)
theorem heap_setCell_row {w : World} {g i : Nat} {cs ds : Array Value} {T : TypeId} {v : Value} (h : w.heap[g]? = some (.cells cs T (0, 0))) (hd : cs.setIfInBounds i v = ds) : (w.setCell ⟨g, i, none⟩ v).heap[g]? = some (.cells ds T (0, 0)) := by
  have hlt := (Array.getElem?_eq_some_iff.1 h).1
  have h' : w.heap[g] = .cells cs T (0, 0) := by simpa [Array.getElem?_eq_getElem hlt] using h
  show (w.heap.modify g _)[g]? = _
  rw [Array.getElem?_eq_getElem (by simpa using hlt), Array.getElem_modify_self, h']
  subst hd
  rfl
theorem Rdr.setAt {w : World} {g : Nat} {s : ByteArray} {a l f a' : Nat} (h : Rdr w g s a l f) : Rdr (w.setCell ⟨g, 1, none⟩ (.int .i64 (a' : Int))) g s a' l f := heap_setCell_row h rfl
theorem Rdr.setLine {w : World} {g : Nat} {s : ByteArray} {a l f l' : Nat} (h : Rdr w g s a l f) : Rdr (w.setCell ⟨g, 2, none⟩ (.int .i64 (l' : Int))) g s a l' f := heap_setCell_row h rfl
theorem Rdr.setFirst {w : World} {g : Nat} {s : ByteArray} {a l f f' : Nat} (h : Rdr w g s a l f) : Rdr (w.setCell ⟨g, 3, none⟩ (.int .i64 (f' : Int))) g s a l f' := heap_setCell_row h rfl
theorem Rdr.drewN {w : World} {g : Nat} {s : ByteArray} {a l f : Nat} (h : Rdr w g s a l f) (n : Nat) : Rdr (w.drewN n) g s a l f := h
theorem grown_refl (w : World) (o : Option Nat) : w.grownBy w o := ⟨rfl, rfl, rfl, Nat.le_refl _, fun _ _ _ => rfl⟩
theorem grown_tr {a b c : World} {g : Nat} (h : a.grownBy b (some g)) (k : b.grownBy c (some g)) : a.grownBy c (some g) :=
  ⟨k.os.trans h.os, k.tape.trans h.tape, k.output.trans h.output, Nat.le_trans h.size k.size, fun i hi hn => (k.block i (Nat.lt_of_lt_of_le hi h.size) hn).trans (h.block i hi hn)⟩
theorem grown_drewN {a w : World} {o : Option Nat} (h : a.grownBy w o) (n : Nat) : a.grownBy (w.drewN n) o := ⟨h.os, h.tape, h.output, h.size, h.block⟩
theorem grown_set {a w : World} {g i : Nat} (h : a.grownBy w (some g)) (v : Value) : a.grownBy (w.setCell ⟨g, i, none⟩ v) (some g) :=
  ⟨h.os, h.tape, h.output, by simp [World.setCell]; exact h.size, fun k hk hn => (Below.heap_setCell _ _ _ _ (fun e => hn (by rw [e]))).trans (h.block k hk hn)⟩
theorem grown_alloc {a w : World} {o : Option Nat} (h : a.grownBy w o) (x : Obj) : a.grownBy (w.alloc x) o :=
  ⟨h.os, h.tape, h.output, by simp; exact Nat.le_succ_of_le h.size, fun k hk hn => (Below.heap_alloc _ _ _ (Nat.lt_of_lt_of_le hk h.size)).trans (h.block k hk hn)⟩
/-- the reader has gone on; all other blocks stay -/
def Adv (w w' : World) (g : Nat) (s : ByteArray) (a l f : Nat) : Prop := w.grownBy w' (some g) ∧ Rdr w' g s a l f
theorem Adv.trans {w w1 w2 : World} {g : Nat} {s : ByteArray} {a l f a' l' f' : Nat} (h : Adv w w1 g s a l f) (k : Adv w1 w2 g s a' l' f') : Adv w w2 g s a' l' f' := ⟨grown_tr h.1 k.1, k.2⟩

/-- the byte at i -/
def cb (s : ByteArray) (i : Nat) : Nat := if h : i < s.size then (s[i]'h).toNat else 0
theorem cb_at {s : ByteArray} {i : Nat} (h : i < s.size) : (s[i]'h).toNat = cb s i := by unfold cb; rw [dif_pos h]
theorem cb_lt (s : ByteArray) (i : Nat) : cb s i ≤ 255 := by
  unfold cb
  split
  · have := (s[i]'(by assumption)).toNat_lt; omega
  · omega

/-- where the reader is -/
def atIn (w : World) (g : Nat) : Nat := match w.cell? ⟨g, 1, none⟩ with | some (.int _ z) => z.toNat | _ => 0
theorem atIn_of {w : World} {g : Nat} {s : ByteArray} {a l f : Nat} (h : Rdr w g s a l f) : atIn w g = a := by
  unfold atIn; rw [h.cells.2.1]; simp

theorem meas_lt {w w' : World} {g : Nat} {s : ByteArray} {a a' l f : Nat} (h : atIn w g = a) (h' : Rdr w' g s a' l f) (h1 : a < a') (h2 : a' ≤ s.size) : s.size - atIn w' g < s.size - atIn w g := by
  rw [h, atIn_of h']; omega

set_option maxRecDepth 100000 in
theorem past_yes (g : Nat) (s : ByteArray) (a l f b : Nat) (w : World) (h : Rdr w g s a l f) (hs : s.size ≤ 1048576) (ha : a < s.size) (hb : cb s a = b) :
    Calls Tryd.prog 55 #[.pointer (some ⟨g, 0, none⟩), .int .u8 (b : Int)] w fun e w' => e = .returned (.bool true) ∧ Adv w w' g s (a + 1) l f := by
  obtain ⟨c0, c1, c2, c3, f0, f1, f2, f3⟩ := h.cells
  have HR := Lib.hid h
  have hbk := cb_at ha
  rw [hb] at hbk
  have e0 : ((a : Int) == (s.size : Int)) = false := ne_i (by omega)
  have hb255 : b ≤ 255 := by rw [← hb]; exact cb_lt s a
  clear hb h
  go_enter Tryd.func55, Tryd.ntmps55
  go_wp2
  go_quiet (fail)
  go_wp2
  go_ret
  exact ⟨rfl, grown_set (grown_drewN (grown_refl _ _) _) _, (HR.out.drewN _).setAt⟩
set_option maxRecDepth 100000 in
theorem past_end (g : Nat) (s : ByteArray) (l f b : Nat) (w : World) (h : Rdr w g s s.size l f) (hs : s.size ≤ 1048576) :
    Calls Tryd.prog 55 #[.pointer (some ⟨g, 0, none⟩), .int .u8 (b : Int)] w fun e w' => e = .returned (.bool false) ∧ Adv w w' g s s.size l f := by
  obtain ⟨c0, c1, c2, c3, f0, f1, f2, f3⟩ := h.cells
  have HR := Lib.hid h
  clear h
  go_enter Tryd.func55, Tryd.ntmps55
  go_wp2
  go_quiet (fail)
  go_wp2
  go_ret
  exact ⟨rfl, grown_drewN (grown_refl _ _) _, HR.out.drewN _⟩
set_option maxRecDepth 100000 in
theorem past_not (g : Nat) (s : ByteArray) (a l f b : Nat) (w : World) (h : Rdr w g s a l f) (hs : s.size ≤ 1048576) (ha : a < s.size) (hb : cb s a ≠ b) :
    Calls Tryd.prog 55 #[.pointer (some ⟨g, 0, none⟩), .int .u8 (b : Int)] w fun e w' => e = .returned (.bool false) ∧ Adv w w' g s a l f := by
  obtain ⟨c0, c1, c2, c3, f0, f1, f2, f3⟩ := h.cells
  have HR := Lib.hid h
  have hbk := cb_at ha
  generalize cb s a = c at *
  have e0 : ((a : Int) == (s.size : Int)) = false := ne_i (by omega)
  have e1 : ((c : Int) != (b : Int)) = true := by rw [bne_iff_ne]; omega
  clear hb h
  go_enter Tryd.func55, Tryd.ntmps55
  go_wp2
  go_quiet (fail)
  go_wp2
  go_ret
  exact ⟨rfl, grown_drewN (grown_refl _ _) _, HR.out.drewN _⟩
/-- past a byte -/
def pastB (s : ByteArray) (a b : Nat) : Bool := decide (a < s.size) && cb s a == b
theorem past_any (g : Nat) (s : ByteArray) (a l f b : Nat) (w : World) (h : Rdr w g s a l f) (hs : s.size ≤ 1048576) (ha : a ≤ s.size) :
    Calls Tryd.prog 55 #[.pointer (some ⟨g, 0, none⟩), .int .u8 (b : Int)] w fun e w' => e = .returned (.bool (pastB s a b)) ∧ Adv w w' g s (if pastB s a b then a + 1 else a) l f := by
  by_cases h1 : a < s.size
  · by_cases h2 : cb s a = b
    · have e : pastB s a b = true := by simp [pastB, h1, h2]
      rw [e]; exact past_yes g s a l f b w h hs h1 h2
    · have e : pastB s a b = false := by simp [pastB, h1, h2]
      rw [e]; exact past_not g s a l f b w h hs h1 h2
  · obtain rfl : a = s.size := by omega
    have e : pastB s s.size b = false := by simp [pastB]
    rw [e]; exact past_end g s l f b w h hs

set_option maxRecDepth 100000 in
theorem newLine_any (g : Nat) (s : ByteArray) (a l f : Nat) (w : World) (h : Rdr w g s a l f) (ha : a ≤ 1048576) (hl : l ≤ 1048577) :
    Calls Tryd.prog 44 #[.pointer (some ⟨g, 0, none⟩)] w fun e w' => e = .returned (.tuple #[]) ∧ Adv w w' g s a (l + 1) (a + 1) := by
  obtain ⟨c0, c1, c2, c3, f0, f1, f2, f3⟩ := h.cells
  have HR := Lib.hid h
  clear h
  go_enter Tryd.func44, Tryd.ntmps44
  go_wp2
  go_end0
  exact ⟨rfl, grown_set (grown_set (grown_refl _ _) _) _, (HR.out.setLine (l' := l + 1)).setFirst⟩
set_option maxRecDepth 100000 in
theorem column_any (g : Nat) (s : ByteArray) (a l f : Nat) (w : World) (h : Rdr w g s a l f) (ha : a ≤ 1048576) (hl : f ≤ a) :
    Calls Tryd.prog 26 #[.pointer (some ⟨g, 0, none⟩)] w fun e w' => e = .returned (.int .i64 ((a - f + 1 : Nat) : Int)) ∧ ∃ n, w' = w.drewN n := by
  obtain ⟨c0, c1, c2, c3, f0, f1, f2, f3⟩ := h.cells
  have E : Hid ((a : Int) - (f : Int) + 1 = ((a - f + 1 : Nat) : Int)) := Lib.hid (by omega)
  clear h
  go_enter Tryd.func26, Tryd.ntmps26
  go_wp2
  go_quiet (fail)
  go_wp2
  go_ret
  exact ⟨ret_z E.out, _, rfl⟩
def OvR (w wr : World) (g : Nat) (s : ByteArray) (P : Nat → Bool) (a l f : Nat) : Prop := ∃ p : Nat, a ≤ p ∧ p ≤ s.size ∧ Adv w wr g s p l f ∧ ∀ i, a ≤ i → i < p → P (cb s i) = true
set_option maxRecDepth 100000 in
theorem comment_any (g : Nat) (s : ByteArray) (a l f : Nat) (w : World) (h : Rdr w g s a l f) (hs : s.size ≤ 1048576) (ha : a ≤ s.size) :
    Calls Tryd.prog 43 #[.pointer (some ⟨g, 0, none⟩)] w fun e w' => e = .returned (.tuple #[]) ∧ ∃ q, a ≤ q ∧ q ≤ s.size ∧ (∀ i, a ≤ i → i < q → (cb s i != 10) = true) ∧ (q = s.size ∨ cb s q = 10) ∧ Adv w w' g s q l f := by
  have HR := Lib.hid h
  clear h
  go_enter Tryd.func43, Tryd.ntmps43
  go_wp2
  go_loopw [] (fun wr => OvR w wr g s (fun c => c != 10) a l f) (fun wr => s.size - atIn wr g)
  case atStart => exact ⟨a, Nat.le_refl _, ha, ⟨grown_refl _ _, HR.out⟩, fun i h1 h2 => by omega⟩
  case round =>
    obtain ⟨p, h1, h2, hadv, hall⟩ := hrel
    have HA := Lib.hid hadv
    have HALL := Lib.hid hall
    have hr := hadv.2
    have HM : Hid (atIn wr g = p) := Lib.hid (atIn_of hr)
    obtain ⟨c0, c1, c2, c3, f0, f1, f2, f3⟩ := hr.cells
    clear hadv hall hr
    by_cases hlt : p < s.size
    · have hbk := cb_at hlt
      by_cases hb : cb s p = 10
      · have HE := Lib.hid hb
        rw [hb] at hbk
        clear hb
        go_wp2
        go_quiet (fail)
        go_wp2
        go_end0
        exact ⟨rfl, p, h1, h2, HALL.out, .inr HE.out, grown_drewN HA.out.1 _, HA.out.2.drewN _⟩
      · have HN : Hid ((cb s p != 10) = true) := Lib.hid (by rw [bne_iff_ne]; exact hb)
        have e1 : ((cb s p : Int) != 10) = true := by rw [bne_iff_ne]; omega
        have HS : Hid (∀ i, a ≤ i → i < p + 1 → (cb s i != 10) = true) := Lib.hid (fun i i1 i2 => by
          by_cases e : i = p
          · subst e; exact HN.out
          · exact HALL.out i i1 (by omega))
        clear hb
        go_wp2
        go_quiet (fail)
        go_wp2
        go_roundw
        case rel => exact ⟨p + 1, by omega, by omega, ⟨grown_set (grown_drewN HA.out.1 _) _, (HA.out.2.drewN _).setAt⟩, HS.out⟩
        case measure => exact meas_lt HM.out ((HA.out.2.drewN _).setAt (a' := p + 1)) (by omega) (by omega)
    · obtain rfl : p = s.size := by omega
      go_wp2
      go_quiet (fail)
      go_wp2
      go_end0
      exact ⟨rfl, s.size, h1, h2, HALL.out, .inl rfl, grown_drewN HA.out.1 _, HA.out.2.drewN _⟩
end Go.Proofs.YtlgcmpiobglbbaaDoor
