/- lexis: over, through, skip, ended. -/
import Derived.Test.YtlgcmpiobglbbaaDoorLD
set_option linter.unusedVariables false
set_option linter.unusedSimpArgs false
namespace Go.Proofs.YtlgcmpiobglbbaaDoor
open Go.RowKit Mth

/-- what the calls of lexis read of the package-level variables -/
structure LexW (w : World) : Prop where
  tab : STab w
  max : ∃ m, w.cell? ⟨2, 0, none⟩ = some (.int .i64 m)
theorem LexW.drewN {w : World} (h : LexW w) (n : Nat) : LexW (w.drewN n) := ⟨h.tab, h.max⟩
theorem LexW.blocks {w w' : World} (h : LexW w) (h1 : w'.heap[(0 : Nat)]? = w.heap[(0 : Nat)]?) (h2 : w'.heap[(2 : Nat)]? = w.heap[(2 : Nat)]?) : LexW w' :=
  ⟨fun j hj => (World.cell?_of_block (w := w) (a := ⟨0, j, none⟩) h1).trans (h.tab j hj), by
    obtain ⟨m, hm⟩ := h.max
    exact ⟨m, (World.cell?_of_block (w := w) (a := ⟨2, 0, none⟩) h2).trans hm⟩⟩
theorem LexW.lt1 {w : World} (h : LexW w) : 0 < w.heap.size := World.block_lt_of_cell? w _ (h.tab 0 (by omega))
theorem LexW.lt2 {w : World} (h : LexW w) : 2 < w.heap.size := by obtain ⟨m, hm⟩ := h.max; exact World.block_lt_of_cell? w _ hm
theorem LexW.below {w w' : World} (h : LexW w) (hb : Below w.heap.size w w') : LexW w' := h.blocks (hb.block _ h.lt1) (hb.block _ h.lt2)
theorem LexW.ne {w : World} (h : LexW w) {g : Nat} {s : ByteArray} {a l f : Nat} (hr : Rdr w g s a l f) : 0 ≠ g ∧ 2 ≠ g := by
  constructor
  · intro e
    have h1 := h.tab 0 (by omega)
    have h2 := hr.cells.1
    rw [← e, h1] at h2; cases h2
  · intro e
    obtain ⟨m, hm⟩ := h.max
    have h2 := hr.cells.1
    rw [← e, hm] at h2; cases h2
theorem LexW.grown {w w' : World} (h : LexW w) {g : Nat} {s : ByteArray} {a l f : Nat} (hr : Rdr w g s a l f) (hg : w.grownBy w' (some g)) : LexW w' :=
  h.blocks (hg.block _ h.lt1 (fun e => (h.ne hr).1 (Option.some.inj e))) (hg.block _ h.lt2 (fun e => (h.ne hr).2 (Option.some.inj e)))

/-- of the kinds k -/
def kin (k : Nat) (c : Nat) : Bool := bits BinOp.and IntKind.i64 ((bKinds c : Nat) : Int) (k : Int) != 0
theorem kinds_cases (c : Nat) : (bKinds c = 15 ∧ bBin c = true ∧ bDig c = true ∧ bHex c = true ∧ bSimple c = true) ∨ (bKinds c = 14 ∧ bBin c = false ∧ bDig c = true ∧ bHex c = true ∧ bSimple c = true) ∨
    (bKinds c = 12 ∧ bBin c = false ∧ bDig c = false ∧ bHex c = true ∧ bSimple c = true) ∨ (bKinds c = 8 ∧ bBin c = false ∧ bDig c = false ∧ bHex c = false ∧ bSimple c = true) ∨ (bKinds c = 0 ∧ bBin c = false ∧ bDig c = false ∧ bHex c = false ∧ bSimple c = false) := by
  have e1 : bBin c = true → bDig c = true := by rw [bBin_iff, bDig_iff]; omega
  have e2 : bDig c = true → bHex c = true := by rw [bDig_iff, bHex_iff]; omega
  have e3 : bHex c = true → bSimple c = true := by
    rw [bHex_iff, bSimple_iff]
    intro h
    rcases h with h | h | h
    · exact .inr (.inr (.inl h))
    · exact .inl ⟨h.1, by omega⟩
    · exact .inr (.inl ⟨h.1, by omega⟩)
  unfold bKinds
  cases h1 : bBin c <;> cases h2 : bDig c <;> cases h3 : bHex c <;> cases h4 : bSimple c <;> simp_all
theorem kin_bin (c : Nat) : kin 1 c = bBin c := by
  unfold kin; rcases kinds_cases c with ⟨h, h1, _⟩ | ⟨h, h1, _⟩ | ⟨h, h1, _⟩ | ⟨h, h1, _⟩ | ⟨h, h1, _⟩ <;> (rw [h, h1]; decide)
theorem kin_dig (c : Nat) : kin 2 c = bDig c := by
  unfold kin; rcases kinds_cases c with ⟨h, _, h1, _⟩ | ⟨h, _, h1, _⟩ | ⟨h, _, h1, _⟩ | ⟨h, _, h1, _⟩ | ⟨h, _, h1, _⟩ <;> (rw [h, h1]; decide)
theorem kin_hex (c : Nat) : kin 4 c = bHex c := by
  unfold kin; rcases kinds_cases c with ⟨h, _, _, h1, _⟩ | ⟨h, _, _, h1, _⟩ | ⟨h, _, _, h1, _⟩ | ⟨h, _, _, h1, _⟩ | ⟨h, _, _, h1, _⟩ <;> (rw [h, h1]; decide)
theorem kin_simple (c : Nat) : kin 8 c = bSimple c := by
  unfold kin; rcases kinds_cases c with ⟨h, _, _, _, h1⟩ | ⟨h, _, _, _, h1⟩ | ⟨h, _, _, _, h1⟩ | ⟨h, _, _, _, h1⟩ | ⟨h, _, _, _, h1⟩ <;> (rw [h, h1]; decide)
theorem kin_none (c : Nat) : kin 0 c = false := by
  unfold kin; rcases kinds_cases c with ⟨h, _⟩ | ⟨h, _⟩ | ⟨h, _⟩ | ⟨h, _⟩ | ⟨h, _⟩ <;> (rw [h]; decide)

/-- from a to q are bytes of the kind, and no more -/
def RunTo (s : ByteArray) (P : Nat → Bool) (a q : Nat) : Prop := a ≤ q ∧ q ≤ s.size ∧ (∀ i, a ≤ i → i < q → P (cb s i) = true) ∧ (q = s.size ∨ P (cb s q) = false)
theorem run_more {s : ByteArray} {P : Nat → Bool} {a p : Nat} (h : ∀ i, a ≤ i → i < p → P (cb s i) = true) (hp : P (cb s p) = true) : ∀ i, a ≤ i → i < p + 1 → P (cb s i) = true := by
  intro i i1 i2
  by_cases e : i = p
  · subst e; exact hp
  · exact h i i1 (by omega)
def OverO (w w' : World) (g : Nat) (s : ByteArray) (P : Nat → Bool) (a l f : Nat) (e : Ending) : Prop := ∃ q, e = .returned (.int .i64 ((q - a : Nat) : Int)) ∧ RunTo s P a q ∧ Adv w w' g s q l f
set_option maxRecDepth 100000 in
theorem over_any (g : Nat) (s : ByteArray) (a l f k : Nat) (w : World) (h : Rdr w g s a l f) (hL : LexW w) (hs : s.size ≤ 1048576) (ha : a ≤ s.size) :
    Calls Tryd.prog 56 #[.pointer (some ⟨g, 0, none⟩), .int .i64 (k : Int)] w fun e w' => OverO w w' g s (kin k) a l f e := by
  have HR := Lib.hid h
  have HL := Lib.hid hL
  obtain ⟨c0, c1, c2, c3, f0, f1, f2, f3⟩ := h.cells
  clear h hL
  go_enter Tryd.func56, Tryd.ntmps56
  go_wp2
  go_loopw [] (fun wr => OvR w wr g s (kin k) a l f) (fun wr => s.size - atIn wr g)
  case atStart => exact ⟨a, Nat.le_refl _, ha, ⟨grown_refl _ _, HR.out⟩, fun i h1 h2 => by omega⟩
  case round =>
    obtain ⟨p, h1, h2, hadv, hall⟩ := hrel
    have HA := Lib.hid hadv
    have HALL := Lib.hid hall
    have hr := hadv.2
    have HM : Hid (atIn wr g = p) := Lib.hid (atIn_of hr)
    have HLw := Lib.hid (HL.out.grown HR.out hadv.1)
    obtain ⟨d0, d1, d2, d3, g0, g1, g2, g3⟩ := hr.cells
    have EQ : Hid ((p : Int) - (a : Int) = ((p - a : Nat) : Int)) := Lib.hid (by omega)
    clear hadv hall hr c0 c1 c2 c3 f0 f1 f2 f3
    by_cases hlt : p < s.size
    · have hbk := cb_at hlt
      have KO : Hid (∀ n, Calls Tryd.prog 45 #[.int .u8 ((cb s p : Nat) : Int)] (wr.drewN n) fun e w' => e = .returned (.int .i64 ((bKinds (cb s p) : Nat) : Int)) ∧ w' = wr.drewN n) :=
        Lib.hid (fun n => (kindsOf_any _ (cb_lt s p) _ (HLw.out.drewN n).tab).mono fun _ _ ⟨x, y⟩ => ⟨x, y.symm⟩)
      rcases Bool.eq_false_or_eq_true (kin k (cb s p)) with hb | hb
      · have HS := Lib.hid (run_more HALL.out hb)
        unfold kin at hb
        go_wp2
        go_quiet ((go_at_call 45; exact Calls.quiet_of_same (KO.out _)))
        go_wp2
        go_roundw
        case rel => exact ⟨p + 1, by omega, by omega, ⟨grown_set (grown_drewN HA.out.1 _) _, (HA.out.2.drewN _).setAt⟩, HS.out⟩
        case measure => exact meas_lt HM.out ((HA.out.2.drewN _).setAt (a' := p + 1)) (by omega) (by omega)
      · have HE := Lib.hid hb
        unfold kin at hb
        go_wp2
        go_quiet ((go_at_call 45; exact Calls.quiet_of_same (KO.out _)))
        go_wp2
        go_ret
        exact ⟨p, ret_z EQ.out, ⟨h1, h2, HALL.out, .inr HE.out⟩, grown_drewN HA.out.1 _, HA.out.2.drewN _⟩
    · obtain rfl : p = s.size := by omega
      go_wp2
      go_quiet (fail)
      go_wp2
      go_ret
      exact ⟨s.size, ret_z EQ.out, ⟨h1, h2, HALL.out, .inl rfl⟩, grown_drewN HA.out.1 _, HA.out.2.drewN _⟩
end Go.Proofs.YtlgcmpiobglbbaaDoor
