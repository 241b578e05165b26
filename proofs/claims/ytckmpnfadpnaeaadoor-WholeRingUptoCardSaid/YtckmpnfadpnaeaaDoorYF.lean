/- tribunalref02: cmpD. -/
import Derived.Test.YtckmpnfadpnaeaaDoorYE
import Derived.Test.YtckmpnfadpnaeaaDoorRF
set_option linter.unusedVariables false
set_option linter.unusedSimpArgs false
namespace Go.Proofs.YtckmpnfadpnaeaaDoor
open Go.RowKit Mth

set_option maxHeartbeats 2000000 in
set_option maxRecDepth 100000 in
theorem cmpD_any (v1 v2 : Value) (ts us : List Nat) (w : World) (hs1 : Sl w .u16 v1 ts) (hs2 : Sl w .u16 v2 us) (l1 : Lim B16 ts) (l2 : Lim B16 us) (t1 : Top ts) (t2 : Top us) :
    Calls Tryd.prog 72 #[v1, v2] w fun e w' => e = .returned (.int .i64 (cmp3 (val B16 ts) (val B16 us))) ∧ Below w.heap.size w w' := by
  have HK1 := Lib.hid l1; have HK2 := Lib.hid l2; have HP1 := Lib.hid t1; have HP2 := Lib.hid t2
  clear l1 l2 t1 t2
  have hl1 := hs1.len
  have hl2 := hs2.len
  by_cases hlt : ts.length < us.length
  · have E := Lib.hid (cmp_lt (val_lt_of_length B16_pos HK1.out HP2.out hlt))
    have hd : ((ts.length : Int) == (us.length : Int)) = false := by rw [beq_eq_false_iff_ne]; omega
    obtain ⟨a1, c1, rfl⟩ := hs1.shape
    obtain ⟨a2, c2, rfl⟩ := hs2.shape
    clear hs1 hs2
    go_enter Tryd.func72, Tryd.ntmps72
    go_wp2
    go_ret
    exact ⟨by rw [E.out]; rfl, Below.refl _ _⟩
  · by_cases hgt : us.length < ts.length
    · have E := Lib.hid (cmp_gt (val_lt_of_length B16_pos HK2.out HP1.out hgt))
      have hd : ((ts.length : Int) == (us.length : Int)) = false := by rw [beq_eq_false_iff_ne]; omega
      obtain ⟨a1, c1, rfl⟩ := hs1.shape
      obtain ⟨a2, c2, rfl⟩ := hs2.shape
      clear hs1 hs2
      go_enter Tryd.func72, Tryd.ntmps72
      go_wp2
      go_ret
      exact ⟨by rw [E.out]; rfl, Below.refl _ _⟩
    · have hle : ts.length = us.length := by omega
      have HLE := Lib.hid hle
      obtain ⟨a1, c1, rfl, q1, q2, q3, q4, hc1⟩ := hs1
      obtain ⟨a2, c2, rfl, r1, r2, r3, r4, hc2⟩ := hs2
      have HC1 := Lib.hid hc1; have HC2 := Lib.hid hc2
      have hd0 : ((ts.length : Int) == (us.length : Int)) = true := by rw [beq_iff_eq]; omega
      unfold maxLen at q2 r2
      clear hle hc1 hc2 q4 r4
      go_enter Tryd.func72, Tryd.ntmps72
      go_wp2
      go_loopw [5] (fun i wr => ∃ m : Nat, m ≤ ts.length ∧ i = .int .i64 ((m : Int) - 1) ∧ val B16 (ts.drop m) = val B16 (us.drop m) ∧ Below w.heap.size w wr) (fun i _ => (intOf i + 1).toNat)
      case atStart => exact ⟨ts.length, Nat.le_refl _, rfl, by rw [List.drop_length, HLE.out, List.drop_length], Below.refl _ _⟩
      case round =>
        obtain ⟨m, hm, rfl, heq, hbel⟩ := hrel
        by_cases h0 : 0 < m
        · obtain ⟨k, rfl⟩ : ∃ k, m = k + 1 := ⟨m - 1, by omega⟩
          rw [show (((k + 1 : Nat) : Int) - 1) = (k : Int) by omega]
          have hu : k < us.length := by have := HLE.out; omega
          obtain ⟨b1, o1, rfl, hb1, hd1⟩ := HC1.out (by omega)
          obtain ⟨b2, o2, rfl, hb2, hd2⟩ := HC2.out (by omega)
          have ck1 : wr.cell? ⟨b1, o1 + k, none⟩ = some (.int .u16 ((ts.getD k 0 : Nat) : Int)) := (hbel.cell (p := ⟨b1, o1 + k, none⟩) hb1).trans (hd1 k (by omega))
          have ck2 : wr.cell? ⟨b2, o2 + k, none⟩ = some (.int .u16 ((us.getD k 0 : Nat) : Int)) := (hbel.cell (p := ⟨b2, o2 + k, none⟩) hb2).trans (hd2 k hu)
          have HB := Lib.hid hbel; have HEQ := Lib.hid heq
          have V1 := Lib.hid (fun h => val_lt_of_top (by have := B16_pos; omega) HK1.out (show k < ts.length by omega) hu heq h)
          have V2 := Lib.hid (fun h => val_lt_of_top (by have := B16_pos; omega) HK2.out hu (show k < ts.length by omega) heq.symm h)
          have V3 : Hid (ts.getD k 0 = us.getD k 0 → val B16 (ts.drop k) = val B16 (us.drop k)) := Lib.hid fun h => by rw [val_drop B16 ts k (by omega), val_drop B16 us k hu, heq, h]
          clear hd1 hd2 hbel heq hm h0
          generalize ts.getD k 0 = x at *
          generalize us.getD k 0 = y at *
          have hkl : k < ts.length := by omega
          by_cases hxy : x < y
          · have E := Lib.hid (cmp_lt (V1.out hxy))
            have hd : decide ((x : Int) < (y : Int)) = true := decide_eq_true (by omega)
            go_wp2
            go_quiet (fail)
            go_wp2
            go_ret
            exact ⟨by rw [E.out]; rfl, bdrawn HB.out _⟩
          · by_cases hyx : y < x
            · have E := Lib.hid (cmp_gt (V2.out hyx))
              have hd : decide ((x : Int) < (y : Int)) = false := decide_eq_false (by omega)
              have hd' : decide ((y : Int) < (x : Int)) = true := decide_eq_true (by omega)
              go_wp2
              go_quiet (fail)
              go_wp2
              go_quiet (fail)
              go_wp2
              go_ret
              exact ⟨by rw [E.out]; rfl, bdrawn (bdrawn HB.out _) _⟩
            · have E := Lib.hid (V3.out (by omega))
              have hd : decide ((x : Int) < (y : Int)) = false := decide_eq_false (by omega)
              have hd' : decide ((y : Int) < (x : Int)) = false := decide_eq_false (by omega)
              go_wp2
              go_quiet (fail)
              go_wp2
              go_quiet (fail)
              go_wp2
              go_roundw
              case rel => exact ⟨k, by omega, by go_num, E.out, bdrawn HB.out _⟩
              case measure => simp [intOf]
        · obtain rfl : m = 0 := by omega
          have HB := Lib.hid hbel
          have E : Hid (cmp3 (val B16 ts) (val B16 us) = 0) := Lib.hid (cmp_eq (by simpa using heq))
          clear hbel heq hm h0
          go_wp2
          go_ret
          exact ⟨by rw [E.out]; rfl, HB.out⟩
end Go.Proofs.YtckmpnfadpnaeaaDoor
