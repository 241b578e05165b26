/- tribunalref09: Parse (gen9x.py). -/
import Derived.Test.YtccofiakblmkhaaGreatP9NP9
set_option linter.unusedVariables false
set_option linter.unusedSimpArgs false
namespace Go.Proofs.YtccofiakblmkhaaGreat
open Go.RowKit Mth

theorem dig_bit : ∀ d : Nat, d < 16 → ∀ j : Nat, j < 4 → (bits BinOp.and IntKind.i64 ((d : Int) / 2 ^ j) 1 == 1) = decide (d / 2 ^ j % 2 = 1) := by decide +kernel
def POut (W wr : World) (s t : ByteArray) (e b : Nat) (v iv : Value) : Prop := ∃ (k i : Nat) (l : List Bool), RdI t e b k l ∧ i + 1 + k = s.size ∧ iv = .int .i64 (i : Int) ∧ wr.ownsRow W.heap.size 4 1 v l.length (bcells l) ∧ Below W.heap.size W wr
def PIn (W wr : World) (l : List Bool) (d e : Nat) (v jv : Value) : Prop := ∃ j : Nat, j ≤ e ∧ jv = .int .i64 (j : Int) ∧ wr.ownsRow W.heap.size 4 1 v (l ++ digB d j).length (bcells (l ++ digB d j)) ∧ Below W.heap.size W wr
set_option maxHeartbeats 16000000 in
set_option maxRecDepth 100000 in
theorem rparse9_b (s t : ByteArray) (hs : s.size ≤ 4098) (hts : t.size + 2 = s.size) (ht0 : t.size ≠ 0) (hb0 : bt s 0 = 35) (hb1 : bt s 1 = 98) (hbt : ∀ i, i < t.size → bt t i = bt s (i + 2))
    (w : World) (x er : Int) (n : Nat) (hok : okD t 2 → ((1 * t.size ≤ 4096 → x = ((1 * t.size : Nat) : Int) ∧ er = 0 ∧ n = pv t 2 t.size) ∧ (4096 < 1 * t.size → x = 0 ∧ er = 55 ∧ n = 0))) (hno : ¬ okD t 2 → x = 0 ∧ er = 13 ∧ n = 0) :
    Calls Tryz.prog 30 #[.string s] w fun e' w' => ResN w w' e' x er n := by
  obtain ⟨W, eW, gW, bW, hWs⟩ := alloc1n w (Obj.cells #[.int .i64 0, .slice none 0 0] 28)
  have GW := Lib.hid gW; have BW := Lib.hid bW; have EW := Lib.hid eW
  have HOK := Lib.hid hok; have HNO := Lib.hid hno; have HBT := Lib.hid hbt; have HT0 := Lib.hid ht0
  have hs1 : (s.size : Int) ≤ 4098 := by omega
  have hs2 : (3 : Int) ≤ (s.size : Int) := by omega
  have l0 : 0 < s.size := by omega
  have l1 : 1 < s.size := by omega
  have b0 := bt_at l0
  have b1 := bt_at l1
  rw [hb0] at b0
  rw [hb1] at b1
  have RS := Lib.hid (rd_start t 1 2)
  have hts1 : t.size + 2 ≤ s.size := by omega
  have hts2 : s.size ≤ t.size + 2 := by omega
  clear gW bW eW hok hno hbt ht0 hb0 hb1 hts hs
  go_enter Tryz.func30, Tryz.ntmps30
  go_upto_region 1 with fail
  rw [EW.out]
  go_wp2_with fail
  go_loopw [5, 6] (fun v i wr => POut W wr s t 1 2 v i) (fun _ i _ => (intOf i).toNat)
  case atStart => exact ⟨0, s.size - 1, [], RS.out, by omega, congrArg (Value.int .i64) (by omega), World.ownsRow_nil _ _ _ _, Below.refl _ _⟩
  case round =>
    obtain ⟨k, i, l, hR, hik, rfl, hown, hbel⟩ := hrel
    have HR := Lib.hid hR; have HO := Lib.hid hown; have HB := Lib.hid hbel
    have hik1 : i + 1 + k ≤ s.size := by omega
    have hik2 : s.size ≤ i + 1 + k := by omega
    have hll := hR.len
    have hkl := hR.le
    have HLL : Hid (l.length ≤ 65536) := Lib.hid (by omega)
    clear hR hown hbel hik hll hkl
    by_cases hi2 : 2 ≤ i
    · have hil : i < s.size := by omega
      have hkt : k < t.size := by omega
      have hbi := bt_at hil
      have hbe : bt t (t.size - 1 - k) = bt s i := by rw [HBT.out _ (by omega)]; congr 1; omega
      have hb255 := bt_lt s i
      have HW := Lib.hid (fun w => worth_any (bt s i) hb255 w)
      have hi3 : (2 : Int) ≤ (i : Int) := by omega
      by_cases hok : dgv (bt s i) < 2
      · have NS := Lib.hid (rd_step HR.out (by decide) hkt (by rw [hbe]; exact hok))
        rw [hbe] at NS
        have hdb : dgB (bt s i) = ((dgv (bt s i) : Nat) : Int) := by unfold dgB; rw [if_neg (by omega)]
        rw [hdb] at HW
        generalize dgv (bt s i) = d at *
        have hd1 : (d : Int) < 2 := by omega
        have hd0 : (0 : Int) ≤ (d : Int) := by omega
        clear hdb hbe hb255 hkt
        go_wp2_with fail
        refine (HW.out _).mono ?_
        rintro e w' ⟨rfl, rfl⟩
        go_wp2_with fail
        go_loopw [5, 8] (fun v j wr => PIn W wr l d 1 v j) (fun _ j _ => 1 - (intOf j).toNat)
        case atStart => exact ⟨0, by omega, rfl, by simpa [digB] using HO.out, HB.out⟩
        case round =>
          obtain ⟨j, hj, rfl, hown, hbel⟩ := hrel
          have HO2 := Lib.hid hown; have HB2 := Lib.hid hbel
          clear hown hbel
          by_cases hje : j < 1
          · have hje2 : (j : Int) < 1 := by omega
            have hbit := dig_bit d (by omega) j (by omega)
            have HLN : Hid ((l ++ digB d j).length ≤ 16777216) := Lib.hid (by rw [List.length_append, digB_len]; have := HLL.out; omega)
            go_wp2_with (refine append_bool (o := ⟨some 69, _, _, _, _, _⟩) rfl _ _ rfl W.heap.size _ _ (decide (d / 2 ^ j % 2 = 1)) ⟨wr.heap.size, 0, none⟩ rfl rfl (HO2.out.alloc _) (World.cell?_alloc_new _ _ _ _) HLN.out (by have := HB2.out.size; simp; omega) ?_; intro v' w1 hown1 hg1)
            have HO3 := Lib.hid hown1
            have HB3 := Lib.hid (below_own (HB2.out.alloc HB2.out.size _) (HO2.out.alloc _) hg1 (by have := HB2.out.size; simp; omega))
            clear hown1 hg1 hbit
            go_wp2
            go_roundw
            case rel =>
              refine ⟨j + 1, by omega, by go_num, ?_, HB3.out⟩
              have h := HO3.out
              rw [List.append_assoc, ← digB_succ] at h
              exact h
            case measure => simp [intOf]; omega
          · obtain rfl : j = 1 := by omega
            go_wp2_with fail
            go_roundw
            case rel => exact ⟨k + 1, i - 1, _, NS.out, by omega, congrArg (Value.int .i64) (by omega), HO2.out, HB2.out⟩
            case measure => simp [intOf]; omega
      · have hbad : ¬ okD t 2 := fun h => hok (by rw [← hbe]; exact h.2 _ (by omega))
        have E := Lib.hid (HNO.out hbad)
        have GR := Lib.hid (car HB.out GW.out)
        have BR := Lib.hid (below_of BW.out HB.out)
        obtain ⟨q0, q1, r0, r1, _⟩ := blk2 GR.out
        rcases dgv_le (bt s i) with h9 | h9
        · have hdb : dgB (bt s i) = -1 := by unfold dgB; rw [if_pos h9]
          rw [hdb] at HW
          clear hdb h9 hok hbe hbad
          go_wp2_with fail
          refine (HW.out _).mono ?_
          rintro e w' ⟨rfl, rfl⟩
          go_wp2
          exact bodyPost_ret (results_bte rfl rfl rfl (set2_row _ _ GR.out)) rfl ⟨none, 0, 0, by rw [E.out.1, E.out.2.1] <;> rfl, by rw [E.out.2.2]; exact slN_nil _, (BR.out.setCell (Nat.le_refl _) _).setCell (Nat.le_refl _) _⟩
        · have hdb : dgB (bt s i) = ((dgv (bt s i) : Nat) : Int) := by unfold dgB; rw [if_neg (by omega)]
          rw [hdb] at HW
          generalize dgv (bt s i) = d at *
          have hd1 : (2 : Int) ≤ (d : Int) := by omega
          have hd0 : (0 : Int) ≤ (d : Int) := by omega
          clear hdb hok hbe hbad h9
          go_wp2_with fail
          refine (HW.out _).mono ?_
          rintro e w' ⟨rfl, rfl⟩
          go_wp2
          exact bodyPost_ret (results_bte rfl rfl rfl (set2_row _ _ GR.out)) rfl ⟨none, 0, 0, by rw [E.out.1, E.out.2.1] <;> rfl, by rw [E.out.2.2]; exact slN_nil _, (BR.out.setCell (Nat.le_refl _) _).setCell (Nat.le_refl _) _⟩
    · obtain rfl : k = t.size := by have := HR.out.le; omega
      obtain ⟨e1, e2, e3⟩ := rd_end HR.out HT0.out
      have E1 := Lib.hid (HOK.out e1)
      have GR0 := Lib.hid (car HB.out GW.out)
      have BR := Lib.hid (below_of BW.out HB.out)
      have hi3 : ¬ (2 : Int) ≤ (i : Int) := by omega
      have HLv := Lib.hid e3
      have HV := Lib.hid e2
      have MK := Lib.hid (make9_any _ l (by have := HLL.out; omega) wr (own_bol HO.out))
      obtain ⟨ao, cap, rfl, -⟩ := own_bol HO.out
      by_cases hfit : l.length ≤ 4096
      · have E := Lib.hid (E1.out.1 (by rw [← e3]; exact hfit))
        have hfi : (l.length : Int) ≤ 4096 := by omega
        clear e1 e2 e3 hfit
        go_wp2_with fail
        refine MK.out.mono ?_
        rintro e w' ⟨a, k2, c, rfl, hs3, hb3⟩
        have S3 := Lib.hid hs3
        have GR := Lib.hid (car hb3 GR0.out)
        have B3 := Lib.hid (below_of BR.out hb3)
        obtain ⟨q0, q1, r0, r1, _⟩ := blk2 GR.out
        clear hs3 hb3
        go_wp2
        exact bodyPost_ret (results_bte rfl rfl rfl (set2_row _ _ GR.out)) rfl ⟨_, _, _, by rw [E.out.1, E.out.2.1, ← HLv.out] <;> rfl, by rw [E.out.2.2, ← HV.out]; exact S3.out.far GR.out ns_u64, (B3.out.setCell (Nat.le_refl _) _).setCell (Nat.le_refl _) _⟩
      · have E := Lib.hid (E1.out.2 (by rw [← e3]; omega))
        have hfi : (4096 : Int) < (l.length : Int) := by omega
        obtain ⟨q0, q1, r0, r1, _⟩ := blk2 GR0.out
        clear e1 e2 e3 hfit
        go_wp2_with fail
        exact bodyPost_ret (results_bte rfl rfl rfl (set2_row _ _ GR0.out)) rfl ⟨none, 0, 0, by rw [E.out.1, E.out.2.1] <;> rfl, by rw [E.out.2.2]; exact slN_nil _, (BR.out.setCell (Nat.le_refl _) _).setCell (Nat.le_refl _) _⟩
set_option maxHeartbeats 16000000 in
set_option maxRecDepth 100000 in
theorem rparse9_x (s t : ByteArray) (hs : s.size ≤ 4098) (hts : t.size + 2 = s.size) (ht0 : t.size ≠ 0) (hb0 : bt s 0 = 35) (hb1 : bt s 1 = 120) (hbt : ∀ i, i < t.size → bt t i = bt s (i + 2))
    (w : World) (x er : Int) (n : Nat) (hok : okD t 16 → ((4 * t.size ≤ 4096 → x = ((4 * t.size : Nat) : Int) ∧ er = 0 ∧ n = pv t 16 t.size) ∧ (4096 < 4 * t.size → x = 0 ∧ er = 55 ∧ n = 0))) (hno : ¬ okD t 16 → x = 0 ∧ er = 13 ∧ n = 0) :
    Calls Tryz.prog 30 #[.string s] w fun e' w' => ResN w w' e' x er n := by
  obtain ⟨W, eW, gW, bW, hWs⟩ := alloc1n w (Obj.cells #[.int .i64 0, .slice none 0 0] 28)
  have GW := Lib.hid gW; have BW := Lib.hid bW; have EW := Lib.hid eW
  have HOK := Lib.hid hok; have HNO := Lib.hid hno; have HBT := Lib.hid hbt; have HT0 := Lib.hid ht0
  have hs1 : (s.size : Int) ≤ 4098 := by omega
  have hs2 : (3 : Int) ≤ (s.size : Int) := by omega
  have l0 : 0 < s.size := by omega
  have l1 : 1 < s.size := by omega
  have b0 := bt_at l0
  have b1 := bt_at l1
  rw [hb0] at b0
  rw [hb1] at b1
  have RS := Lib.hid (rd_start t 4 16)
  have hts1 : t.size + 2 ≤ s.size := by omega
  have hts2 : s.size ≤ t.size + 2 := by omega
  clear gW bW eW hok hno hbt ht0 hb0 hb1 hts hs
  go_enter Tryz.func30, Tryz.ntmps30
  go_upto_region 1 with fail
  rw [EW.out]
  go_wp2_with fail
  go_loopw [5, 6] (fun v i wr => POut W wr s t 4 16 v i) (fun _ i _ => (intOf i).toNat)
  case atStart => exact ⟨0, s.size - 1, [], RS.out, by omega, congrArg (Value.int .i64) (by omega), World.ownsRow_nil _ _ _ _, Below.refl _ _⟩
  case round =>
    obtain ⟨k, i, l, hR, hik, rfl, hown, hbel⟩ := hrel
    have HR := Lib.hid hR; have HO := Lib.hid hown; have HB := Lib.hid hbel
    have hik1 : i + 1 + k ≤ s.size := by omega
    have hik2 : s.size ≤ i + 1 + k := by omega
    have hll := hR.len
    have hkl := hR.le
    have HLL : Hid (l.length ≤ 65536) := Lib.hid (by omega)
    clear hR hown hbel hik hll hkl
    by_cases hi2 : 2 ≤ i
    · have hil : i < s.size := by omega
      have hkt : k < t.size := by omega
      have hbi := bt_at hil
      have hbe : bt t (t.size - 1 - k) = bt s i := by rw [HBT.out _ (by omega)]; congr 1; omega
      have hb255 := bt_lt s i
      have HW := Lib.hid (fun w => worth_any (bt s i) hb255 w)
      have hi3 : (2 : Int) ≤ (i : Int) := by omega
      by_cases hok : dgv (bt s i) < 16
      · have NS := Lib.hid (rd_step HR.out (by decide) hkt (by rw [hbe]; exact hok))
        rw [hbe] at NS
        have hdb : dgB (bt s i) = ((dgv (bt s i) : Nat) : Int) := by unfold dgB; rw [if_neg (by omega)]
        rw [hdb] at HW
        generalize dgv (bt s i) = d at *
        have hd1 : (d : Int) < 16 := by omega
        have hd0 : (0 : Int) ≤ (d : Int) := by omega
        clear hdb hbe hb255 hkt
        go_wp2_with fail
        refine (HW.out _).mono ?_
        rintro e w' ⟨rfl, rfl⟩
        go_wp2_with fail
        go_loopw [5, 8] (fun v j wr => PIn W wr l d 4 v j) (fun _ j _ => 4 - (intOf j).toNat)
        case atStart => exact ⟨0, by omega, rfl, by simpa [digB] using HO.out, HB.out⟩
        case round =>
          obtain ⟨j, hj, rfl, hown, hbel⟩ := hrel
          have HO2 := Lib.hid hown; have HB2 := Lib.hid hbel
          clear hown hbel
          by_cases hje : j < 4
          · have hje2 : (j : Int) < 4 := by omega
            have hbit := dig_bit d (by omega) j (by omega)
            have HLN : Hid ((l ++ digB d j).length ≤ 16777216) := Lib.hid (by rw [List.length_append, digB_len]; have := HLL.out; omega)
            go_wp2_with (refine append_bool (o := ⟨some 69, _, _, _, _, _⟩) rfl _ _ rfl W.heap.size _ _ (decide (d / 2 ^ j % 2 = 1)) ⟨wr.heap.size, 0, none⟩ rfl rfl (HO2.out.alloc _) (World.cell?_alloc_new _ _ _ _) HLN.out (by have := HB2.out.size; simp; omega) ?_; intro v' w1 hown1 hg1)
            have HO3 := Lib.hid hown1
            have HB3 := Lib.hid (below_own (HB2.out.alloc HB2.out.size _) (HO2.out.alloc _) hg1 (by have := HB2.out.size; simp; omega))
            clear hown1 hg1 hbit
            go_wp2
            go_roundw
            case rel =>
              refine ⟨j + 1, by omega, by go_num, ?_, HB3.out⟩
              have h := HO3.out
              rw [List.append_assoc, ← digB_succ] at h
              exact h
            case measure => simp [intOf]; omega
          · obtain rfl : j = 4 := by omega
            go_wp2_with fail
            go_roundw
            case rel => exact ⟨k + 1, i - 1, _, NS.out, by omega, congrArg (Value.int .i64) (by omega), HO2.out, HB2.out⟩
            case measure => simp [intOf]; omega
      · have hbad : ¬ okD t 16 := fun h => hok (by rw [← hbe]; exact h.2 _ (by omega))
        have E := Lib.hid (HNO.out hbad)
        have GR := Lib.hid (car HB.out GW.out)
        have BR := Lib.hid (below_of BW.out HB.out)
        obtain ⟨q0, q1, r0, r1, _⟩ := blk2 GR.out
        rcases dgv_le (bt s i) with h9 | h9
        · have hdb : dgB (bt s i) = -1 := by unfold dgB; rw [if_pos h9]
          rw [hdb] at HW
          clear hdb h9 hok hbe hbad
          go_wp2_with fail
          refine (HW.out _).mono ?_
          rintro e w' ⟨rfl, rfl⟩
          go_wp2
          exact bodyPost_ret (results_bte rfl rfl rfl (set2_row _ _ GR.out)) rfl ⟨none, 0, 0, by rw [E.out.1, E.out.2.1] <;> rfl, by rw [E.out.2.2]; exact slN_nil _, (BR.out.setCell (Nat.le_refl _) _).setCell (Nat.le_refl _) _⟩
        · have hdb : dgB (bt s i) = ((dgv (bt s i) : Nat) : Int) := by unfold dgB; rw [if_neg (by omega)]
          rw [hdb] at HW
          generalize dgv (bt s i) = d at *
          have hd1 : (16 : Int) ≤ (d : Int) := by omega
          have hd0 : (0 : Int) ≤ (d : Int) := by omega
          clear hdb hok hbe hbad h9
          go_wp2_with fail
          refine (HW.out _).mono ?_
          rintro e w' ⟨rfl, rfl⟩
          go_wp2
          exact bodyPost_ret (results_bte rfl rfl rfl (set2_row _ _ GR.out)) rfl ⟨none, 0, 0, by rw [E.out.1, E.out.2.1] <;> rfl, by rw [E.out.2.2]; exact slN_nil _, (BR.out.setCell (Nat.le_refl _) _).setCell (Nat.le_refl _) _⟩
    · obtain rfl : k = t.size := by have := HR.out.le; omega
      obtain ⟨e1, e2, e3⟩ := rd_end HR.out HT0.out
      have E1 := Lib.hid (HOK.out e1)
      have GR0 := Lib.hid (car HB.out GW.out)
      have BR := Lib.hid (below_of BW.out HB.out)
      have hi3 : ¬ (2 : Int) ≤ (i : Int) := by omega
      have HLv := Lib.hid e3
      have HV := Lib.hid e2
      have MK := Lib.hid (make9_any _ l (by have := HLL.out; omega) wr (own_bol HO.out))
      obtain ⟨ao, cap, rfl, -⟩ := own_bol HO.out
      by_cases hfit : l.length ≤ 4096
      · have E := Lib.hid (E1.out.1 (by rw [← e3]; exact hfit))
        have hfi : (l.length : Int) ≤ 4096 := by omega
        clear e1 e2 e3 hfit
        go_wp2_with fail
        refine MK.out.mono ?_
        rintro e w' ⟨a, k2, c, rfl, hs3, hb3⟩
        have S3 := Lib.hid hs3
        have GR := Lib.hid (car hb3 GR0.out)
        have B3 := Lib.hid (below_of BR.out hb3)
        obtain ⟨q0, q1, r0, r1, _⟩ := blk2 GR.out
        clear hs3 hb3
        go_wp2
        exact bodyPost_ret (results_bte rfl rfl rfl (set2_row _ _ GR.out)) rfl ⟨_, _, _, by rw [E.out.1, E.out.2.1, ← HLv.out] <;> rfl, by rw [E.out.2.2, ← HV.out]; exact S3.out.far GR.out ns_u64, (B3.out.setCell (Nat.le_refl _) _).setCell (Nat.le_refl _) _⟩
      · have E := Lib.hid (E1.out.2 (by rw [← e3]; omega))
        have hfi : (4096 : Int) < (l.length : Int) := by omega
        obtain ⟨q0, q1, r0, r1, _⟩ := blk2 GR0.out
        clear e1 e2 e3 hfit
        go_wp2_with fail
        exact bodyPost_ret (results_bte rfl rfl rfl (set2_row _ _ GR0.out)) rfl ⟨none, 0, 0, by rw [E.out.1, E.out.2.1] <;> rfl, by rw [E.out.2.2]; exact slN_nil _, (BR.out.setCell (Nat.le_refl _) _).setCell (Nat.le_refl _) _⟩
end Go.Proofs.YtccofiakblmkhaaGreat
