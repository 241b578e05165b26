/- tribunalref01.Parse; NatParses. -/
import Derived.Test.YtafeokkkbiaajaaDoorParse
import Derived.Test.YtafeokkkbiaajaaDoorMulH
import Derived.Test.YtafeokkkbiaajaaDoorAddH
import Derived.RegionCalls
namespace Go.Proofs.YtafeokkkbiaajaaDoor
open Go.RowKit Mth

/-- what the loops of R.Parse hold -/
def RParA (s : ByteArray) (b : Nat) (i : Value) : Prop := ∃ k : Nat, k ≤ s.size ∧ i = .int .i64 k ∧ ∀ j, j < k → dgv (bt s j) < b
def RParB (w wr : World) (s : ByteArray) (b : Nat) (v i : Value) : Prop := ∃ k : Nat, k ≤ s.size ∧ i = .int .i64 k ∧ HNum wr v (pv s b k) ∧ pv s b k < Big ∧ Below w.heap.size w wr

theorem one_at {W : World} {g x : Nat} (hc : W.cell? ⟨g, 0, none⟩ = some (.int .u32 ((x : Nat) : Int))) (hg : g < W.heap.size) : Sl W .u32 (.slice (some ⟨g, 0, none⟩) 1 1) [x] := by
  refine ⟨some ⟨g, 0, none⟩, 1, rfl, Nat.le_refl _, by unfold maxLen; omega, by simp, fun e => by simp at e, fun _ => ⟨g, 0, rfl, hg, fun j hj => ?_⟩⟩
  obtain rfl : j = 0 := by simpa using hj
  simpa using hc
theorem lim_one {x : Nat} (h : x < B16) : Lim B16 [x] := lim_cons.2 ⟨h, lim_nil (by have := B16_pos; omega)⟩
/-- the product, in whatever order -/
theorem mul_step {W w : World} {v : Value} {g b P : Nat} (hP : HNum w v P) (hb : Below w.heap.size w W) (hPB : P < Big) (hc : W.cell? ⟨g, 0, none⟩ = some (.int .u32 ((b : Nat) : Int))) (hg : g < W.heap.size) (hb1 : 0 < b) (hb16 : b < B16) :
    Calls Tryd.prog 61 #[v, .slice (some ⟨g, 0, none⟩) 1 1] W fun e w' => ∃ v', e = .returned v' ∧ HNum w' v' (P * b) ∧ Below W.heap.size W w' :=
  mulH_any _ _ P b (4 * maxL) 1 _ (hP.below hb) ⟨[b], one_at hc hg, lim_one hb16, by simp [Top, tlen]; omega, by simp [val]⟩ (by rw [b16_big]; exact hPB) (by rw [Nat.pow_one]; exact hb16) (by unfold maxL; omega)
theorem add_step {W : World} {v : Value} {g d m : Nat} (hm : HNum W v m) (hmB : m < B16 ^ hugeP) (hc : W.cell? ⟨g, 0, none⟩ = some (.int .u32 ((d : Nat) : Int))) (hg : g < W.heap.size) (hd : d < B16) :
    Calls Tryd.prog 54 #[v, .slice (some ⟨g, 0, none⟩) 1 1] W fun e w' => ∃ v', e = .returned v' ∧ HNum w' v' (m + d) ∧ Below W.heap.size W w' := by
  obtain ⟨xs, s1, l1, t1, rfl⟩ := hm
  have h := addH_sl v _ xs [d] W s1 (one_at hc hg) l1 (lim_one hd) (Nat.le_trans (length_of_val B16_pos t1 hugeP hmB) hugeP_le) (by simp)
  simpa [val] using h

set_option maxHeartbeats 4000000 in
set_option maxRecDepth 100000 in
theorem rparse_any (s : ByteArray) (b : Int) (N : Nat) (ER : Int) (w : World) (hs : s.size ≤ 1048576) (HK : ParIs s b N ER) (hb : -9223372036854775808 ≤ b ∧ b ≤ 9223372036854775807) :
    Calls Tryd.prog 44 #[.string s, .int .i64 b] w fun e w' => ∃ v', e = .returned (.tuple #[v', .int .i64 ER]) ∧ Num w' v' N ∧ Below w.heap.size w w' := by
  by_cases hB : isB b
  · obtain ⟨b, rfl⟩ : ∃ n : Nat, b = (n : Int) := ⟨b.toNat, by unfold isB at hB; omega⟩
    have hb2 : 2 ≤ b := by unfold isB at hB; omega
    have hb16 : b ≤ 16 := by unfold isB at hB; omega
    have IB := Lib.hid (based_any (b : Int) true (by simpa [isB] using hB) hb w)
    have ED : Hid (¬ okD s b → N = 0 ∧ ER = 13) := Lib.hid (HK.dig b rfl hB)
    have EF : Hid (okD s b → N = cutN (pv s b s.size) ∧ ER = cutE (pv s b s.size)) := Lib.hid (HK.fine b rfl hB)
    clear HK hB hb
    go_enter Tryd.func44, Tryd.ntmps44
    go_wp2_with fail
    refine IB.out.mono ?_
    rintro e w' ⟨rfl, rfl⟩
    go_wp2
    go_loop [6] (fun i => RParA s b i) (fun i => s.size - (intOf i).toNat)
    case atStart => exact ⟨0, Nat.zero_le _, rfl, fun j hj => by omega⟩
    case round =>
      obtain ⟨k, hk, rfl, hv⟩ := hrel
      by_cases hlt : k < s.size
      · have hbk := bt_at hlt
        have hb255 := bt_lt s k
        by_cases hok : dgv (bt s k) < b
        · have HN : Hid (∀ i, i < k + 1 → dgv (bt s i) < b) := Lib.hid fun i hi => by
            rcases Nat.lt_or_ge i k with h | h
            · exact hv i h
            · rw [show i = k by omega]; exact hok
          have HD := fun w => rdigit_any (bt s k) hb255 w
          have hdb : dgB (bt s k) = ((dgv (bt s k) : Nat) : Int) := by unfold dgB; rw [if_neg (by omega)]
          rw [hdb] at HD
          generalize dgv (bt s k) = d at *
          clear hv hdb
          go_wp2_with fail
          refine (HD _).mono ?_
          rintro e w' ⟨rfl, rfl⟩
          go_wp2_with fail
          refine (HD _).mono ?_
          rintro e w' ⟨rfl, rfl⟩
          go_wp2
          go_round
          case rel => exact ⟨k + 1, by omega, by go_num, HN.out⟩
          case measure => simp [intOf]; omega
        · have E := Lib.hid (ED.out fun h => hok (h.2 k hlt))
          have HD := fun w => rdigit_any (bt s k) hb255 w
          rcases dgv_le (bt s k) with h9 | h9
          · have hdb : dgB (bt s k) = -1 := by unfold dgB; rw [if_pos h9]
            rw [hdb] at HD
            clear hv hdb h9 hok
            go_wp2_with fail
            refine (HD _).mono ?_
            rintro e w' ⟨rfl, rfl⟩
            go_wp2
            go_ret2
            exact ⟨_, by rw [E.out.2]; rfl, by rw [E.out.1]; exact num_nil _, Below.refl _ _⟩
          · have hdb : dgB (bt s k) = ((dgv (bt s k) : Nat) : Int) := by unfold dgB; rw [if_neg (by omega)]
            rw [hdb] at HD
            generalize dgv (bt s k) = d at *
            clear hv hdb
            go_wp2_with fail
            refine (HD _).mono ?_
            rintro e w' ⟨rfl, rfl⟩
            go_wp2_with fail
            refine (HD _).mono ?_
            rintro e w' ⟨rfl, rfl⟩
            go_wp2
            go_ret2
            exact ⟨_, by rw [E.out.2]; rfl, by rw [E.out.1]; exact num_nil _, Below.refl _ _⟩
      · have HA : Hid (∀ i, i < s.size → dgv (bt s i) < b) := Lib.hid fun i hi => hv i (by omega)
        clear hv
        by_cases h0 : s.size = 0
        · have E := Lib.hid (ED.out fun h => h.1 h0)
          obtain rfl := size_zero h0
          go_wp2
          go_ret2
          exact ⟨_, by rw [E.out.2]; rfl, by rw [E.out.1]; exact num_nil _, Below.refl _ _⟩
        · have hne := not_empty h0
          have E := Lib.hid (EF.out ⟨h0, HA.out⟩)
          go_wp2
          go_loopw [7, 8] (fun v i wr => RParB w wr s b v i) (fun _ i _ => s.size - (intOf i).toNat)
          case atStart => exact ⟨0, Nat.zero_le _, rfl, hnum_nil _, by show 0 < Big; have := one_lt_big; omega, Below.refl _ _⟩
          case round =>
            obtain ⟨j, hj, rfl, hn, hbig, hbel⟩ := hrel
            have HNM := Lib.hid hn; have HBG := Lib.hid hbig; have HBL := Lib.hid hbel
            by_cases hlt : j < s.size
            · have hbk := bt_at hlt
              have hb255 := bt_lt s j
              have hdv := HA.out j hlt
              have HD := fun w => rdigit_any (bt s j) hb255 w
              have hdb : dgB (bt s j) = ((dgv (bt s j) : Nat) : Int) := by unfold dgB; rw [if_neg (by omega)]
              rw [hdb] at HD
              have PVS : Hid (pv s b (j + 1) = pv s b j * b + dgv (bt s j)) := Lib.hid rfl
              generalize dgv (bt s j) = d at *
              generalize pv s b j = P at *
              have EB : Hid (Big ≤ P * b + d → N = 0 ∧ ER = 5) := Lib.hid fun h => by
                have h9 := pv_mono (s := s) (b := b) (by omega) (j + 1) (s.size - (j + 1))
                rw [show j + 1 + (s.size - (j + 1)) = s.size by omega, PVS.out] at h9
                have h8 := cut_big (Nat.le_trans h h9)
                rw [h8.1, h8.2] at E
                exact E.out
              have wb : IntKind.u32.wrap (b : Int) = (b : Int) := by rw [IntKind.wrap_u32]; omega
              have wd : IntKind.u32.wrap (d : Int) = (d : Int) := by rw [IntKind.wrap_u32]; omega
              have hd16 : d < B16 := by unfold B16; omega
              have hPB : P * b < B16 ^ hugeP := Nat.lt_of_lt_of_le (Nat.mul_lt_mul_of_pos_right hbig (by omega)) (Nat.le_trans (Nat.le_of_eq (Nat.mul_comm _ _)) (Nat.le_of_lt (pow_big b (by omega))))
              have n1 : ∀ o : Obj, Below wr.heap.size wr (wr.alloc o) := fun o => (Below.refl _ _).alloc (Nat.le_refl _) o
              have n2 : ∀ o o' : Obj, Below wr.heap.size wr ((wr.alloc o).alloc o') := fun o o' => (n1 o).alloc (by simp) o'
              have c1 : ∀ x, (wr.alloc (Obj.cells #[Value.int IntKind.u32 ((x : Nat) : Int)] 66)).drew.cell? ⟨wr.heap.size, 0, none⟩ = some (.int .u32 ((x : Nat) : Int)) := fun x => World.cell?_alloc_new _ _ _ _
              have c2 : ∀ x o, ((wr.alloc (Obj.cells #[Value.int IntKind.u32 ((x : Nat) : Int)] 66)).alloc o).drew.cell? ⟨wr.heap.size, 0, none⟩ = some (.int .u32 ((x : Nat) : Int)) := fun x o => by
                have hb9 : Below (wr.alloc (Obj.cells #[Value.int IntKind.u32 ((x : Nat) : Int)] 66)).heap.size (wr.alloc (Obj.cells #[Value.int IntKind.u32 ((x : Nat) : Int)] 66)) ((wr.alloc (Obj.cells #[Value.int IntKind.u32 ((x : Nat) : Int)] 66)).alloc o).drew := ((Below.refl _ _).alloc (Nat.le_refl _) o).drew
                exact (hb9.cell (p := ⟨wr.heap.size, 0, none⟩) (by simp)).trans (c1 x)
              have c3 : ∀ x o, ((wr.alloc o).alloc (Obj.cells #[Value.int IntKind.u32 ((x : Nat) : Int)] 66)).drew.cell? ⟨wr.heap.size + 1, 0, none⟩ = some (.int .u32 ((x : Nat) : Int)) := fun x o => by
                have hsz : (wr.alloc o).heap.size = wr.heap.size + 1 := by simp
                rw [← hsz]
                exact World.cell?_alloc_new _ _ _ _
              have M1 := Lib.hid (mul_step (b := b) hn (n1 (Obj.cells #[Value.int IntKind.u32 (b : Int)] 66)).drew hbig (c1 b) (by simp) (by omega) (by unfold B16; omega))
              have M2 := Lib.hid (mul_step (b := b) hn (n2 (Obj.cells #[Value.int IntKind.u32 (b : Int)] 66) (Obj.cells #[Value.int IntKind.u32 (d : Int)] 66)).drew hbig (c2 b _) (by simp <;> omega) (by omega) (by unfold B16; omega))
              have M3 := Lib.hid (mul_step (b := b) hn (n2 (Obj.cells #[Value.int IntKind.u32 (d : Int)] 66) (Obj.cells #[Value.int IntKind.u32 (b : Int)] 66)).drew hbig (c3 b _) (by simp <;> omega) (by omega) (by unfold B16; omega))
              have C2 := Lib.hid (c2 d); have C3 := Lib.hid (c3 d); have N1 := Lib.hid n1; have N2 := Lib.hid n2
              have HPB := Lib.hid hPB; have HD16 := Lib.hid hd16
              clear hn hbig hbel hdb n1 n2 c1 c2 c3 hPB hd16
              go_wp2_with fail
              go_region_with (first
                | (go_at_call 61; (refine (M1.out).mono ?_); rintro e w3 ⟨v3, rfl, hn3, hb3⟩; have HBA := Lib.hid ((N1.out _).drew.trans (hb3.mono (by simp <;> omega))); have H1 := Lib.hid (add_step (d := d) (hn3.below ((Below.refl _ _).alloc (Nat.le_refl _) (Obj.cells #[Value.int IntKind.u32 (d : Int)] 66))) HPB.out (World.cell?_alloc_new _ _ _ _) (by simp) HD16.out); clear hn3 hb3)
                | (go_at_call 61; (refine (M2.out).mono ?_); rintro e w3 ⟨v3, rfl, hn3, hb3⟩; have HBA := Lib.hid ((N2.out _ _).drew.trans (hb3.mono (by simp <;> omega))); have H2 := Lib.hid (add_step (d := d) (g := wr.heap.size + 1) hn3 HPB.out ((hb3.cell (p := ⟨wr.heap.size + 1, 0, none⟩) (by simp <;> omega)).trans (C3.out _)) (Nat.lt_of_lt_of_le (by simp <;> omega) hb3.size) HD16.out); clear hn3 hb3)
                | (go_at_call 61; (refine (M3.out).mono ?_); rintro e w3 ⟨v3, rfl, hn3, hb3⟩; have HBA := Lib.hid ((N2.out _ _).drew.trans (hb3.mono (by simp <;> omega))); have H2 := Lib.hid (add_step (d := d) (g := wr.heap.size) hn3 HPB.out ((hb3.cell (p := ⟨wr.heap.size, 0, none⟩) (by simp <;> omega)).trans (C2.out _)) (Nat.lt_of_lt_of_le (by simp <;> omega) hb3.size) HD16.out); clear hn3 hb3)
                | (go_at_call 80; (refine (HD _).mono ?_); rintro e w4 ⟨rfl, rfl⟩)
                | (go_at_call 54; (refine (H1.out).mono ?_); rintro e w5 ⟨v5, rfl, hn5, hb5⟩; have HN5 := Lib.hid hn5; have HB5 := Lib.hid (HBA.out.trans (((Below.refl _ _).alloc (Nat.le_refl _) _ |>.trans (hb5.mono (by simp))).mono HBA.out.size)); clear hn5 hb5)
                | (go_at_call 54; (refine (H2.out).mono ?_); rintro e w5 ⟨v5, rfl, hn5, hb5⟩; have HN5 := Lib.hid hn5; have HB5 := Lib.hid (HBA.out.trans (hb5.mono HBA.out.size)); clear hn5 hb5))
              all_goals go_wp2_with fail
              all_goals (
                by_cases hbig : Big ≤ P * b + d
                · have hd2 : decide (Big ≤ P * b + d) = true := decide_eq_true hbig
                  have E2 := Lib.hid (EB.out hbig)
                  clear hbig
                  generalize P * b + d = pd at *
                  refine (hlong_any _ _ _ HN5.out).mono ?_
                  rintro e w6 ⟨rfl, rfl⟩
                  go_wp2
                  go_ret2
                  exact ⟨_, by rw [E2.out.2]; rfl, by rw [E2.out.1]; exact num_nil _, below_step HBL.out HB5.out⟩
                · have hd2 : decide (Big ≤ P * b + d) = false := decide_eq_false hbig
                  have HNB := Lib.hid hbig
                  clear hbig
                  generalize P * b + d = pd at *
                  refine (hlong_any _ _ _ HN5.out).mono ?_
                  rintro e w6 ⟨rfl, rfl⟩
                  go_wp2
                  go_roundw
                  case rel => exact ⟨j + 1, by omega, by go_num, by rw [PVS.out]; exact HN5.out, by rw [PVS.out]; exact Nat.lt_of_not_le HNB.out, below_step HBL.out HB5.out⟩
                  case measure => simp [intOf]; omega)
            · obtain rfl : j = s.size := by omega
              clear hn hbig hbel
              go_wp2_with fail
              refine (result_any _ _ _ HNM.out).mono ?_
              rintro e w6 ⟨v6, rfl, hn6, hb6⟩
              have B6 := Lib.hid (below_step HBL.out hb6); have N6 := Lib.hid hn6; clear hn6 hb6
              go_wp2
              go_ret2
              exact ⟨_, by rw [E.out.2]; rfl, by rw [E.out.1]; exact N6.out, B6.out⟩
  · have E := Lib.hid (HK.bad hB)
    have IB := Lib.hid (based_any b false (by simpa [isB] using hB) hb w)
    clear HK hB hb
    go_enter Tryd.func44, Tryd.ntmps44
    go_wp2_with fail
    refine IB.out.mono ?_
    rintro e w' ⟨rfl, rfl⟩
    go_wp2
    go_ret2
    exact ⟨_, by rw [E.out.2]; rfl, by rw [E.out.1]; exact num_nil _, Below.refl _ _⟩

set_option maxRecDepth 100000 in
theorem parses_walk (w : World) (s : ByteArray) (b : Int) (hz : TZ w) (hs : s.size ≤ 1048576) (hb1 : -9223372036854775808 ≤ b) (hb2 : b ≤ 9223372036854775807) :
    Calls Tryd.prog 11 #[.string s, .int .i64 b] w fun e w' => e = .returned (.bool true) ∧ Below w.heap.size w w' := by
  obtain ⟨N, ER, hK⟩ := par_ex s b
  have HZ := Lib.hid hz; have HB := Lib.hid (And.intro hb1 hb2); have HK := Lib.hid hK; have HS := Lib.hid hs
  clear hz hK hs
  go_enter Tryd.func11, Tryd.ntmps11
  go_wp2_with fail
  refine (parse_any s b N ER _ HS.out HK.out HB.out).mono ?_
  rintro e w1 ⟨v1, rfl, hn1, hb1⟩
  have B1 := Lib.hid hb1; have N1 := Lib.hid hn1; clear hb1 hn1
  go_wp2_with fail
  refine (rparse_any s b N ER _ HS.out HK.out HB.out).mono ?_
  rintro e w2 ⟨v2, rfl, hn2, hb2⟩
  have B2 := Lib.hid (below_step B1.out hb2); have N2 := Lib.hid hn2; have N1' := Lib.hid (N1.out.below hb2); clear hb2 hn2
  have hev : (ER == ER) = true := by simp
  go_wp2_with fail
  refine (same_any _ _ _ _ N1'.out N2.out).mono ?_
  rintro e w3 ⟨rfl, hb3⟩
  have B3 := Lib.hid (below_step B2.out hb3); clear hb3
  go_wp2_with fail
  refine (alive_any _ (HZ.out.below B3.out)).mono ?_
  rintro e w4 ⟨rfl, hb4⟩
  have B4 := Lib.hid (below_step B3.out hb4); clear hb4
  go_wp2
  go_ret
  exact ⟨rfl, B4.out⟩
end Go.Proofs.YtafeokkkbiaajaaDoor
