/- tribunalref02: Read, Parse; package whole: Parse, of any text. -/
import Derived.Test.YthgmebnihpjnoaaGreatDoorYB4
import Derived.Test.YthgmebnihpjnoaaGreatDoorFA
import Derived.Test.YthgmebnihpjnoaaGreatDoorZY
import Derived.Deep.RegionWith
set_option linter.unusedVariables false
set_option linter.unusedSimpArgs false
namespace Go.Proofs.YthgmebnihpjnoaaGreatDoor
open Go.RowKit Mth

theorem dgv_ten {c : Nat} : dgv c < 10 ↔ 48 ≤ c ∧ c ≤ 57 := by
  unfold dgv
  constructor
  · intro h
    split at h
    · assumption
    · split at h
      · omega
      · split at h <;> omega
  · intro h
    rw [if_pos h]; omega
theorem dgv_val {c : Nat} (h : 48 ≤ c ∧ c ≤ 57) : dgv c = c - 48 := if_pos h
theorem pv_ten {s : ByteArray} (h : ∀ i, i < s.size → dgv (bt s i) < 10) : ∀ k, k ≤ s.size → pv s 10 k < B16 ^ k
  | 0, _ => by simp [pv]
  | k + 1, hk => by
    have h1 := pv_ten h k (by omega)
    have h2 := h k (by omega)
    have e : pv s 10 (k + 1) = pv s 10 k * 10 + dgv (bt s k) := rfl
    have h3 : B16 ^ (k + 1) = B16 ^ k * 65536 := by rw [Nat.pow_succ]; rfl
    rw [e, h3]
    omega
theorem addD_num {v1 v2 : Value} {m n L : Nat} {w : World} (h1 : QNum w v1 m) (h2 : QNum w v2 n) (hm : m < B16 ^ L) (hn : n < B16 ^ L) (hL : L ≤ 16500000) :
    Calls Tryz.prog 114 #[v1, v2] w fun e w' => ∃ v', e = .returned v' ∧ DNum w' v' (m + n) ∧ Below w.heap.size w w' := by
  obtain ⟨xs, s1, l1, t1, rfl⟩ := h1
  obtain ⟨ys, s2, l2, t2, rfl⟩ := h2
  exact addD_any v1 v2 xs ys w s1 s2 l1 l2 (Nat.le_trans (length_of_val B16_pos t1 L hm) hL) (Nat.le_trans (length_of_val B16_pos t2 L hn) hL)
theorem DNum.shape {w : World} {v : Value} {n : Nat} (h : DNum w v n) : ∃ ao k c, v = .slice ao k c := by
  obtain ⟨ys, s, _⟩ := h
  obtain ⟨ao, c, rfl⟩ := s.shape
  exact ⟨_, _, _, rfl⟩
theorem make_dnum {v : Value} {n : Nat} {w : World} (h : DNum w v n) (g : Bool) :
    Calls Tryz.prog 80 #[.bool g, v] w fun e w' => ∃ v', e = .returned v' ∧ ZV w' v' (sg g n) ∧ Below w.heap.size w w' := by
  obtain ⟨ys, s, l, rfl⟩ := h
  refine (make_any g v ys w s l).mono ?_
  rintro e w' ⟨v', he, hz, hb⟩
  exact ⟨v', he, hz.below hb, hb⟩
theorem ZV.digits {w : World} {n : Bool} {ao : Option Addr} {k c : Nat} {z : Int} (h : ZV w (.agg #[.bool n, .slice ao k c]) z) : QNum w (.slice ao k c) z.natAbs := by
  obtain ⟨_, ys, s, l, t, e, _⟩ := h.parts
  exact ⟨ys, s, l, t, e⟩
theorem qlen_pow {w : World} {v : Value} {n L : Nat} (h : QNum w v n) (hn : n < B16 ^ L) (hL : L ≤ 16500000) : QLen w v n := by
  obtain ⟨ys, s, l, t, rfl⟩ := h
  exact ⟨ys, s, l, t, rfl, Nat.le_trans (length_of_val B16_pos t L hn) hL⟩
theorem pow_le_b {k L : Nat} (h : k ≤ L) : B16 ^ k ≤ B16 ^ L := Nat.pow_le_pow_right (by unfold B16; omega) h
theorem small_pow {n L : Nat} (h : n < 65536) (hL : 0 < L) : n < B16 ^ L := Nat.lt_of_lt_of_le (by rw [Nat.pow_one]; exact h) (pow_le_b (k := 1) hL)

/-- what Read's loops hold -/
def RdO (s : ByteArray) (i : Value) : Prop := ∃ k : Nat, k ≤ s.size ∧ i = .int .i64 k ∧ ∀ j, j < k → dgv (bt s j) < 10
def RdP (W wr : World) (R : Nat) (s : ByteArray) (i : Value) : Prop := ∃ (k : Nat) (n : Bool) (a : Option Addr) (m c : Nat), k ≤ s.size ∧ i = .int .i64 k ∧ wr.heap[R]? = some (.cells #[.bool n, .slice a m c] 66 (0, 0)) ∧ ZV wr (.agg #[.bool n, .slice a m c]) ((pv s 10 k : Nat) : Int) ∧ Below R W wr
def RdPost (w w' : World) (s : ByteArray) (e : Ending) : Prop := ∃ (n : Bool) (a : Option Addr) (m c : Nat) (ok : Bool), e = .returned (.tuple #[.agg #[.bool n, .slice a m c], .bool ok]) ∧ (ok = true → okD s 10 ∧ ZV w' (.agg #[.bool n, .slice a m c]) ((pv s 10 s.size : Nat) : Int)) ∧ (ok = false → ¬ okD s 10) ∧ Below w.heap.size w w'

set_option maxHeartbeats 4000000 in
set_option maxRecDepth 100000 in
theorem read_any (s : ByteArray) (w : World) (hs : s.size ≤ 20000) : Calls Tryz.prog 79 #[.string s] w fun e w' => RdPost w w' s e := by
  obtain ⟨L, hL⟩ : ∃ L, L = 20001 := ⟨_, rfl⟩
  have HL := Lib.hid hL; clear hL
  go_enter Tryz.func79, Tryz.ntmps79
  go_wp2_with fail
  obtain ⟨W, eW, h1, h2, bel, hsz⟩ := alloc2 w (Obj.cells #[Value.bool false, Value.slice none 0 0] 66) (Obj.cells #[Value.bool false, Value.slice none 0 0] 66)
  have BA : Hid (Below w.heap.size w W) := Lib.hid bel
  rw [eW]
  have H1 := Lib.hid h1; have H2 := Lib.hid h2; have HSZ := Lib.hid hsz
  clear eW h1 h2 bel hsz
  go_loop [5] (fun i => RdO s i) (fun i => s.size - (intOf i).toNat)
  case atStart => exact ⟨0, Nat.zero_le _, rfl, fun j hj => by omega⟩
  case round =>
    obtain ⟨k, hk, rfl, hv⟩ := hrel
    by_cases hlt : k < s.size
    · have hbk := bt_at hlt
      have hb255 := bt_lt s k
      by_cases hok : dgv (bt s k) < 10
      · have HN : Hid (∀ i, i < k + 1 → dgv (bt s i) < 10) := Lib.hid fun i hi => by
          rcases Nat.lt_or_ge i k with h | h
          · exact hv i h
          · rw [show i = k by omega]; exact hok
        obtain ⟨g1, g2⟩ := dgv_ten.1 hok
        generalize bt s k = d at *
        have hd1 : decide ((d : Int) < 48) = false := decide_eq_false (by omega)
        have hd2 : decide ((57 : Int) < (d : Int)) = false := decide_eq_false (by omega)
        clear hv hok
        go_wp2
        go_round
        case rel => exact ⟨k + 1, by omega, by go_num, HN.out⟩
        case measure => simp [intOf]; omega
      · have NO : Hid (¬ okD s 10) := Lib.hid fun h => hok (h.2 k hlt)
        have hcs : bt s k < 48 ∨ 57 < bt s k := by
          rcases (show bt s k < 48 ∨ 57 < bt s k ∨ (48 ≤ bt s k ∧ bt s k ≤ 57) by omega) with h | h | h
          · exact .inl h
          · exact .inr h
          · exact absurd (dgv_ten.2 h) hok
        obtain ⟨k0, k1, g0, g1, _⟩ := blk2 H1.out
        generalize bt s k = d at *
        clear hv hok
        rcases hcs with h | h
        · have hd1 : decide ((d : Int) < 48) = true := decide_eq_true (by omega)
          go_wp2
          refine bodyPost_ret (v := .tuple #[.agg #[.bool false, .slice none 0 0], .bool false]) ?_ rfl ⟨_, _, _, _, _, rfl, (fun h => by cases h), fun _ => NO.out, (BA.out.setCell (p := ⟨w.heap.size, 0, none⟩) (Nat.le_refl _) _).setCell (p := ⟨w.heap.size, 1, none⟩) (Nat.le_refl _) _⟩
          simp [results, Tryz.results79, go_sem, *]
        · have hd1 : decide ((d : Int) < 48) = false := decide_eq_false (by omega)
          have hd2 : decide ((57 : Int) < (d : Int)) = true := decide_eq_true (by omega)
          go_wp2
          refine bodyPost_ret (v := .tuple #[.agg #[.bool false, .slice none 0 0], .bool false]) ?_ rfl ⟨_, _, _, _, _, rfl, (fun h => by cases h), fun _ => NO.out, (BA.out.setCell (p := ⟨w.heap.size, 0, none⟩) (Nat.le_refl _) _).setCell (p := ⟨w.heap.size, 1, none⟩) (Nat.le_refl _) _⟩
          simp [results, Tryz.results79, go_sem, *]
    · have HA : Hid (∀ i, i < s.size → dgv (bt s i) < 10) := Lib.hid fun i hi => hv i (by omega)
      clear hv
      go_wp2
      go_loopw [6] (fun i wr => RdP W wr (w.heap.size + 1) s i) (fun i _ => s.size - (intOf i).toNat)
      case atStart => exact ⟨0, false, none, 0, 0, Nat.zero_le _, rfl, H2.out, zv_nil W, Below.refl _ _⟩
      case round =>
        obtain ⟨k, n, a, m, c, hk, rfl, hG, hZ, hbel⟩ := hrel
        have HB := Lib.hid hbel
        obtain ⟨s0, s1, g0, g1, hgl⟩ := blk2 hG
        by_cases hlt : k < s.size
        · have hbk := bt_at hlt
          have hb255 := bt_lt s k
          obtain ⟨q1, q2⟩ := dgv_ten.1 (HA.out k hlt)
          have PVS : Hid (pv s 10 (k + 1) = pv s 10 k * 10 + (bt s k - 48)) := Lib.hid (by rw [← dgv_val ⟨q1, q2⟩]; rfl)
          have hpb := pv_ten HA.out k hk
          have QN := hZ.digits
          rw [Int.natAbs_natCast] at QN
          have QL := Lib.hid (qlen_pow QN hpb (by omega))
          have P10 : Hid (pv s 10 k * 10 < B16 ^ L) := Lib.hid (by
            have h3 : B16 ^ (k + 1) = B16 ^ k * 65536 := by rw [Nat.pow_succ]; rfl
            have h4 : B16 ^ (k + 1) ≤ B16 ^ L := pow_le_b (by have := HL.out; omega)
            generalize B16 ^ L = X at *
            omega)
          have DL : Hid (((bt s k : Int) - 48).natAbs < B16 ^ L) := Lib.hid (small_pow (by omega) (by have := HL.out; omega))
          have DN : Hid (((bt s k : Int) - 48).natAbs = bt s k - 48) := Lib.hid (by omega)
          have KEEP : Hid (∀ w', Below wr.heap.size wr w' → w'.heap[w.heap.size + 1]? = some (.cells #[.bool n, .slice a m c] 66 (0, 0))) := Lib.hid (fun w' h => (h.block _ hgl).trans hG)
          have hfd := field_digits
          generalize bt s k = d at *
          generalize pv s 10 k = P at *
          have wsub : IntKind.u8.wrap ((d : Int) - 48) = (d : Int) - 48 := by rw [IntKind.wrap_u8]; omega
          have wsub2 : IntKind.i64.wrap ((d : Int) - 48) = (d : Int) - 48 := by rw [IntKind.wrap_i64]; omega
          clear hpb QN hbel hG hZ
          go_wp2
          go_region_with (first
            | (go_at_call 115; refine Calls.mono (timesD_num (D := P) ?_ 10 10 (by omega) rfl) ?_; (first | exact QL.out.below (bdrawn (Below.refl _ _) 1) | exact QL.out.below ((Below.refl _ _).drew)); rintro e w4 ⟨v4, rfl, hz4, hb4⟩; obtain ⟨a4, k4, c4, rfl⟩ := hz4.shape; have hB4 := Lib.hid (below_of (Below.refl wr.heap.size wr).drew hb4); have HZ4 := Lib.hid hz4; obtain ⟨y0, y1, x0, x1, _⟩ := blk2 (KEEP.out _ hB4.out); clear hz4 hb4)
            | (go_at_call 66; refine Calls.mono (small1_any ((d : Int) - 48) _ (by omega) (by omega)) ?_; rintro e w5 ⟨v5, rfl, hz5, hb5⟩; obtain ⟨n5, a5, k5, c5, rfl⟩ := hz5.shape; have hB5 := Lib.hid (below_of hB4.out hb5); have HZ5 := Lib.hid hz5.digits; have HQ4 := Lib.hid (HZ4.out.below hb5); obtain ⟨y2, y3, x2, x3, _⟩ := blk2 (KEEP.out _ hB5.out); clear hz5 hb5)
            | (go_at_call 114; refine Calls.mono (addD_num HQ4.out HZ5.out P10.out DL.out (by have := HL.out; omega)) ?_; rintro e w6 ⟨v6, rfl, hz6, hb6⟩; obtain ⟨a6, k6, c6, rfl⟩ := hz6.shape; have hB6 := Lib.hid (below_of hB5.out hb6); have HZ6 := Lib.hid hz6; obtain ⟨y4, y5, x4, x5, _⟩ := blk2 (KEEP.out _ hB6.out); clear hz6 hb6)
            | (go_at_call 80; refine Calls.mono (make_dnum HZ6.out false) ?_; rintro e w7 ⟨v7, rfl, hz7, hb7⟩; obtain ⟨n7, a7, k7, c7, rfl⟩ := hz7.shape; have hB7 := Lib.hid (below_of hB6.out hb7); have HZ7 := Lib.hid hz7; have HG7 := Lib.hid (KEEP.out _ hB7.out); obtain ⟨y6, y7, x6, x7, _⟩ := blk2 (KEEP.out _ hB7.out); clear hz7 hb7))
          all_goals
            have hz8 := HZ7.out
            rw [sg_false, DN.out, ← PVS.out] at hz8
            have RL : Hid (RdP W ((w7.setCell ⟨w.heap.size + 1, 0, none⟩ (.bool n7)).setCell ⟨w.heap.size + 1, 1, none⟩ (.slice a7 k7 c7)) (w.heap.size + 1) s (.int .i64 ((k + 1 : Nat) : Int))) := Lib.hid ⟨k + 1, n7, a7, k7, c7, by omega, rfl, by rw [heap_setCell_same _ _ 1 _ _ _ (heap_setCell_same _ _ 0 _ _ _ HG7.out)]; rfl, hz8.far HG7.out, ((HB.out.trans (hB7.out.mono (by omega))).setCell (p := ⟨w.heap.size + 1, 0, none⟩) (Nat.le_refl _) _).setCell (p := ⟨w.heap.size + 1, 1, none⟩) (Nat.le_refl _) _⟩
            clear hz8
            go_wp2
            go_roundw
            case rel => exact RL.out
            case measure => simp [intOf]; omega
        · obtain rfl : k = s.size := by omega
          obtain ⟨t0, t1, f0, f1, _⟩ := blk2 ((hbel.block _ (by omega)).trans H1.out)
          have hR := Lib.hid ((hbel.block _ (by omega)).trans H1.out)
          have HZ := Lib.hid hZ
          have HBW := Lib.hid (BA.out.trans (hbel.mono (by omega)))
          clear hbel hG hZ
          by_cases h0 : s.size = 0
          · have hd0 : decide ((0 : Int) < (s.size : Int)) = false := decide_eq_false (by omega)
            have NO : Hid (¬ okD s 10) := Lib.hid fun h => h.1 h0
            obtain rfl := size_zero h0
            clear h0 hd0
            go_wp2
            refine bodyPost_ret (v := .tuple #[.agg #[.bool n, .slice a m c], .bool false]) ?_ rfl ⟨_, _, _, _, _, rfl, (fun h => by cases h), fun _ => NO.out, (HBW.out.setCell (p := ⟨w.heap.size, 0, none⟩) (Nat.le_refl _) _).setCell (p := ⟨w.heap.size, 1, none⟩) (Nat.le_refl _) _⟩
            simp [results, Tryz.results79, go_sem, *]
          · have hd0 : decide ((0 : Int) < (s.size : Int)) = true := decide_eq_true (by omega)
            have OK : Hid (okD s 10) := Lib.hid ⟨h0, HA.out⟩
            have h0p : 0 < s.size := by omega
            clear h0
            go_wp2
            refine bodyPost_ret (v := .tuple #[.agg #[.bool n, .slice a m c], .bool true]) ?_ rfl ⟨_, _, _, _, _, rfl, fun _ => ⟨OK.out, HZ.out.far hR.out⟩, (fun h => by cases h), (HBW.out.setCell (p := ⟨w.heap.size, 0, none⟩) (Nat.le_refl _) _).setCell (p := ⟨w.heap.size, 1, none⟩) (Nat.le_refl _) _⟩
            simp [results, Tryz.results79, go_sem, *]
end Go.Proofs.YthgmebnihpjnoaaGreatDoor
