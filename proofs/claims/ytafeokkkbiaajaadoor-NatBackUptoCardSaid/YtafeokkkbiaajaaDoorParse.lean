/- nat.Parse. -/
import Derived.Test.YtafeokkkbiaajaaDoorIsDig
namespace Go.Proofs.YtafeokkkbiaajaaDoor
open Go.RowKit Mth

/-- the value of the first k digits -/
def pv (s : ByteArray) (b : Nat) : Nat → Nat
  | 0 => 0
  | k + 1 => pv s b k * b + dgv (bt s k)
theorem pv_mono {s : ByteArray} {b : Nat} (hb : 1 ≤ b) (k n : Nat) : pv s b k ≤ pv s b (k + n) := by
  induction n with
  | zero => exact Nat.le_refl _
  | succ n ih =>
    have h1 : pv s b (k + n) * 1 ≤ pv s b (k + n) * b := Nat.mul_le_mul_left _ hb
    have h2 : pv s b (k + (n + 1)) = pv s b (k + n) * b + dgv (bt s (k + n)) := rfl
    omega
/-- is b a base -/
def isB (b : Int) : Prop := b = 2 ∨ b = 10 ∨ b = 16
/-- what Parse answers -/
structure ParIs (s : ByteArray) (b : Int) (N : Nat) (ER : Int) : Prop where
  bad : ¬ isB b → N = 0 ∧ ER = 12
  dig : ∀ n : Nat, b = (n : Int) → isB b → ¬ okD s n → N = 0 ∧ ER = 13
  fine : ∀ n : Nat, b = (n : Int) → isB b → okD s n → N = cutN (pv s n s.size) ∧ ER = cutE (pv s n s.size)
theorem par_ex (s : ByteArray) (b : Int) : ∃ N ER, ParIs s b N ER := by
  by_cases h : isB b
  · obtain ⟨n, rfl⟩ : ∃ n : Nat, b = (n : Int) := ⟨b.toNat, by unfold isB at h; omega⟩
    by_cases h2 : okD s n
    · exact ⟨_, _, fun h3 => absurd h h3, fun m e _ h3 => absurd (by rwa [Int.ofNat.inj e] at h2) h3, fun m e _ _ => by rw [← Int.ofNat.inj e]; exact ⟨rfl, rfl⟩⟩
    · exact ⟨0, 13, fun h3 => absurd h h3, fun _ _ _ _ => ⟨rfl, rfl⟩, fun m e _ h3 => absurd (by rwa [← Int.ofNat.inj e] at h3) h2⟩
  · exact ⟨0, 12, fun _ => ⟨rfl, rfl⟩, fun _ _ h3 => absurd h3 h, fun _ _ h3 => absurd h3 h⟩

theorem own_iterAt {w : World} {base e n m g : Nat} {v : Value} {xs : List Value} (h : w.ownsRow base e n v m xs) (s : ByteArray) (pos : Nat) (hg : g < base) : (w.iterAt g s pos).ownsRow base e n v m xs := by
  obtain ⟨h1, h2⟩ := h
  refine ⟨h1, ?_⟩
  rcases h2 with h2 | ⟨g', cap, cur, a1, a2, a3, a4⟩
  · exact .inl h2
  · refine .inr ⟨g', cap, cur, a1, a2, ?_, a4⟩
    rw [Lib.iterAt_other _ _ _ _ _ (by omega)]; exact a3
/-- what Parse's loop holds: the iterator lies in block g -/
def ParO (w wr : World) (g : Nat) (s : ByteArray) (b : Nat) (v sc ch : Value) : Prop := ∃ (k : Nat) (xs : List Nat) (c h : Nat), k ≤ s.size ∧ wr.heap[g]? = some (.stringIter s k) ∧ wr.ownsRow (g + 1) 24 1 v xs.length (cellsOf .u64 xs) ∧ Lim B64 xs ∧ Top xs ∧ val B64 xs < Big ∧
  sc = .int .u64 (c : Int) ∧ ch = .int .u64 (h : Int) ∧ h < c ∧ c < B64 ∧ val B64 xs * c + h = pv s b k ∧ Below w.heap.size w wr
def isizeOf (wr : World) (g : Nat) (s : ByteArray) : Nat := s.size - wr.iterPos g
theorem par_step {X c h b d P : Nat} (e : X * c + h = P) (hd : d < b) (hh : h < c) : X * (c * b) + (h * b + d) = P * b + d ∧ h * b + d < c * b := by
  refine ⟨?_, ?_⟩
  · rw [← e, Nat.add_mul, Nat.mul_assoc]; omega
  · have : (h + 1) * b ≤ c * b := Nat.mul_le_mul_right _ hh
    rw [Nat.add_mul, Nat.one_mul] at this
    omega
theorem top_len {xs : List Nat} (t : Top xs) (h : val B64 xs < Big) : xs.length ≤ 4096 := by
  have := length_of_val (B := B64) (by have := B64_pos; omega) t maxL h
  unfold maxL at this; exact this

theorem isize_at {w : World} {g k : Nat} {s : ByteArray} (h : w.heap[g]? = some (.stringIter s k)) : isizeOf w g s = s.size - k := by
  unfold isizeOf World.iterPos; rw [h]
theorem own_base {w : World} {base base' e n m : Nat} {v : Value} {xs : List Value} (h : w.ownsRow base e n v m xs) (hb : base' ≤ base) : w.ownsRow base' e n v m xs := by
  obtain ⟨h1, h2⟩ := h
  refine ⟨h1, ?_⟩
  rcases h2 with h2 | ⟨g', cap, cur, a1, a2, a4⟩
  · exact .inl h2
  · exact .inr ⟨g', cap, cur, a1, by omega, a4⟩

set_option maxHeartbeats 4000000 in
set_option maxRecDepth 100000 in
theorem parse_any (s : ByteArray) (b : Int) (N : Nat) (ER : Int) (w : World) (hs : s.size ≤ 1048576) (HK : ParIs s b N ER) (hb : -9223372036854775808 ≤ b ∧ b ≤ 9223372036854775807) :
    Calls Tryd.prog 43 #[.string s, .int .i64 b] w fun e w' => ∃ v', e = .returned (.tuple #[v', .int .i64 ER]) ∧ Num w' v' N ∧ Below w.heap.size w w' := by
  have HB := Lib.hid hb
  by_cases hB : isB b
  · obtain ⟨b, rfl⟩ : ∃ n : Nat, b = (n : Int) := ⟨b.toNat, by unfold isB at hB; omega⟩
    have hb2 : 2 ≤ b := by unfold isB at hB; omega
    have hb16 : b ≤ 16 := by unfold isB at hB; omega
    have IB := Lib.hid (isBase_any (b : Int) true (by simpa [isB] using hB) hb w)
    by_cases hD : okD s b
    · have E := Lib.hid (HK.fine b rfl hB hD)
      have ID := Lib.hid (isDigits_any s b hb16 true (by simp [hD]) w)
      have hdv := hD.2
      have HDV := Lib.hid hdv
      have hs0 : 0 < s.size := by have := hD.1; omega
      clear HK hB hD hdv hb
      go_enter Tryd.func43, Tryd.ntmps43
      go_wp2_with fail
      refine IB.out.mono ?_
      rintro e w' ⟨rfl, rfl⟩
      go_wp2_with fail
      refine ID.out.mono ?_
      rintro e w1 ⟨rfl, hb1⟩
      have B1 := Lib.hid hb1
      clear hb1
      have hq0 : (18446744073709551615 : Int) / (b : Int) = ((18446744073709551615 / b : Nat) : Int) := by rw [Int.natCast_ediv]; rfl
      obtain ⟨q, hq⟩ : ∃ q, q = 18446744073709551615 / b := ⟨_, rfl⟩
      have hqle : ∀ c, c ≤ q → c * b ≤ 18446744073709551615 := fun c hc => by rw [hq] at hc; exact Nat.le_trans (Nat.mul_le_mul_right _ hc) (Nat.div_mul_le_self _ _)
      have hq1 : 1 ≤ q := by rw [hq]; exact (Nat.one_le_div_iff (by omega)).2 (by omega)
      rw [← hq] at hq0
      have HQ := Lib.hid hqle
      have hbw : IntKind.u64.wrap (b : Int) = (b : Int) := wrap_u64 b (by unfold B64; omega)
      have hbne : ((b : Int) == 0) = false := beq_eq_false_iff_ne.2 (by omega)
      clear hq hqle
      have hit : (w1.iter s 0).heap[w1.heap.size]? = some (.stringIter s 0) := World.iter_heap w1 s 0
      have HIT := Lib.hid hit; clear hit
      obtain ⟨g, hg⟩ : ∃ g, g = w1.heap.size := ⟨_, rfl⟩
      have HG := Lib.hid hg
      have HGW : Hid (w.heap.size ≤ g) := Lib.hid (by rw [hg]; exact B1.out.size)
      clear hg
      go_wp2
      rw [← HG.out]
      go_loopw [6, 7, 8] (fun v sc ch wr => ParO w wr g s b v sc ch) (fun _ _ _ wr => isizeOf wr g s)
      case atStart => exact ⟨0, [], 1, 0, by omega, by rw [HG.out]; exact HIT.out, World.ownsRow_nil _ _ _ _, lim_nil (by have := B64_pos; omega), rfl, by show 0 < Big; have := one_lt_big; omega, rfl, rfl, by omega, by have := B64_pos; omega, by simp [val, pv], (B1.out.trans ((below_iter w1 s 0).mono B1.out.size))⟩
      case round =>
        obtain ⟨k, xs, c, h, hk, hit, hown, lx, tx, hxb, rfl, rfl, hhc, hcb, he, hbel⟩ := hrel
        have HOWN := Lib.hid hown; have LX := Lib.hid lx; have TX := Lib.hid tx; have XB := Lib.hid hxb; have HE := Lib.hid he; have HBL := Lib.hid hbel; have HIT0 := Lib.hid hit
        have hxl := top_len tx hxb
        have hgl : g < wr.heap.size := (Array.getElem?_eq_some_iff.1 hit).1
        by_cases hp : k < s.size
        · have hnx : ∀ ty, (Instr.next (.pointer (some ⟨g, 0, none⟩)) true ty).run Tryd.prog wr = _ := fun ty => Lib.run_next_any_at wr g s k ty hit hp
          obtain ⟨h1, h2, h3⟩ := rune_dgv hp
          have hdv := HDV.out k hp
          generalize (Utf8.decode s k).1 = rn at *
          generalize (Utf8.decode s k).2 = wd at *
          have hw : wd = 1 := h3 (by omega)
          subst hw
          have hdg : dgA rn = ((dgv (bt s k) : Nat) : Int) := by unfold dgA; rw [h1, if_neg (by omega)]
          have HD0 := fun w => digit_any rn h2 w
          rw [hdg] at HD0
          have PVS : Hid (pv s b (k + 1) = pv s b k * b + dgv (bt s k)) := Lib.hid rfl
          generalize dgv (bt s k) = d at *
          have HD := HD0
          have HDLT := Lib.hid hdv
          have IT1 : Hid ((wr.iterAt g s (k + 1)).heap[g]? = some (.stringIter s (k + 1))) := Lib.hid (Lib.iterAt_heap wr g s k (k + 1) hit)
          have OW1 := Lib.hid (own_iterAt hown s (k + 1) (Nat.lt_succ_self g))
          have BW1 := Lib.hid (Lib.below_iterAt hbel HGW.out s (k + 1))
          have SZ1 : Hid ((wr.iterAt g s (k + 1)).heap.size = wr.heap.size) := Lib.hid (Lib.iterAt_size wr g s (k + 1))
          have HHC := Lib.hid hhc; have HCB := Lib.hid hcb
          have hdv15 : d ≤ 15 := by omega
          clear HD0 hdg h1 h3 hown lx tx hxb he hbel hit hdv
          have hcb' : c ≤ 18446744073709551615 := by unfold B64 at hcb; omega
          clear hcb
          by_cases hcq : q < c
          · have hd : decide ((q : Int) < (c : Int)) = true := decide_eq_true (by omega)
            have TL := Lib.hid (timesLimb_any (g + 1) _ xs c h (wr.iterAt g s (k + 1)) OW1.out LX.out TX.out HCB.out (by omega) (Nat.lt_trans HHC.out HCB.out) (by omega) (by rw [SZ1.out]; omega))
            go_wp2_with fail
            refine TL.out.mono ?_
            rintro e w3 ⟨v3, ys, rfl, hown3, hg3, hl3, ht3, hv3, hlen3⟩
            have IT3 : Hid (w3.heap[g]? = some (.stringIter s (k + 1))) := Lib.hid ((hg3.block g (by rw [SZ1.out]; exact hgl) (fun e => absurd (OW1.out.lt g e.symm).1 (by omega))).trans IT1.out)
            have BW3 := Lib.hid (below_own (B := w.heap.size) BW1.out (own_base OW1.out (by have := HGW.out; omega)) hg3 (by rw [SZ1.out]; exact Nat.le_trans HGW.out (Nat.le_of_lt hgl)))
            have OW3 := Lib.hid hown3; have LX3 := Lib.hid hl3; have TX3 := Lib.hid ht3
            have HE3 : Hid (val B64 ys = pv s b k) := Lib.hid (by rw [hv3, Nat.mul_comm]; exact HE.out)
            have S3 := Lib.hid (sl_own hown3 (by omega))
            have GI := long_gen (m := maxL) hl3
            rw [trimL_of_top ht3] at GI
            have GI2 : Hid (4096 < ys.length ↔ Big ≤ val B64 ys) := Lib.hid GI
            have hyl : ys.length ≤ 4097 := by omega
            clear hown3 hg3 hl3 ht3 hv3 hlen3 GI
            by_cases hlong : 4096 < ys.length
            · have hd2 : decide (4096 < ys.length) = true := decide_eq_true hlong
              have E9 : Hid (Big ≤ pv s b s.size) := Lib.hid (by
                have h8 := GI2.out.1 hlong
                rw [HE3.out] at h8
                have h9 := pv_mono (s := s) (b := b) (by omega) k (s.size - k)
                rw [show k + (s.size - k) = s.size by omega] at h9
                omega)
              have E8 := Lib.hid (cut_big E9.out)
              clear hlong
              go_wp2_with fail
              refine (tooLong_any S3.out).mono ?_
              rintro e w4 ⟨rfl, rfl⟩
              go_wp2
              go_ret2
              exact ⟨_, by rw [E.out.2, E8.out.2]; rfl, by rw [E.out.1, E8.out.1]; exact num_nil _, BW3.out⟩
            · have hd2 : decide (4096 < ys.length) = false := decide_eq_false hlong
              have XB3 : Hid (val B64 ys < Big) := Lib.hid (Nat.lt_of_not_le fun h => hlong (GI2.out.2 h))
              have HE4 : Hid (val B64 ys * 1 + 0 = pv s b k) := Lib.hid (by rw [Nat.mul_one]; exact HE3.out)
              clear hlong
              go_wp2_with fail
              refine (tooLong_any S3.out).mono ?_
              rintro e w4 ⟨rfl, rfl⟩
              go_wp2_with fail
              refine (HD _).mono ?_
              rintro e w9 ⟨rfl, rfl⟩
              go_wp2
              go_roundw
              case rel =>
                have hp := par_step HE4.out HDLT.out (by omega)
                have hcb9 := hq1
                exact ⟨k + 1, ys, 1 * b, 0 * b + d, by omega, IT3.out, OW3.out, LX3.out, TX3.out, XB3.out, by first | rfl | (congr 1; simp) | (simp), by first | rfl | (congr 1; simp) | simp, hp.2, by have := HQ.out _ hcb9; unfold B64; omega, by rw [hp.1, PVS.out], BW3.out⟩
              case measure => show isizeOf _ g s < isizeOf _ g s; rw [isize_at IT3.out, isize_at HIT0.out]; omega
          · have hd : decide ((q : Int) < (c : Int)) = false := decide_eq_false (by omega)
            have hcq' : c ≤ q := by omega
            have hbig := HQ.out c hcq'
            have hch : h * b + d ≤ 18446744073709551615 := by
              have := (par_step (X := 0) (P := h) (by simp) HDLT.out HHC.out).2
              omega
            have hhb : h * b ≤ 18446744073709551615 := by omega
            have wa : IntKind.u64.wrap ((c : Int) * (b : Int)) = ((c * b : Nat) : Int) := by rw [← Int.natCast_mul]; exact wrap_u64 _ (by unfold B64; omega)
            have wb : IntKind.u64.wrap ((h : Int) * (b : Int)) = ((h * b : Nat) : Int) := by rw [← Int.natCast_mul]; exact wrap_u64 _ (by unfold B64; omega)
            have wd2 : IntKind.u64.wrap (((h * b : Nat) : Int) + (d : Int)) = ((h * b + d : Nat) : Int) := by rw [← Int.natCast_add]; exact wrap_u64 _ (by unfold B64; omega)
            go_wp2_with fail
            refine (HD _).mono ?_
            rintro e w9 ⟨rfl, rfl⟩
            go_wp2
            go_roundw
            case rel =>
              have hp := par_step HE.out HDLT.out HHC.out
              have hcb9 := hcq'
              exact ⟨k + 1, xs, c * b, h * b + d, by omega, IT1.out, OW1.out, LX.out, TX.out, XB.out, by first | rfl | (congr 1; simp) | (simp), by first | rfl | (congr 1; simp) | simp, hp.2, by have := HQ.out _ hcb9; unfold B64; omega, by rw [hp.1, PVS.out], BW1.out⟩
            case measure => show isizeOf _ g s < isizeOf _ g s; rw [isize_at IT1.out, isize_at HIT0.out]; omega
        · obtain rfl : k = s.size := by omega
          have hnx : ∀ ty, (Instr.next (.pointer (some ⟨g, 0, none⟩)) true ty).run Tryd.prog wr = _ := fun ty => Lib.run_next_end_at wr g s s.size ty hit hp
          have TL := Lib.hid (timesLimb_any (g + 1) _ xs c h wr hown lx tx hcb (by omega) (Nat.lt_trans hhc hcb) (by omega) hgl)
          clear hown lx tx hxb he hbel hit
          go_wp2_with fail
          refine TL.out.mono ?_
          rintro e w3 ⟨v3, ys, rfl, hown3, hg3, hl3, ht3, hv3, hlen3⟩
          have BW3 := Lib.hid (below_own (B := w.heap.size) HBL.out (own_base HOWN.out (by have := HGW.out; omega)) hg3 (Nat.le_trans HGW.out (Nat.le_of_lt hgl)))
          have LX3 := Lib.hid hl3
          have HE3 : Hid (val B64 ys = pv s b s.size) := Lib.hid (by rw [hv3, Nat.mul_comm]; exact HE.out)
          have S3 := Lib.hid (sl_own hown3 (by omega))
          clear hown3 hg3 hl3 ht3 hv3 hlen3
          go_wp2_with fail
          refine (answer_any S3.out LX3.out).mono ?_
          rintro e w4 ⟨v4, rfl, hN, rfl⟩
          have HN := Lib.hid hN
          clear hN
          rw [HE3.out] at HN
          go_wp2
          go_ret2
          exact ⟨_, by rw [E.out.2, ← HE3.out]; rfl, by rw [E.out.1]; exact HN.out, BW3.out⟩
    · have E := Lib.hid (HK.dig b rfl hB hD)
      have ID := Lib.hid (isDigits_any s b hb16 false (by simp [hD]) w)
      clear HK hB hD hb
      go_enter Tryd.func43, Tryd.ntmps43
      go_wp2_with fail
      refine IB.out.mono ?_
      rintro e w' ⟨rfl, rfl⟩
      go_wp2_with fail
      refine ID.out.mono ?_
      rintro e w1 ⟨rfl, hb1⟩
      have B1 := Lib.hid hb1
      clear hb1
      go_wp2
      go_ret2
      exact ⟨_, by rw [E.out.2]; rfl, by rw [E.out.1]; exact num_nil _, B1.out⟩
  · have E := Lib.hid (HK.bad hB)
    have IB := Lib.hid (isBase_any b false (by simpa [isB] using hB) hb w)
    clear HK hB hb
    go_enter Tryd.func43, Tryd.ntmps43
    go_wp2_with fail
    refine IB.out.mono ?_
    rintro e w' ⟨rfl, rfl⟩
    go_wp2
    go_ret2
    exact ⟨_, by rw [E.out.2]; rfl, by rw [E.out.1]; exact num_nil _, Below.refl _ _⟩
end Go.Proofs.YtafeokkkbiaajaaDoor
