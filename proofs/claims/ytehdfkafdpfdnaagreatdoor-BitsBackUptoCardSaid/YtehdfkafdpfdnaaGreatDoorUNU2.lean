/- 9UD 9UE 9UF. -/
import Derived.Test.YtehdfkafdpfdnaaGreatDoorUNA9
import Derived.Test.YtehdfkafdpfdnaaGreatDoorUNU1
import Derived.Test.YtehdfkafdpfdnaaGreatDoorUN4
set_option linter.unusedVariables false
set_option linter.unusedSimpArgs false
/- tribunalref05: binary, Head of a vector. -/
namespace Go.Proofs.YtehdfkafdpfdnaaGreatDoor
open Go.RowKit Mth

theorem info_b8 : (Tryz.prog.info? 5).map (fun i => (i.zero, i.size, i.bytes)) = some (some (.int .u8 0), 1, 1) := by kernel_rfl
/-- make([]byte, n) -/
theorem make_u8 {w : World} {ops : Array Oper} {rest : List Oper} {o : Oper} {a : Act} {Q : Exit → Act → World → Prop}
    (hg : o.guard = none) (l c : Operand) (hop : o.op = Op.makeSlice 114 l c) (L C : Int) (n : Nat) (hl : a.eval l = .int .i64 L) (hc : a.eval c = .int .i64 C) (hL : L = (n : Int)) (hC : C = (n : Int))
    (hn : n ≤ 16777217)
    (hK : ∀ w', Row w' 5 .u8 w.heap.size (List.replicate n 0) → Below w.heap.size w w' → wpList Tryz.prog ops Q rest (a.put o.dst (.slice (some ⟨w.heap.size, 0, none⟩) n n)) w') :
    wpList Tryz.prog ops Q (o :: rest) a w := by
  obtain ⟨i0, hi, hz0, hz1, hz2⟩ := info_parts info_b8
  refine wpList_make_full w hg l c 114 hop w.heap.size 5 i0 _ 1 Tryz.underlying114 hi hz0 hz1 .i64 .i64 L C n hl hc hL hC (by rw [hz2]; omega) (by unfold maxLen; omega) (Nat.le_refl _) ?_
  intro w' hown hgrow
  rw [zeros_own] at hown
  exact hK w' (row_of_own hown).1 ((Below.refl _ _).grown hgrow (Nat.le_refl _) (fun k e => by simp at e))
theorem str_row {w : World} {g n : Nat} {l : List Nat} (h : Row w 5 .u8 g l) (hn : l.length = n) (h256 : ∀ y ∈ l, y < 256) :
    (convert 114 9 (.slice (some ⟨g, 0, none⟩) n n)).run Tryz.prog w = .ok (.string ⟨(toBytes l).toArray⟩) w := by
  have := run_convert_bytes_back (P := Tryz.prog) w 114 9 5 ⟨g, 0, none⟩ n (toBytes l) Tryz.underlying114 Tryz.underlying5 Tryz.underlying9 (fun j hj => by
    rw [bytes_list h256, Addr.add_lit, Nat.zero_add, h.cell (by rw [length_toBytes] at hj; omega)])
  rw [length_toBytes, hn] at this
  exact this
/-- what the loop of binary holds -/
def BiO (W wr : World) (wd n : Nat) (i : Value) : Prop := ∃ (k : Nat) (bs : List Nat), k ≤ wd ∧ i = .int .i64 (k : Int) ∧ Row wr 5 .u8 W.heap.size bs ∧ bs.length = wd ∧ bs.drop (wd - k) = digs 2 k n ∧ Below W.heap.size W wr
theorem bi_step {wd n k j : Nat} {bs : List Nat} (hl : bs.length = wd) (hj : j + 1 + k = wd) (hd : bs.drop (wd - k) = digs 2 k n) : (bs.set j (dch (n / 2 ^ k % 2))).drop (wd - (k + 1)) = digs 2 (k + 1) n := by
  have e1 : wd - (k + 1) = j := by omega
  have e2 : wd - k = j + 1 := by omega
  rw [e2] at hd
  rw [digs_cons, ← hd, e1, List.drop_set, if_neg (by omega), List.drop_eq_getElem_cons (by omega), Nat.sub_self, List.set_cons_zero]
set_option maxHeartbeats 8000000 in
set_option maxRecDepth 100000 in
theorem rbinary_any (wd : Nat) (h2 : wd ≤ 4096) (u : Value) (xs : List Nat) (w : World) (hs : Sl w .u64 u xs) (hl : Lim B64 xs) :
    Calls Tryz.prog 38 #[.agg #[.int .i64 (wd : Int), u]] w fun e w' => e = .returned (.string (txB 98 (digs 2 wd (val B64 xs)))) ∧ Below w.heap.size w w' := by
  have hlen := hs.len
  obtain ⟨ao, cap, rfl, k1, k2, k3, k4, k5⟩ := hs
  obtain ⟨W, eW, gW, bW, hWs⟩ := alloc1n w (Obj.cells #[.int .i64 (wd : Int), .slice ao xs.length cap] 25)
  have BW := Lib.hid bW; have GW := Lib.hid gW; have EW := Lib.hid eW
  have CE : Hid (∀ wr, Below W.heap.size W wr → ∀ q, q < xs.length → ∃ b off, ao = some ⟨b, off, none⟩ ∧ b < W.heap.size ∧ wr.cell? ⟨b, off + q, none⟩ = some (.int .u64 ((xs.getD q 0 : Nat) : Int))) := Lib.hid (fun wr hb q hq => by
    obtain ⟨b, off, rfl, hlt, h⟩ := k5 (by omega)
    have hlt2 : b < W.heap.size := by omega
    exact ⟨b, off, rfl, hlt2, (hb.cell (p := ⟨b, off + q, none⟩) hlt2).trans ((bW.cell (p := ⟨b, off + q, none⟩) hlt).trans (h q hq))⟩)
  have HL := Lib.hid hl
  unfold maxLen at k2
  obtain ⟨c0, c1, f0, f1, _⟩ := blk2 gW
  clear k3 k4 k5 hl gW bW eW
  go_enter Tryz.func38, Tryz.ntmps38
  go_upto_region 1 with fail
  rw [EW.out]
  go_wp2_with (at_make; refine make_u8 rfl _ _ rfl _ _ wd rfl rfl rfl rfl (by omega) ?_; intro w2 hr2 hb2; have HR2 := Lib.hid hr2; have HB2 := Lib.hid hb2; clear hr2 hb2)
  go_loopw [4] (fun i wr => BiO W wr wd (val B64 xs) i) (fun i _ => wd - (intOf i).toNat)
  case atStart => exact ⟨0, _, Nat.zero_le _, rfl, HR2.out, by simp, by rw [List.drop_of_length_le (by simp)]; rfl, HB2.out⟩
  case round =>
    obtain ⟨k, bs, hk, rfl, hR, hbl, hd, hB⟩ := hrel
    have HR := Lib.hid hR; have HB := Lib.hid hB; have HD := Lib.hid hd
    obtain ⟨d0, d1, _, _, _⟩ := blk2 (car hB GW.out)
    clear hR hB hd c0 c1 f0 f1
    by_cases hlt : k < wd
    · obtain ⟨j, hj⟩ : ∃ j, j + 1 + k = wd := ⟨wd - 1 - k, by omega⟩
      obtain ⟨q, r, hqr, hr⟩ : ∃ q r, k = 64 * q + r ∧ r < 64 := ⟨k / 64, k % 64, by omega, by omega⟩
      have hq64 : (k : Int) / 64 = (q : Int) := by omega
      have hr64 : (k : Int) % 64 = (r : Int) := by omega
      have ST := Lib.hid (bi_step hbl hj HD.out)
      have hjI : (wd : Int) - 1 - (k : Int) = (j : Int) := by omega
      have hjI2 : (wd : Int) + -1 - (k : Int) = (j : Int) := by omega
      have hjl : j < wd := by omega
      have hf := HR.out.free j
      have hc := HR.out.cell (j := j) (by omega)
      have R1 := Lib.hid (HR.out.set j 48).1
      have HB1 : Hid (Below W.heap.size W (wr.setCell ⟨W.heap.size, j, none⟩ (.int .u8 ((48 : Nat) : Int)))) := Lib.hid (HB.out.setCell (Nat.le_refl _) _)
      have LA : Hid (bitN (val B64 xs) k = if q < xs.length then decide (xs.getD q 0 / 2 ^ r % 2 = 1) else false) := Lib.hid (by
        by_cases h : q < xs.length
        · rw [if_pos h, hqr, bit_limb HL.out hr h]
        · rw [if_neg h]; exact bit_far HL.out (by omega))
      have hbN : bitN (val B64 xs) k = decide (val B64 xs / 2 ^ k % 2 = 1) := rfl
      have hm2 := Nat.mod_lt (val B64 xs / 2 ^ k) (show 0 < 2 by omega)
      generalize val B64 xs / 2 ^ k % 2 = y at *
      clear hqr
      go_upto_region 6 with fail
      generalize wr.setCell ⟨W.heap.size, j, none⟩ (.int .u8 48) = wr1 at *
      obtain ⟨p0, p1, _, _, _⟩ := blk2 (car HB1.out GW.out)
      clear d0 d1
      by_cases hq : q < xs.length
      · obtain ⟨b, off, rfl, hbW, hcq⟩ := CE.out _ HB1.out q hq
        have hx := HL.out q
        have hla := LA.out
        rw [if_pos hq, hbN] at hla
        generalize xs.getD q 0 = x at *
        have HX := Lib.hid hx
        by_cases hb : x / 2 ^ r % 2 = 1
        · have hbt : (bits BinOp.and IntKind.u64 ((x : Int) / 2 ^ r) 1 == 1) = true := by rw [bit_end9 x r hx, decide_eq_true hb]
          rw [decide_eq_true hb, decide_eq_true_eq] at hla
          subst hla
          have hf1 := R1.out.free j
          have hc1 := R1.out.cell (j := j) (by rw [List.length_set]; omega)
          have R2 := Lib.hid (R1.out.set j 49).1
          clear hb hx hbN
          go_wp2_with fail
          go_roundw
          case rel => exact ⟨k + 1, _, hlt, rfl, R2.out, by simp [hbl], by rw [List.set_set]; exact ST.out, HB1.out.setCell (Nat.le_refl _) _⟩
          case measure => simp [intOf]; omega
        · have hbt : (bits BinOp.and IntKind.u64 ((x : Int) / 2 ^ r) 1 == 1) = false := by rw [bit_end9 x r hx, decide_eq_false hb]
          rw [decide_eq_false hb, decide_eq_false_iff_not] at hla
          obtain rfl : y = 0 := by omega
          clear hb hx hbN
          go_wp2_with fail
          go_roundw
          case rel => exact ⟨k + 1, _, hlt, rfl, R1.out, by simp [hbl], ST.out, HB1.out⟩
          case measure => simp [intOf]; omega
      · have hla := LA.out
        rw [if_neg hq, hbN, decide_eq_false_iff_not] at hla
        obtain rfl : y = 0 := by omega
        have hq2 : ¬ (q : Int) < (xs.length : Int) := by omega
        clear hbN
        go_wp2_with fail
        go_roundw
        case rel => exact ⟨k + 1, _, hlt, rfl, R1.out, by simp [hbl], ST.out, HB1.out⟩
        case measure => simp [intOf]; omega
    · obtain rfl : k = wd := by omega
      have hd := HD.out
      rw [Nat.sub_self, List.drop_zero] at hd
      subst hd
      have CV := str_row HR.out hbl (fun y hy => digs_lt (by omega) (by omega) _ _ y hy)
      have FIN : Hid ((⟨#[35, 98]⟩ : ByteArray) ++ ⟨(toBytes (digs 2 k (val B64 xs))).toArray⟩ = txB 98 (digs 2 k (val B64 xs))) := Lib.hid (by
        apply ByteArray.ext
        simp [toBytes, txB])
      have hsz : (⟨(toBytes (digs 2 k (val B64 xs))).toArray⟩ : ByteArray).size ≤ 4096 := by rw [str_len, digs_len]; omega
      generalize (⟨(toBytes (digs 2 k (val B64 xs))).toArray⟩ : ByteArray) = S at *
      go_wp2
      go_ret
      exact ⟨congrArg (fun z => Ending.returned (Value.string z)) FIN.out, below_of BW.out HB.out⟩
end Go.Proofs.YtehdfkafdpfdnaaGreatDoor

/- tribunalref05.Head of a vector, tribunalref09.Text. -/
namespace Go.Proofs.YtehdfkafdpfdnaaGreatDoor
open Go.RowKit Mth

theorem cut_dig : ∀ (d : Nat) (_ : d < 16) (w : World), (Instr.sliceAt 9 (.string ⟨#[48, 49, 50, 51, 52, 53, 54, 55, 56, 57, 97, 98, 99, 100, 101, 102]⟩) (some (.int .i64 (d : Int))) (some (.int .i64 ((d : Int) + 1))) none).run Tryz.prog w = .ok (.string ⟨#[(dch d).toUInt8]⟩) w
  | 0, _, w => by kernel_rfl
  | 1, _, w => by kernel_rfl
  | 2, _, w => by kernel_rfl
  | 3, _, w => by kernel_rfl
  | 4, _, w => by kernel_rfl
  | 5, _, w => by kernel_rfl
  | 6, _, w => by kernel_rfl
  | 7, _, w => by kernel_rfl
  | 8, _, w => by kernel_rfl
  | 9, _, w => by kernel_rfl
  | 10, _, w => by kernel_rfl
  | 11, _, w => by kernel_rfl
  | 12, _, w => by kernel_rfl
  | 13, _, w => by kernel_rfl
  | 14, _, w => by kernel_rfl
  | 15, _, w => by kernel_rfl
  | n + 16, h, _ => absurd h (by omega)
theorem cat_dig (d : Nat) (S : List Nat) : (⟨#[d.toUInt8]⟩ : ByteArray) ++ ⟨(toBytes S).toArray⟩ = ⟨(toBytes (d :: S)).toArray⟩ := by
  apply ByteArray.ext
  simp [toBytes]
/-- four bits of a number, the highest first: t of them are still to come -/
def nib (n k t : Nat) : Nat := n / 2 ^ (4 * k + t) % 2 ^ (4 - t)
theorem nib_step {n k t : Nat} (ht : t + 1 ≤ 4) : nib n k t = nib n k (t + 1) * 2 + n / 2 ^ (4 * k + t) % 2 := by
  unfold nib
  have h := mod_cons (n / 2 ^ (4 * k + t)) 2 (4 - (t + 1))
  rw [Nat.div_div_eq_div_mul, ← Nat.pow_succ, show 4 - (t + 1) + 1 = 4 - t by omega] at h
  rw [← h]; rfl
theorem nib_lt {n k t : Nat} : nib n k t < 16 := by
  unfold nib
  have h1 := Nat.mod_lt (n / 2 ^ (4 * k + t)) (show 0 < 2 ^ (4 - t) from Nat.pow_pos (by omega))
  have h2 : 2 ^ (4 - t) ≤ 2 ^ 4 := Nat.pow_le_pow_right (by omega) (by omega)
  omega
theorem nib_end (n k : Nat) : nib n k 0 = n / 16 ^ k % 16 := by
  unfold nib
  rw [Nat.add_zero, Nat.pow_mul]
theorem nib_four (n k : Nat) : nib n k 4 = 0 := by unfold nib; rw [Nat.sub_self, Nat.pow_zero, Nat.mod_one]
/-- what the loops of Text hold -/
def TwO (w wr : World) (q n : Nat) (s i : Value) : Prop := ∃ k p : Nat, k ≤ q ∧ p = 4 * k ∧ i = .int .i64 (p : Int) ∧ s = .string ⟨(toBytes (digs 16 k n)).toArray⟩ ∧ Below w.heap.size w wr
def TwI (w wr : World) (n k : Nat) (d j : Value) : Prop := ∃ t : Nat, t ≤ 4 ∧ j = .int .i64 ((t : Int) - 1) ∧ d = .int .i64 ((nib n k t : Nat) : Int) ∧ Below w.heap.size w wr
set_option maxHeartbeats 8000000 in
set_option maxRecDepth 100000 in
theorem rtext_x (q Q : Nat) (hQ : Q = 4 * q) (h2 : Q ≤ 4096) (u : Value) (xs : List Nat) (w : World) (hs : Sl w .u64 u xs) (hl : Lim B64 xs) (hr : rightF (Q : Int) (val B64 xs) = true) :
    Calls Tryz.prog 6 #[.agg #[.int .i64 (Q : Int), u], .int .i64 16] w fun e w' => e = .returned (.tuple #[.string (txB 120 (digs 16 q (val B64 xs))), .int .i64 0]) ∧ Below w.heap.size w w' := by
  obtain ⟨ao, cap, hu⟩ := hs.shape
  subst hu
  obtain ⟨W, eW, gW, bW, hWs⟩ := alloc1n w (Obj.cells #[.int .i64 (Q : Int), .slice ao xs.length cap] 25)
  have RT := Lib.hid (rright_any (Q : Int) _ xs W (hs.below bW) hl)
  rw [hr] at RT
  have BI : Hid (∀ w1, Below W.heap.size W w1 → ∀ i : Nat, i ≤ 16777216 → Calls Tryz.prog 18 #[.agg #[.int .i64 (Q : Int), .slice ao xs.length cap], .int .i64 (i : Int)] w1 fun e w' => e = .returned (.bool (bitN (val B64 xs) i)) ∧ Below w1.heap.size w1 w') := Lib.hid (fun w1 hb i hi => rbit9_any _ _ xs i hi w1 ((hs.below bW).below hb) hl)
  have BW := Lib.hid bW; have GW := Lib.hid gW; have EW := Lib.hid eW
  have hm4' : (Q : Int) % 4 = 0 := by omega
  generalize val B64 xs = n at *
  have hQ1 : Q ≤ 4 * q := by omega
  have hQ2 : 4 * q ≤ Q := by omega
  clear gW bW eW hs hl hr hQ
  go_enter Tryz.func6, Tryz.ntmps6
  go_upto_region 1 with fail
  rw [EW.out]
  obtain ⟨c0, c1, f0, f1, _⟩ := blk2 GW.out
  go_wp2_with fail
  refine RT.out.mono ?_
  rintro e w2 ⟨rfl, hb2⟩
  have HB2 := Lib.hid hb2
  obtain ⟨d0, d1, _, _, _⟩ := blk2 (car hb2 GW.out)
  clear hb2 c0 c1 f0 f1
  go_wp2_with fail
  rw [hm4']
  go_loopw [6, 7] (fun s i wr => TwO W wr q n s i) (fun _ i _ => Q - (intOf i).toNat)
  case atStart => exact ⟨0, 0, Nat.zero_le _, rfl, rfl, rfl, HB2.out⟩
  case round =>
    obtain ⟨k, p, hk, hp, rfl, rfl, hB⟩ := hrel
    have HB := Lib.hid hB
    have HP := Lib.hid hp
    have hp1 : p ≤ 4 * k := by omega
    have hp2 : 4 * k ≤ p := by omega
    clear hp
    obtain ⟨e0, e1, _, _, _⟩ := blk2 (car hB GW.out)
    clear hB d0 d1
    by_cases hlt : k < q
    · have hlt4 : (p : Int) < (Q : Int) := by omega
      have hp4 : p ≤ 4096 := by omega
      have DC := Lib.hid (digs_cons (b := 16) k n)
      have hsz : (⟨(toBytes (digs 16 k n)).toArray⟩ : ByteArray).size ≤ 4096 := by rw [str_len, digs_len]; omega
      generalize hS : (⟨(toBytes (digs 16 k n)).toArray⟩ : ByteArray) = S at *
      have HS := Lib.hid hS
      clear hS
      go_wp2_with fail
      go_loopw [8, 9] (fun d j wr => TwI W wr n k d j) (fun _ j _ => (intOf j + 1).toNat)
      case atStart => exact ⟨4, by omega, rfl, by rw [nib_four]; rfl, HB.out⟩
      case round =>
        obtain ⟨t, ht, rfl, rfl, hB⟩ := hrel
        have HB3 := Lib.hid hB
        obtain ⟨p0, p1, _, _, _⟩ := blk2 (car hB GW.out)
        clear hB e0 e1
        have hn16 := nib_lt (n := n) (k := k) (t := t)
        rcases Nat.eq_zero_or_pos t with rfl | htp
        · have HE := Lib.hid (nib_end n k)
          generalize nib n k 0 = d at *
          have CD := fun w => cut_dig d hn16 w
          have CAT := Lib.hid (cat_dig (dch d) (digs 16 k n))
          rw [HS.out] at CAT
          have hdl : (d : Int) + 1 ≤ 16 := by omega
          have hsd : (⟨#[(dch d).toUInt8]⟩ : ByteArray).size ≤ 4096 := by show 1 ≤ 4096; omega
          generalize (⟨#[(dch d).toUInt8]⟩ : ByteArray) = D at *
          go_wp2_with fail
          go_roundw
          case rel => exact ⟨k + 1, p + 4, hlt, by omega, by go_num, by rw [DC.out, ← HE.out, ← CAT.out], HB3.out⟩
          case measure => simp [intOf]; omega
        · obtain ⟨t, rfl⟩ : ∃ t', t = t' + 1 := ⟨t - 1, by omega⟩
          rw [show (((t + 1 : Nat) : Int) - 1) = (t : Int) by omega]
          have NS := Lib.hid (nib_step (n := n) (k := k) (t := t) (by omega))
          have BT := Lib.hid (BI.out wr HB3.out (p + t) (by omega))
          rw [Int.natCast_add] at BT
          have hbN : bitN n (p + t) = decide (n / 2 ^ (4 * k + t) % 2 = 1) := by rw [HP.out]; rfl
          have hm2 := Nat.mod_lt (n / 2 ^ (4 * k + t)) (show 0 < 2 by omega)
          rw [hbN] at BT
          clear hbN
          generalize n / 2 ^ (4 * k + t) % 2 = y at *
          generalize nib n k (t + 1) = d at *
          have h2d : 2 * (d : Int) = ((d * 2 : Nat) : Int) := by omega
          rcases (show y = 0 ∨ y = 1 by omega) with rfl | rfl
          · rw [show decide ((0 : Nat) = 1) = false from rfl] at BT
            go_wp2_with fail
            refine BT.out.mono ?_
            rintro e w4 ⟨rfl, hb4⟩
            have HB4 := Lib.hid (below_of HB3.out hb4)
            clear hb4
            go_wp2_with fail
            go_roundw
            case rel => exact ⟨t, by omega, by go_num, by rw [NS.out]; rfl, HB4.out⟩
            case measure => simp [intOf]
          · rw [show decide ((1 : Nat) = 1) = true from rfl] at BT
            go_wp2_with fail
            refine BT.out.mono ?_
            rintro e w4 ⟨rfl, hb4⟩
            have HB4 := Lib.hid (below_of HB3.out hb4)
            clear hb4
            go_wp2_with fail
            go_roundw
            case rel => exact ⟨t, by omega, by go_num, by rw [NS.out]; rfl, HB4.out⟩
            case measure => simp [intOf]
    · obtain rfl : k = q := by omega
      have hge : ¬ (p : Int) < (Q : Int) := by omega
      have FIN : Hid ((⟨#[35, 120]⟩ : ByteArray) ++ ⟨(toBytes (digs 16 k n)).toArray⟩ = txB 120 (digs 16 k n)) := Lib.hid (by
        apply ByteArray.ext
        simp [toBytes, txB])
      have hsz : (⟨(toBytes (digs 16 k n)).toArray⟩ : ByteArray).size ≤ 4096 := by rw [str_len, digs_len]; omega
      generalize (⟨(toBytes (digs 16 k n)).toArray⟩ : ByteArray) = S at *
      go_wp2
      go_ret2
      exact ⟨congrArg (fun z => Ending.returned (Value.tuple #[.string z, .int .i64 0])) FIN.out, below_of BW.out HB.out⟩
end Go.Proofs.YtehdfkafdpfdnaaGreatDoor

/- bits.Text and tribunalref09.Text in one form. -/
namespace Go.Proofs.YtehdfkafdpfdnaaGreatDoor
open Go.RowKit Mth

/-- a text and an error -/
def ResS (w w' : World) (e : Ending) (S : ByteArray) (er : Int) : Prop := e = .returned (.tuple #[.string S, .int .i64 er]) ∧ Below w.heap.size w w'
set_option maxHeartbeats 4000000 in
set_option maxRecDepth 100000 in
theorem text9_base (x base : Int) (h2 : base ≠ 2) (h16 : base ≠ 16) (u : Value) (xs : List Nat) (w : World) (hs : Sl w .u64 u xs) :
    Calls Tryz.prog 5 #[.agg #[.int .i64 x, u], .int .i64 base] w fun e w' => ResS w w' e ⟨#[]⟩ 12 := by
  obtain ⟨ao, cap, rfl⟩ := hs.shape
  obtain ⟨W, eW, gW, bW, hWs⟩ := alloc1n w (Obj.cells #[.int .i64 x, .slice ao xs.length cap] 25)
  have BW := Lib.hid bW; have EW := Lib.hid eW
  have d2 : (base != 2) = true := bne_iff_ne.2 h2
  have d16 : (base != 16) = true := bne_iff_ne.2 h16
  clear hs gW bW eW h2 h16
  go_enter Tryz.func5, Tryz.ntmps5
  go_upto_region 1 with fail
  rw [EW.out]
  go_wp2
  go_ret2
  exact ⟨rfl, BW.out⟩
set_option maxHeartbeats 4000000 in
set_option maxRecDepth 100000 in
theorem text9_bad (x base : Int) (hb : base = 2 ∨ base = 16) (u : Value) (xs : List Nat) (w : World) (hs : Sl w .u64 u xs) (hl : Lim B64 xs) (hr : rightF x (val B64 xs) = false) :
    Calls Tryz.prog 5 #[.agg #[.int .i64 x, u], .int .i64 base] w fun e w' => ResS w w' e ⟨#[]⟩ 90 := by
  obtain ⟨ao, cap, hu⟩ := hs.shape
  subst hu
  obtain ⟨W, eW, gW, bW, hWs⟩ := alloc1n w (Obj.cells #[.int .i64 x, .slice ao xs.length cap] 25)
  have RT := Lib.hid (right_any x _ xs W (hs.below bW) hl)
  rw [hr] at RT
  have BW := Lib.hid bW; have EW := Lib.hid eW
  obtain ⟨c0, c1, f0, f1, _⟩ := blk2 gW
  clear hs gW bW eW hl hr
  rcases hb with rfl | rfl
  all_goals
    go_enter Tryz.func5, Tryz.ntmps5
    go_upto_region 1 with fail
    rw [EW.out]
    go_wp2_with fail
    refine RT.out.mono ?_
    rintro e w2 ⟨rfl, hb2⟩
    have B2 := Lib.hid (below_of BW.out hb2)
    clear hb2
    go_wp2
    go_ret2
    exact ⟨rfl, B2.out⟩
set_option maxHeartbeats 4000000 in
set_option maxRecDepth 100000 in
theorem text9_odd (wd : Nat) (hw : wd ≤ 4096) (h4 : wd % 4 ≠ 0) (u : Value) (xs : List Nat) (w : World) (hs : Sl w .u64 u xs) (hl : Lim B64 xs) (hr : rightF (wd : Int) (val B64 xs) = true) :
    Calls Tryz.prog 5 #[.agg #[.int .i64 (wd : Int), u], .int .i64 16] w fun e w' => ResS w w' e ⟨#[]⟩ 12 := by
  obtain ⟨ao, cap, hu⟩ := hs.shape
  subst hu
  obtain ⟨W, eW, gW, bW, hWs⟩ := alloc1n w (Obj.cells #[.int .i64 (wd : Int), .slice ao xs.length cap] 25)
  have RT := Lib.hid (right_any (wd : Int) _ xs W (hs.below bW) hl)
  rw [hr] at RT
  have BW := Lib.hid bW; have EW := Lib.hid eW; have GW := Lib.hid gW
  obtain ⟨c0, c1, f0, f1, _⟩ := blk2 gW
  have hm : (wd : Int) % 4 = ((wd % 4 : Nat) : Int) := by omega
  have hmd : (((wd % 4 : Nat) : Int) != 0) = true := bne_iff_ne.2 (by omega)
  generalize wd % 4 = r at *
  clear hs gW bW eW hl hr h4
  go_enter Tryz.func5, Tryz.ntmps5
  go_upto_region 1 with fail
  rw [EW.out]
  go_wp2_with fail
  refine RT.out.mono ?_
  rintro e w2 ⟨rfl, hb2⟩
  have B2 := Lib.hid (below_of BW.out hb2)
  obtain ⟨d0, d1, _, _, _⟩ := blk2 (car hb2 GW.out)
  clear hb2 c0 c1 f0 f1
  go_wp2
  go_ret2
  exact ⟨rfl, B2.out⟩
set_option maxHeartbeats 4000000 in
set_option maxRecDepth 100000 in
theorem text9_b (wd : Nat) (h1 : 1 ≤ wd) (hw : wd ≤ 4096) (u : Value) (xs : List Nat) (w : World) (hs : Sl w .u64 u xs) (hl : Lim B64 xs) (hr : rightF (wd : Int) (val B64 xs) = true) (hn : val B64 xs < 2 ^ wd) (hz : TZ w) :
    Calls Tryz.prog 5 #[.agg #[.int .i64 (wd : Int), u], .int .i64 2] w fun e w' => ResS w w' e (txB 98 (digs 2 wd (val B64 xs))) 0 := by
  obtain ⟨ao, cap, hu⟩ := hs.shape
  subst hu
  obtain ⟨W, eW, gW, bW, hWs⟩ := alloc1n w (Obj.cells #[.int .i64 (wd : Int), .slice ao xs.length cap] 25)
  have RT := Lib.hid (right_any (wd : Int) _ xs W (hs.below bW) hl)
  rw [hr] at RT
  have NT : Hid (∀ w1, Below W.heap.size W w1 → Calls Tryz.prog 14 #[.slice ao xs.length cap, .int .i64 2] w1 fun e w' => e = .returned (.tuple #[.string ⟨(toBytes (numeral 2 (val B64 xs))).toArray⟩, .int .i64 0]) ∧ Below w1.heap.size w1 w') := Lib.hid (fun w1 hb => ntext2 _ xs w1 ((hs.below bW).below hb) hl ((hz.below bW).below hb) (Nat.lt_trans hn (two_big hw).1))
  have hlen : (numeral 2 (val B64 xs)).length ≤ wd := numeral_len (by omega) hn (by omega)
  have PD : Hid (∀ w1, Calls Tryz.prog 15 #[.string ⟨(toBytes (numeral 2 (val B64 xs))).toArray⟩, .int .i64 (wd : Int)] w1 fun e w' => e = .returned (.string ⟨(toBytes (digs 2 wd (val B64 xs))).toArray⟩) ∧ Below w1.heap.size w1 w') := Lib.hid (fun w1 => by
    have h := padded_any _ wd hlen hw w1
    rwa [pad_numeral (by omega) wd _ (by omega) hn] at h)
  have FIN : Hid ((⟨#[35, 98]⟩ : ByteArray) ++ ⟨(toBytes (digs 2 wd (val B64 xs))).toArray⟩ = txB 98 (digs 2 wd (val B64 xs))) := Lib.hid (by
    apply ByteArray.ext
    simp [toBytes, txB])
  have hsz : (⟨(toBytes (digs 2 wd (val B64 xs))).toArray⟩ : ByteArray).size ≤ 4096 := by rw [str_len, digs_len]; omega
  generalize (⟨(toBytes (digs 2 wd (val B64 xs))).toArray⟩ : ByteArray) = S at *
  generalize (⟨(toBytes (numeral 2 (val B64 xs))).toArray⟩ : ByteArray) = D at *
  generalize txB 98 (digs 2 wd (val B64 xs)) = T at *
  have BW := Lib.hid bW; have EW := Lib.hid eW; have GW := Lib.hid gW
  obtain ⟨c0, c1, f0, f1, _⟩ := blk2 gW
  clear hs gW bW eW hl hr hn hz hlen
  go_enter Tryz.func5, Tryz.ntmps5
  go_upto_region 1 with fail
  rw [EW.out]
  go_wp2_with fail
  refine RT.out.mono ?_
  rintro e w2 ⟨rfl, hb2⟩
  have H2 := Lib.hid hb2
  have B2 := Lib.hid (below_of BW.out hb2)
  have G2 := Lib.hid (car hb2 GW.out)
  obtain ⟨d0, d1, _, _, _⟩ := blk2 G2.out
  clear hb2 c0 c1 f0 f1
  go_wp2_with fail
  refine (NT.out _ H2.out).mono ?_
  rintro e w3 ⟨rfl, hb3⟩
  have B3 := Lib.hid (below_of B2.out hb3)
  obtain ⟨e0, e1, _, _, _⟩ := blk2 (car hb3 G2.out)
  clear hb3 d0 d1
  go_wp2_with fail
  refine (PD.out _).mono ?_
  rintro e w4 ⟨rfl, hb4⟩
  have B4 := Lib.hid (below_of B3.out hb4)
  clear hb4
  go_wp2
  go_ret2
  exact ⟨congrArg (fun z => Ending.returned (Value.tuple #[.string z, .int .i64 0])) FIN.out, B4.out⟩
set_option maxHeartbeats 4000000 in
set_option maxRecDepth 100000 in
theorem text9_x (q : Nat) (h1 : 1 ≤ q) (hw : 4 * q ≤ 4096) (u : Value) (xs : List Nat) (w : World) (hs : Sl w .u64 u xs) (hl : Lim B64 xs) (hr : rightF ((4 * q : Nat) : Int) (val B64 xs) = true) (hn : val B64 xs < 2 ^ (4 * q)) (hz : TZ w) :
    Calls Tryz.prog 5 #[.agg #[.int .i64 ((4 * q : Nat) : Int), u], .int .i64 16] w fun e w' => ResS w w' e (txB 120 (digs 16 q (val B64 xs))) 0 := by
  obtain ⟨ao, cap, hu⟩ := hs.shape
  subst hu
  obtain ⟨W, eW, gW, bW, hWs⟩ := alloc1n w (Obj.cells #[.int .i64 ((4 * q : Nat) : Int), .slice ao xs.length cap] 25)
  have RT := Lib.hid (right_any ((4 * q : Nat) : Int) _ xs W (hs.below bW) hl)
  rw [hr] at RT
  have hn16 : val B64 xs < 16 ^ q := by rw [Nat.pow_mul] at hn; exact hn
  have NT : Hid (∀ w1, Below W.heap.size W w1 → Calls Tryz.prog 14 #[.slice ao xs.length cap, .int .i64 16] w1 fun e w' => e = .returned (.tuple #[.string ⟨(toBytes (numeral 16 (val B64 xs))).toArray⟩, .int .i64 0]) ∧ Below w1.heap.size w1 w') := Lib.hid (fun w1 hb => ntext16 _ xs w1 ((hs.below bW).below hb) hl ((hz.below bW).below hb) (Nat.lt_trans hn (two_big hw).1))
  have hlen : (numeral 16 (val B64 xs)).length ≤ q := numeral_len (by omega) hn16 (by omega)
  have PD : Hid (∀ w1, Calls Tryz.prog 15 #[.string ⟨(toBytes (numeral 16 (val B64 xs))).toArray⟩, .int .i64 (q : Int)] w1 fun e w' => e = .returned (.string ⟨(toBytes (digs 16 q (val B64 xs))).toArray⟩) ∧ Below w1.heap.size w1 w') := Lib.hid (fun w1 => by
    have h := padded_any _ q hlen (by omega) w1
    rwa [pad_numeral (by omega) q _ (by omega) hn16] at h)
  have FIN : Hid ((⟨#[35, 120]⟩ : ByteArray) ++ ⟨(toBytes (digs 16 q (val B64 xs))).toArray⟩ = txB 120 (digs 16 q (val B64 xs))) := Lib.hid (by
    apply ByteArray.ext
    simp [toBytes, txB])
  have hsz : (⟨(toBytes (digs 16 q (val B64 xs))).toArray⟩ : ByteArray).size ≤ 4096 := by rw [str_len, digs_len]; omega
  have hd4 : ((4 * q : Nat) : Int) / 4 = (q : Int) := by omega
  have hd4' : ((4 * q : Nat) : Int).tdiv 4 = (q : Int) := by rw [Int.tdiv_eq_ediv_of_nonneg (by omega), hd4]
  have hm4 : ((4 * q : Nat) : Int) % 4 = 0 := by omega
  generalize (⟨(toBytes (digs 16 q (val B64 xs))).toArray⟩ : ByteArray) = S at *
  generalize (⟨(toBytes (numeral 16 (val B64 xs))).toArray⟩ : ByteArray) = D at *
  generalize txB 120 (digs 16 q (val B64 xs)) = T at *
  have BW := Lib.hid bW; have EW := Lib.hid eW; have GW := Lib.hid gW
  obtain ⟨c0, c1, f0, f1, _⟩ := blk2 gW
  have hq4 : 4 * q ≤ 4096 := hw
  generalize hQ : 4 * q = Q at *
  clear hs gW bW eW hl hr hn hz hlen hn16 hQ
  go_enter Tryz.func5, Tryz.ntmps5
  go_upto_region 1 with fail
  rw [EW.out]
  go_wp2_with fail
  refine RT.out.mono ?_
  rintro e w2 ⟨rfl, hb2⟩
  have H2 := Lib.hid hb2
  have B2 := Lib.hid (below_of BW.out hb2)
  have G2 := Lib.hid (car hb2 GW.out)
  obtain ⟨d0, d1, _, _, _⟩ := blk2 G2.out
  clear hb2 c0 c1 f0 f1
  go_wp2_with fail
  refine (NT.out _ H2.out).mono ?_
  rintro e w3 ⟨rfl, hb3⟩
  have B3 := Lib.hid (below_of B2.out hb3)
  obtain ⟨e0, e1, _, _, _⟩ := blk2 (car hb3 G2.out)
  clear hb3 d0 d1
  go_wp2_with fail
  refine (PD.out _).mono ?_
  rintro e w4 ⟨rfl, hb4⟩
  have B4 := Lib.hid (below_of B3.out hb4)
  clear hb4
  go_wp2
  go_ret2
  exact ⟨congrArg (fun z => Ending.returned (Value.tuple #[.string z, .int .i64 0])) FIN.out, B4.out⟩
end Go.Proofs.YtehdfkafdpfdnaaGreatDoor
