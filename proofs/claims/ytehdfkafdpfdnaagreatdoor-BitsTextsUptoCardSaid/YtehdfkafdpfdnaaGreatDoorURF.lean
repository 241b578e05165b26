/- Half To Ref Cmp RefB AliveL Sub AddH Add MulH MulR Adds Len Shift Shl RShift. -/
import Derived.Test.YtehdfkafdpfdnaaGreatDoorUSM
import Derived.Laws.BitsAllLaws
import Derived.RegionTactic
import Derived.BigRegion
import Derived.Deep.QuietTactic
import Derived.BigQuiet
import Derived.Test.YtehdfkafdpfdnaaGreatDoorUMA
import Derived.Test.YtehdfkafdpfdnaaGreatDoorUMB
import Derived.WalkLawsBesides
set_option linter.unusedVariables false
set_option linter.unusedSimpArgs false
/- tribunalref01: trim, From. -/
namespace Go.Proofs.YtehdfkafdpfdnaaGreatDoor
open Go.RowKit Mth

/-- the length in a slot -/
def lenOf : Value → Nat | .slice _ n _ => n | _ => 0

theorem and_hf (a : Nat) : bits BinOp.and IntKind.u32 ((a : Int) % 4294967296) 65535 = ((a % 65536 : Nat) : Int) := by
  have h := u32_and_nat (a % 4294967296) 65535 (by omega) (by omega)
  rw [show ((65535 : Nat) : Int) = 65535 from rfl, Int.natCast_emod] at h
  rw [show ((4294967296 : Nat) : Int) = 4294967296 from rfl] at h
  rw [h, show (65535 : Nat) = 2 ^ 16 - 1 from rfl, Nat.and_two_pow_sub_one_eq_mod]
  congr 1
  omega
theorem hf0 (x : Nat) : bits BinOp.and IntKind.u32 ((x : Int) % 4294967296) 65535 = ((hf x 0 : Nat) : Int) := by rw [and_hf]; simp [hf]
theorem hf1 (x : Nat) : bits BinOp.and IntKind.u32 ((x : Int) / 65536 % 4294967296) 65535 = ((hf x 1 : Nat) : Int) := by
  have := and_hf (x / 65536)
  rw [Int.natCast_ediv] at this
  exact this
theorem hf2 (x : Nat) : bits BinOp.and IntKind.u32 ((x : Int) / 4294967296 % 4294967296) 65535 = ((hf x 2 : Nat) : Int) := by
  have := and_hf (x / 4294967296)
  rw [Int.natCast_ediv] at this
  exact this
theorem hf3 (x : Nat) : bits BinOp.and IntKind.u32 ((x : Int) / 281474976710656 % 4294967296) 65535 = ((hf x 3 : Nat) : Int) := by
  have := and_hf (x / 281474976710656)
  rw [Int.natCast_ediv] at this
  exact this

/-- what From's loops hold -/
def FromO (w wr : World) (xs : List Nat) (v i : Value) : Prop := ∃ k : Nat, k ≤ xs.length ∧ i = .int .i64 k ∧ wr.ownsRow w.heap.size 160 1 v (halves (xs.take k)).length (cellsOf .u32 (halves (xs.take k))) ∧ Below w.heap.size w wr
def FromI (w wr : World) (hs : List Nat) (x : Nat) (v i : Value) : Prop := ∃ m : Nat, m ≤ 4 ∧ i = .int .i64 m ∧ wr.ownsRow w.heap.size 160 1 v (hs ++ (quad x).take m).length (cellsOf .u32 (hs ++ (quad x).take m)) ∧ Below w.heap.size w wr

end Go.Proofs.YtehdfkafdpfdnaaGreatDoor

/- tribunalref01.To. -/
namespace Go.Proofs.YtehdfkafdpfdnaaGreatDoor
open Go.RowKit Mth

end Go.Proofs.YtehdfkafdpfdnaaGreatDoor

/- tribunalref01: From at any list, Same, Small, Of, Long, limb; nat.Small. -/
namespace Go.Proofs.YtehdfkafdpfdnaaGreatDoor
open Go.RowKit Mth

theorem bdrawn {B : Nat} {a w : World} (h : Below B a w) (n : Nat) : Below B a (w.drewN n) := ⟨h.os, h.tape, h.output, h.size, h.block⟩
end Go.Proofs.YtehdfkafdpfdnaaGreatDoor

/- nat.Cmp and tribunalref01.CmpH, Cmp: the order of numbers. -/
namespace Go.Proofs.YtehdfkafdpfdnaaGreatDoor
open Go.RowKit Mth

theorem cmp_lt {a b : Nat} (h : a < b) : cmp3 a b = -1 := if_pos h
theorem cmp_gt {a b : Nat} (h : b < a) : cmp3 a b = 1 := by unfold cmp3; rw [if_neg (by omega), if_pos h]
theorem cmp_eq {a b : Nat} (h : a = b) : cmp3 a b = 0 := by unfold cmp3; rw [if_neg (by omega), if_neg (by omega)]

set_option maxHeartbeats 2000000 in
set_option maxRecDepth 100000 in
theorem cmp_any (v1 v2 : Value) (xs ys : List Nat) (w : World) (h1 : Sl w .u64 v1 xs) (h2 : Sl w .u64 v2 ys) (l1 : Lim B64 xs) (l2 : Lim B64 ys) :
    Calls Tryz.prog 150 #[v1, v2] w fun e w' => e = .returned (.int .i64 (cmp3 (val B64 xs) (val B64 ys))) ∧ Below w.heap.size w w' := by
  have T1 := trim_any h1
  have T2 := trim_any h2
  have k1 := lim_trimL l1; have k2 := lim_trimL l2
  have p1 := top_trimL xs; have p2 := top_trimL ys
  have e1 : val B64 (trimL xs) = val B64 xs := val_trimL _ _
  have e2 : val B64 (trimL ys) = val B64 ys := val_trimL _ _
  rw [← e1, ← e2]
  clear e1 e2 l1 l2 h1 h2
  generalize trimL xs = ts at *
  generalize trimL ys = us at *
  have HT1 := Lib.hid T1; have HT2 := Lib.hid T2; have HK1 := Lib.hid k1; have HK2 := Lib.hid k2; have HP1 := Lib.hid p1; have HP2 := Lib.hid p2
  clear T1 T2 k1 k2 p1 p2
  go_enter Tryz.func150, Tryz.ntmps150
  go_wp2_with fail
  refine HT1.out.mono ?_
  rintro e w1 ⟨va, rfl, hs1, rfl⟩
  go_wp2_with fail
  refine HT2.out.mono ?_
  rintro e w1 ⟨vb, rfl, hs2, rfl⟩
  have hl1 := hs1.len
  have hl2 := hs2.len
  by_cases hlt : ts.length < us.length
  · have E := Lib.hid (cmp_lt (val_lt_of_length B64_pos HK1.out HP2.out hlt))
    obtain ⟨a1, c1, rfl⟩ := hs1.shape
    obtain ⟨a2, c2, rfl⟩ := hs2.shape
    clear hs1 hs2
    go_wp2
    go_ret
    exact ⟨by rw [E.out]; rfl, Below.refl _ _⟩
  · by_cases hgt : us.length < ts.length
    · have E := Lib.hid (cmp_gt (val_lt_of_length B64_pos HK2.out HP1.out hgt))
      obtain ⟨a1, c1, rfl⟩ := hs1.shape
      obtain ⟨a2, c2, rfl⟩ := hs2.shape
      clear hs1 hs2
      go_wp2
      go_ret
      exact ⟨by rw [E.out]; rfl, Below.refl _ _⟩
    · have hle : ts.length = us.length := by omega
      have HLE := Lib.hid hle
      obtain ⟨a1, c1, rfl, q1, q2, q3, q4, hc1⟩ := hs1
      obtain ⟨a2, c2, rfl, r1, r2, r3, r4, hc2⟩ := hs2
      have HC1 := Lib.hid hc1; have HC2 := Lib.hid hc2
      unfold maxLen at q2 r2
      clear hle hc1 hc2 q4 r4
      go_wp2
      go_loopw [5] (fun i wr => ∃ m : Nat, m ≤ ts.length ∧ i = .int .i64 ((m : Int) - 1) ∧ val B64 (ts.drop m) = val B64 (us.drop m) ∧ Below w.heap.size w wr) (fun i _ => (intOf i + 1).toNat)
      case atStart => exact ⟨ts.length, Nat.le_refl _, rfl, by rw [List.drop_length, HLE.out, List.drop_length], Below.refl _ _⟩
      case round =>
        obtain ⟨m, hm, rfl, heq, hbel⟩ := hrel
        by_cases h0 : 0 < m
        · obtain ⟨k, rfl⟩ : ∃ k, m = k + 1 := ⟨m - 1, by omega⟩
          rw [show (((k + 1 : Nat) : Int) - 1) = (k : Int) by omega]
          have hu : k < us.length := by have := HLE.out; omega
          obtain ⟨b1, o1, rfl, hb1, hd1⟩ := HC1.out (by omega)
          obtain ⟨b2, o2, rfl, hb2, hd2⟩ := HC2.out (by omega)
          have ck1 : wr.cell? ⟨b1, o1 + k, none⟩ = some (.int .u64 ((ts.getD k 0 : Nat) : Int)) := (hbel.cell (p := ⟨b1, o1 + k, none⟩) hb1).trans (hd1 k (by omega))
          have ck2 : wr.cell? ⟨b2, o2 + k, none⟩ = some (.int .u64 ((us.getD k 0 : Nat) : Int)) := (hbel.cell (p := ⟨b2, o2 + k, none⟩) hb2).trans (hd2 k hu)
          have HB := Lib.hid hbel; have HEQ := Lib.hid heq
          have V1 := Lib.hid (fun h => val_lt_of_top (by have := B64_pos; omega) HK1.out (show k < ts.length by omega) hu heq h)
          have V2 := Lib.hid (fun h => val_lt_of_top (by have := B64_pos; omega) HK2.out hu (show k < ts.length by omega) heq.symm h)
          have V3 : Hid (ts.getD k 0 = us.getD k 0 → val B64 (ts.drop k) = val B64 (us.drop k)) := Lib.hid fun h => by rw [val_drop B64 ts k (by omega), val_drop B64 us k hu, heq, h]
          clear hd1 hd2 hbel heq hm h0
          generalize ts.getD k 0 = x at *
          generalize us.getD k 0 = y at *
          have hkl : k < ts.length := by omega
          by_cases hxy : x < y
          · have E := Lib.hid (cmp_lt (V1.out hxy))
            have hd : decide ((x : Int) < (y : Int)) = true := decide_eq_true (by omega)
            go_wp2
            go_quiet (fail)
            go_wp2
            go_ret
            exact ⟨by rw [E.out]; rfl, bdrawn HB.out _⟩
          · by_cases hyx : y < x
            · have E := Lib.hid (cmp_gt (V2.out hyx))
              have hd : decide ((x : Int) < (y : Int)) = false := decide_eq_false (by omega)
              have hd' : decide ((y : Int) < (x : Int)) = true := decide_eq_true (by omega)
              go_wp2
              go_quiet (fail)
              go_wp2
              go_quiet (fail)
              go_wp2
              go_ret
              exact ⟨by rw [E.out]; rfl, bdrawn (bdrawn HB.out _) _⟩
            · have E := Lib.hid (V3.out (by omega))
              have hd : decide ((x : Int) < (y : Int)) = false := decide_eq_false (by omega)
              have hd' : decide ((y : Int) < (x : Int)) = false := decide_eq_false (by omega)
              go_wp2
              go_quiet (fail)
              go_wp2
              go_quiet (fail)
              go_wp2
              go_roundw
              case rel => exact ⟨k, by omega, by go_num, E.out, bdrawn HB.out _⟩
              case measure => simp [intOf]
        · obtain rfl : m = 0 := by omega
          have HB := Lib.hid hbel
          have E : Hid (cmp3 (val B64 ts) (val B64 us) = 0) := Lib.hid (cmp_eq (by simpa using heq))
          clear hbel heq hm h0
          go_wp2
          go_ret
          exact ⟨by rw [E.out]; rfl, HB.out⟩

end Go.Proofs.YtehdfkafdpfdnaaGreatDoor

/- tribunalref01: limb, Long, long, result, SubH, AddH. -/
namespace Go.Proofs.YtehdfkafdpfdnaaGreatDoor
open Go.RowKit Mth

end Go.Proofs.YtehdfkafdpfdnaaGreatDoor

/- Two numbers in a row. (A copy of XAlive's lemma, for seats without tribunallaw01.) -/
namespace Go.Proofs.YtehdfkafdpfdnaaGreatDoor
open Go.RowKit Mth

end Go.Proofs.YtehdfkafdpfdnaaGreatDoor

/- nat.takeFrom, nat.Sub, tribunalref01.Sub, NatSubs. -/
namespace Go.Proofs.YtehdfkafdpfdnaaGreatDoor
open Go.RowKit Mth

theorem num_settle {w : World} {v : Value} {R : List Nat} {n : Nat} (h : Sl w .u64 v (trimL R)) (hl : Lim B64 R) (hv : val B64 R = n) : Num w v n := by
  rw [← hv]; exact num_trim h hl

end Go.Proofs.YtehdfkafdpfdnaaGreatDoor

/- tribunalref01: AddH, Add. -/
namespace Go.Proofs.YtehdfkafdpfdnaaGreatDoor
open Go.RowKit Mth

end Go.Proofs.YtehdfkafdpfdnaaGreatDoor

/- nat: addTo, Add; NatAdds. -/
namespace Go.Proofs.YtehdfkafdpfdnaaGreatDoor
open Go.RowKit Mth

end Go.Proofs.YtehdfkafdpfdnaaGreatDoor

/- tribunalref01.MulH. -/
namespace Go.Proofs.YtehdfkafdpfdnaaGreatDoor
open Go.RowKit Mth

end Go.Proofs.YtehdfkafdpfdnaaGreatDoor

/- tribunalref01.Mul, NatMuls. -/
namespace Go.Proofs.YtehdfkafdpfdnaaGreatDoor
open Go.RowKit Mth

theorem cut_zero : cutN 0 = 0 ∧ cutE 0 = 0 := cut_small (by have := one_lt_big; omega)
end Go.Proofs.YtehdfkafdpfdnaaGreatDoor

/- nat.Add, NatAdds. -/
namespace Go.Proofs.YtehdfkafdpfdnaaGreatDoor
open Go.RowKit Mth

theorem maxLen_24 {n : Nat} (h : n ≤ 16777217) : n ≤ maxLen := by unfold maxLen; omega
end Go.Proofs.YtehdfkafdpfdnaaGreatDoor

/- nat.Len, nat.Bit and tribunalref01's. -/
namespace Go.Proofs.YtehdfkafdpfdnaaGreatDoor
open Go.RowKit Mth

theorem bitsLen_any (x : Nat) (h : x < B64) (w : World) : Calls Tryz.prog 49 #[.int .u64 ((x : Nat) : Int)] w fun e w' => e = .returned (.int .i64 ((bl x : Nat) : Int)) ∧ w = w' := by
  refine (Go.Proofs.Tryz.bits_Len64 (x : Int) w (by omega) (by unfold B64 at h; omega)).mono fun e w' ⟨he, hw⟩ => ⟨?_, hw.symm⟩
  rw [he, Int.toNat_natCast, bl_lib h]

set_option maxRecDepth 100000 in
theorem len_any (v : Value) (xs : List Nat) (w : World) (h : Sl w .u64 v xs) (hl : Lim B64 xs) :
    Calls Tryz.prog 23 #[v] w fun e w' => e = .returned (.int .i64 ((bl (val B64 xs) : Nat) : Int)) ∧ Below w.heap.size w w' := by
  have T := trim_any h
  have k := lim_trimL hl
  have p := top_trimL xs
  have e1 : val B64 (trimL xs) = val B64 xs := val_trimL _ _
  rw [← e1]
  clear e1 h hl
  generalize trimL xs = ts at *
  have HT := Lib.hid T; have HK := Lib.hid k; have HP := Lib.hid p
  clear T k p
  go_enter Tryz.func23, Tryz.ntmps23
  go_wp2_with fail
  refine HT.out.mono ?_
  rintro e w1 ⟨va, rfl, hs1, rfl⟩
  have hlen := hs1.len
  by_cases h0 : ts.length = 0
  · obtain rfl : ts = [] := List.eq_nil_of_length_eq_zero h0
    obtain ⟨a1, c1, rfl⟩ := hs1.shape
    clear hs1 h0
    go_wp2
    go_ret
    exact ⟨rfl, Below.refl _ _⟩
  · have hd0 := len_ne h0
    obtain ⟨b, off, cap, rfl, k1, k2, k3, hc⟩ := hs1.pos (by omega)
    have hct := hc (ts.length - 1) (by omega)
    have hx := HK.out (ts.length - 1)
    have E := Lib.hid (bl_top (s := 64) HK.out HP.out (by omega : 0 < ts.length))
    generalize ts.getD (ts.length - 1) 0 = x at *
    have hb := bl_le (k := 64) hx
    have HX := Lib.hid hx
    unfold maxLen at k2
    clear hs1 hc hx
    have hpos : 0 < ts.length := by omega
    clear h0
    go_wp2_with fail
    refine (bitsLen_any _ HX.out _).mono ?_
    rintro e w1 ⟨rfl, rfl⟩
    go_wp2
    go_ret
    refine ⟨ret_int ?_, Below.refl _ _⟩
    have := E.out
    show _ = ((bl (val B64 ts) : Nat) : Int)
    rw [show B64 = 2 ^ 64 from rfl, this]
    omega

/-- what Bit answers -/
def bitI (n : Nat) (i : Int) : Bool := decide (0 ≤ i) && bitN n i.toNat

theorem bit_end (x r : Nat) (hx : x < B64) : (bits BinOp.and IntKind.u64 ((x : Int) / 2 ^ r) 1 == 1) = decide (x / 2 ^ r % 2 = 1) := by
  have h1 : ((x : Int) / 2 ^ r) = ((x / 2 ^ r : Nat) : Int) := by rw [Int.natCast_ediv, Int.natCast_pow]; rfl
  have h2 := and1 (x / 2 ^ r) (Nat.lt_of_le_of_lt (Nat.div_le_self _ _) hx)
  rw [h1, h2]
  unfold md
  rw [Bool.eq_iff_iff]
  simp
  omega

set_option maxRecDepth 100000 in
theorem bit_any (v : Value) (xs : List Nat) (i : Int) (w : World) (h : Sl w .u64 v xs) (hl : Lim B64 xs) (h1 : -9223372036854775808 ≤ i) (h2 : i ≤ 9223372036854775807) :
    Calls Tryz.prog 55 #[v, .int .i64 i] w fun e w' => e = .returned (.bool (bitI (val B64 xs) i)) ∧ Below w.heap.size w w' := by
  have hlen := h.len
  by_cases hneg : i < 0
  · have E : Hid (bitI (val B64 xs) i = false) := Lib.hid (by unfold bitI; rw [decide_eq_false (by omega)]; rfl)
    have hd : decide (i < 0) = true := decide_eq_true hneg
    go_enter Tryz.func55, Tryz.ntmps55
    go_wp2
    go_ret
    exact ⟨by rw [E.out]; rfl, Below.refl _ _⟩
  · obtain ⟨n, rfl⟩ : ∃ n : Nat, i = n := ⟨i.toNat, by omega⟩
    obtain ⟨q, r, hqr, hr⟩ : ∃ q r, n = 64 * q + r ∧ r < 64 := ⟨n / 64, n % 64, by omega, by omega⟩
    have hq64 : (n : Int) / 64 = (q : Int) := by omega
    have hr64 : (n : Int) % 64 = (r : Int) := by omega
    have hd : decide ((n : Int) < 0) = false := decide_eq_false hneg
    obtain ⟨ao, cap, rfl, k1, k2, k3, k4, k5⟩ := h
    have hqb : (q : Int) ≤ 9223372036854775807 := by omega
    unfold maxLen at k2
    by_cases hfar : xs.length ≤ q
    · have E : Hid (bitI (val B64 xs) (n : Int) = false) := Lib.hid (by unfold bitI; rw [Int.toNat_natCast, bit_far hl (by omega)]; simp)
      have hd2 : decide ((xs.length : Int) ≤ (q : Int)) = true := decide_eq_true (by omega)
      clear k4 k5 hl hqr hneg
      go_enter Tryz.func55, Tryz.ntmps55
      go_wp2
      go_ret
      exact ⟨by rw [E.out]; rfl, Below.refl _ _⟩
    · obtain ⟨b, off, rfl, hb, hc⟩ := k5 (by omega)
      have E : Hid (bitI (val B64 xs) (n : Int) = decide (xs.getD q 0 / 2 ^ r % 2 = 1)) := Lib.hid (by unfold bitI; rw [Int.toNat_natCast, hqr, bit_limb hl hr (by omega), decide_eq_true (by omega), Bool.true_and])
      have hd2 : decide ((xs.length : Int) ≤ (q : Int)) = false := decide_eq_false (by omega)
      have hcq := hc q (by omega)
      have hx := hl q
      generalize xs.getD q 0 = x at *
      have HX := Lib.hid hx
      have hql : q < xs.length := by omega
      clear k4 k5 hl hc hx hqr hneg hfar
      go_enter Tryz.func55, Tryz.ntmps55
      go_wp2
      go_ret
      refine ⟨?_, Below.refl _ _⟩
      rw [E.out]
      exact ret_bool (bit_end x r HX.out)

end Go.Proofs.YtehdfkafdpfdnaaGreatDoor

/- nat: shiftUp, shiftDown, Shl, Shr. -/
namespace Go.Proofs.YtehdfkafdpfdnaaGreatDoor
open Go.RowKit Mth

theorem pow2_int (n : Nat) : ((2 : Int) ^ n) = ((2 ^ n : Nat) : Int) := by rw [Int.natCast_pow]; rfl
/-- x << n of a limb -/
theorem shl_u64 (x n : Nat) : IntKind.u64.wrap ((x : Int) * 2 ^ n) = ((x * 2 ^ n % B64 : Nat) : Int) := by
  rw [pow2_int, ← Int.natCast_mul, IntKind.wrap_u64]
  unfold B64
  omega
theorem shr_u64 (x n : Nat) : (x : Int) / 2 ^ n = ((x / 2 ^ n : Nat) : Int) := by
  rw [pow2_int, ← Int.natCast_ediv]

/-- what shiftUp's loop holds -/
def UpO (w wr : World) (g off : Nat) (R xs : List Nat) (n : Nat) (c i : Value) : Prop := ∃ (k cc : Nat) (R' : List Nat), k ≤ xs.length ∧ i = .int .i64 k ∧ c = .int .u64 (cc : Int) ∧ UpT R R' off xs n k cc ∧ Row wr 55 .u64 g R' ∧ w.grownBy wr (some g)
set_option maxHeartbeats 2000000 in
set_option maxRecDepth 100000 in
theorem shiftUp_any (g off cap n m : Nat) (R xs : List Nat) (v : Value) (w : World) (hR : Row w 55 .u64 g R) (lR : Lim B64 R) (hx : Sl w .u64 v xs) (lx : Lim B64 xs) (hne : inBlock v ≠ some g ∨ xs = []) (hn : off + xs.length + 1 ≤ R.length)
    (hcap : xs.length + 1 ≤ cap) (hm : cap ≤ maxLen) (hnm : n + m = 64) (hn63 : n ≤ 63) (_hRl : R.length ≤ 16777217) :
    Calls Tryz.prog 157 #[.slice (some ⟨g, off, none⟩) (xs.length + 1) cap, v, .int .i64 (n : Int)] w fun e w' => e = .returned (.tuple #[]) ∧ ∃ R', Row w' 55 .u64 g R' ∧ w.grownBy w' (some g) ∧ UpAll R R' off xs n := by
  obtain ⟨ao, cap2, rfl, h1, h2, h3, h4, h5⟩ := hx
  have H5 := Lib.hid h5; have HR := Lib.hid hR; have LR := Lib.hid lR; have LX := Lib.hid lx; have HNE := Lib.hid hne; have HNM := Lib.hid hnm
  unfold maxLen at h2 hm
  clear h3 h4 h5 hR lR lx hne
  have hsub : IntKind.i64.wrap (64 - (n : Int)) = (m : Int) := by rw [IntKind.wrap_i64]; omega
  have hm0 : m ≤ 64 := by omega
  clear hnm
  go_enter Tryz.func157, Tryz.ntmps157
  go_wp2
  go_loopw [6, 11] (fun c i wr => UpO w wr g off R xs n c i) (fun _ i _ => xs.length - (intOf i).toNat)
  case atStart => exact ⟨0, 0, R, Nat.zero_le _, rfl, rfl, upT_zero off xs n LR.out, HR.out, World.grownBy.refl _ _⟩
  case round =>
    obtain ⟨k, c, R', hk, rfl, rfl, hT, hrow, hgr⟩ := hrel
    have HT := Lib.hid hT; have HROW := Lib.hid hrow; have HG := Lib.hid hgr
    by_cases hlt : k < xs.length
    · obtain ⟨bb, boff, rfl, hblt, hc⟩ := H5.out (by omega)
      have hne : bb ≠ g := by
        rcases HNE.out with h | h
        · simpa [inBlock] using h
        · subst h; simp at hlt
      have hcb : wr.cell? ⟨bb, boff + k, none⟩ = some (.int .u64 ((xs.getD k 0 : Nat) : Int)) := hgr.cell (hc k hlt) (by simpa using hne)
      have hcr : wr.cell? ⟨g, off + k, none⟩ = some (.int .u64 ((R'.getD (off + k) 0 : Nat) : Int)) := hrow.cell (by rw [hT.len]; omega)
      have hfr : wr.frozen? ⟨g, off + k, none⟩ = false := hrow.free _
      have HST := Lib.hid (upT_step hT HNM.out LX.out (show off + k < R.length by omega))
      have hc1 := hT.clt
      generalize xs.getD k 0 = x at *
      generalize R'.getD (off + k) 0 = o at *
      clear hc hT hrow hgr hne
      have hor : bits BinOp.or IntKind.u64 (IntKind.u64.wrap ((x : Int) * 2 ^ n)) (c : Int) = ((upLo x n c : Nat) : Int) := by
        have hcb : c < B64 := Nat.lt_of_lt_of_le hc1 (by have : B64 = 2 ^ 64 := rfl; rw [this]; exact Nat.pow_le_pow_right (by omega) (by omega))
        rw [shl_u64, u64_or_nat _ _ (mod64_lt _) hcb, up_or HNM.out hc1]
      have hcar : (x : Int) / 2 ^ m = ((upHi x n : Nat) : Int) := by rw [shr_u64, upHi_div HNM.out]
      have HOR := Lib.hid hor; have HCAR := Lib.hid hcar
      clear hor hcar hc1
      go_wp2
      go_roundw
      case rel =>
        rw [HOR.out, HCAR.out]
        have hset := HROW.out.set (off + k) (upLo x n c)
        exact ⟨k + 1, upHi x n, _, by omega, by go_num, rfl, HST.out, hset.1, grown_trans' HG.out hset.2⟩
      case measure => simp [intOf]; omega
    · obtain rfl : k = xs.length := by omega
      have hE := upT_end hT hn63 (by omega)
      have HE := Lib.hid hE
      have hcr : wr.cell? ⟨g, off + xs.length, none⟩ = some (.int .u64 ((R'.getD (off + xs.length) 0 : Nat) : Int)) := hrow.cell (by rw [hT.len]; omega)
      have hfr : wr.frozen? ⟨g, off + xs.length, none⟩ = false := hrow.free _
      generalize R'.getD (off + xs.length) 0 = o at *
      clear hT hrow hgr hE
      go_wp2
      go_end0
      have hset := HROW.out.set (off + xs.length) c
      exact ⟨rfl, _, hset.1, grown_trans' HG.out hset.2, HE.out⟩

end Go.Proofs.YtehdfkafdpfdnaaGreatDoor

/- nat: Shl, Shr. -/
namespace Go.Proofs.YtehdfkafdpfdnaaGreatDoor
open Go.RowKit Mth

/-- what Shl answers -/
def shlN (a : Nat) (n : Int) : Nat := if n < 0 then 0 else if Big ≤ a then 0 else cutN (a * 2 ^ n.toNat)
def shlE (a : Nat) (n : Int) : Int := if n < 0 then 1 else if Big ≤ a then 5 else cutE (a * 2 ^ n.toNat)
theorem shl_neg {a : Nat} {n : Int} (h : n < 0) : shlN a n = 0 ∧ shlE a n = 1 := ⟨if_pos h, if_pos h⟩
theorem shl_long {a : Nat} {n : Int} (h : ¬ n < 0) (h2 : Big ≤ a) : shlN a n = 0 ∧ shlE a n = 5 := by
  unfold shlN shlE; rw [if_neg h, if_neg h, if_pos h2, if_pos h2]; exact ⟨rfl, rfl⟩
theorem shl_fine {a : Nat} {n : Nat} (h2 : ¬ Big ≤ a) : shlN a (n : Int) = cutN (a * 2 ^ n) ∧ shlE a (n : Int) = cutE (a * 2 ^ n) := by
  have h : ¬ ((n : Int) < 0) := by omega
  unfold shlN shlE; rw [if_neg h, if_neg h, if_neg h2, if_neg h2, Int.toNat_natCast]; exact ⟨rfl, rfl⟩
theorem shl_zero {n : Nat} : shlN 0 (n : Int) = 0 ∧ shlE 0 (n : Int) = 0 := by
  have h := shl_fine (a := 0) (n := n) (by have := one_lt_big; omega)
  rw [Nat.zero_mul, cut_zero.1, cut_zero.2] at h; exact h
theorem big_pow : Big = 2 ^ (64 * maxL) := by
  unfold Big
  have : B64 = 2 ^ 64 := rfl
  rw [this, ← Nat.pow_mul]
theorem max_bits : 262144 = 64 * maxL := by unfold maxL; rfl
/-- long after a shift, by the numbers of digits -/
theorem shl_big {a n : Nat} (h : a ≠ 0) : Big ≤ a * 2 ^ n ↔ 262144 < n + bl a := by
  obtain ⟨m, hm, h1, h2⟩ := bl_spec h
  rw [hm, big_pow, max_bits]
  generalize 64 * maxL = N
  constructor
  · intro h3
    have h4 : a * 2 ^ n < 2 ^ (m + 1) * 2 ^ n := Nat.mul_lt_mul_of_pos_right h2 (Nat.pow_pos (by omega))
    rw [← Nat.pow_add] at h4
    rcases Nat.lt_or_ge N (n + (m + 1)) with h5 | h5
    · exact h5
    · have : 2 ^ (m + 1 + n) ≤ 2 ^ N := Nat.pow_le_pow_right (by omega) (by omega)
      omega
  · intro h3
    have h4 : 2 ^ m * 2 ^ n ≤ a * 2 ^ n := Nat.mul_le_mul_right _ h1
    rw [← Nat.pow_add] at h4
    exact Nat.le_trans (Nat.pow_le_pow_right (by omega) (by omega)) h4

set_option maxHeartbeats 2000000 in
set_option maxRecDepth 100000 in
theorem shl_any (v : Value) (xs : List Nat) (n : Int) (w : World) (h : Sl w .u64 v xs) (hl : Lim B64 xs) (hn : -9223372036854775808 ≤ n ∧ n ≤ 9223372036854775807) :
    Calls Tryz.prog 95 #[v, .int .i64 n] w fun e w' => ∃ v', e = .returned (.tuple #[v', .int .i64 (shlE (val B64 xs) n)]) ∧ Num w' v' (shlN (val B64 xs) n) ∧ Below w.heap.size w w' := by
  obtain ⟨hn1, hn2⟩ := hn
  have T := Lib.hid (trim_any h)
  have G := Lib.hid (long_iff hl)
  have hv : val B64 (trimL xs) = val B64 xs := val_trimL _ _
  have k1 := lim_trimL hl; have p1 := top_trimL xs
  rw [← hv] at G ⊢
  clear h hl hv
  generalize trimL xs = ts at *
  have K := Lib.hid k1; have P := Lib.hid p1
  clear k1 p1
  go_enter Tryz.func95, Tryz.ntmps95
  go_wp2_with fail
  refine T.out.mono ?_
  rintro e w' ⟨va, rfl, s1, rfl⟩
  obtain ⟨a0, c0, rfl⟩ := s1.shape
  have hts := s1.len
  have S := Lib.hid s1
  clear s1
  by_cases hneg : n < 0
  · have E := Lib.hid (shl_neg (a := val B64 ts) hneg)
    go_wp2
    go_ret2
    exact ⟨_, by rw [E.out.2]; rfl, by rw [E.out.1]; exact num_nil _, Below.refl _ _⟩
  · obtain ⟨n, rfl⟩ : ∃ m : Nat, n = (m : Int) := ⟨n.toNat, by omega⟩
    clear hneg hn1
    have hnn : n ≤ 9223372036854775807 := by omega
    by_cases g1 : 4096 < ts.length
    · have hd : decide (4096 < ts.length) = true := decide_eq_true g1
      have E := Lib.hid (shl_long (a := val B64 ts) (n := n) (by omega) (G.out.1 g1))
      clear g1
      go_wp2_with fail
      refine (tooLong_any S.out).mono ?_
      rintro e w' ⟨rfl, rfl⟩
      go_wp2
      go_ret2
      exact ⟨_, by rw [E.out.2]; rfl, by rw [E.out.1]; exact num_nil _, Below.refl _ _⟩
    · have hd : decide (4096 < ts.length) = false := decide_eq_false g1
      have NB : Hid (¬ Big ≤ val B64 ts) := Lib.hid (fun h => g1 (G.out.2 h))
      have E := Lib.hid (shl_fine (n := n) NB.out)
      have g2 : ts.length ≤ 4096 := by omega
      clear g1
      go_wp2_with fail
      refine (tooLong_any S.out).mono ?_
      rintro e w' ⟨rfl, rfl⟩
      by_cases h0 : ts.length = 0
      · have hnil : ts = [] := List.eq_nil_of_length_eq_zero h0
        have hz : val B64 ts = 0 := by rw [hnil]; rfl
        have E0 : Hid (shlN (val B64 ts) (n : Int) = 0 ∧ shlE (val B64 ts) (n : Int) = 0) := Lib.hid (by rw [hz]; exact shl_zero)
        clear hz hnil
        go_wp2
        go_ret2
        exact ⟨_, by rw [E0.out.2]; rfl, by rw [E0.out.1]; exact num_nil _, Below.refl _ _⟩
      · have hpos : 0 < val B64 ts := pos_of_top P.out (by omega)
        have SB := Lib.hid (shl_big (a := val B64 ts) (n := n) (by omega))
        have LN := Lib.hid (len_any _ ts w S.out K.out)
        have hbl : bl (val B64 ts) ≤ 262144 := bl_le (by rw [max_bits, ← big_pow]; exact Nat.lt_of_not_le NB.out)
        have hd0 : ((ts.length : Int) == 0) = false := len_ne h0
        clear hpos
        generalize hbb : bl (val B64 ts) = bb at *
        clear hbb
        by_cases hbig : 262144 < n + bb
        · have E2 := Lib.hid (cut_big (SB.out.2 hbig))
          go_wp2_with fail
          refine LN.out.mono ?_
          rintro e w1 ⟨rfl, hb1⟩
          have B1 := Lib.hid hb1; clear hb1
          go_wp2
          go_ret2
          exact ⟨_, by rw [E.out.2, E2.out.2]; rfl, by rw [E.out.1, E2.out.1]; exact num_nil _, B1.out⟩
        · have E2 := Lib.hid (cut_small (Nat.lt_of_not_le fun h => hbig (SB.out.1 h)))
          obtain ⟨q, r, hqr, hr⟩ : ∃ q r, n = 64 * q + r ∧ r < 64 := ⟨n / 64, n % 64, by omega, by omega⟩
          have hdiv : (n : Int) / 64 = (q : Int) := by omega
          have hmod : (n : Int) % 64 = (r : Int) := by omega
          have hq : q ≤ 4096 := by omega
          have HQR := Lib.hid hqr
          have hn3 : n ≤ 262144 := by omega
          clear hqr
          go_wp2_with fail
          refine LN.out.mono ?_
          rintro e w1 ⟨rfl, hb1⟩
          have B1 := Lib.hid hb1; clear hb1
          obtain ⟨L, hL⟩ : ∃ L, L = q + ts.length + 1 := ⟨_, rfl⟩
          have HL := Lib.hid hL; have hLl : L ≤ 16777216 := by omega
          have hqL : q < L := by omega
          have HLQ : Hid (L - q = ts.length + 1) := Lib.hid (by omega)
          clear hL
          go_wp2_with (at_make; refine make_nat rfl _ _ rfl _ _ L rfl rfl (by have := HL.out; omega) (by have := HL.out; omega) (by omega) ?_; intro w2 hrow hb2)
          have HROW := Lib.hid hrow; have B2 := Lib.hid (below_step B1.out hb2)
          have S2 := Lib.hid (S.out.below B2.out)
          clear hrow hb2
          have hne : inBlock (.slice a0 ts.length c0) ≠ some w1.heap.size ∨ ts = [] := by
            left
            obtain ⟨b9, o9, c9, e9, _, _, hb9, _⟩ := S.out.pos (by omega)
            simp only [Value.slice.injEq] at e9
            obtain ⟨rfl, _, _⟩ := e9
            have := B1.out.size
            simp [inBlock]; omega
          have UP := Lib.hid (shiftUp_any w1.heap.size q (ts.length + 1) r (64 - r) (List.replicate L 0) ts _ w2 HROW.out (fun j => by rw [getD_replicate]; have := B64_pos; omega) S2.out K.out hne (by rw [List.length_replicate]; have := HL.out; omega) (Nat.le_refl _) (maxLen_24 (by omega)) (by omega) (by omega) (by rw [List.length_replicate]; omega))
          clear hne
          go_wp2_with fail
          rw [HLQ.out]
          refine UP.out.mono ?_
          rintro e w3 ⟨rfl, R', hr3, hg3, hu3⟩
          have hRl : R'.length = L := by rw [hu3.len, List.length_replicate]
          have hsl := hr3.sl_all (by rw [hRl]; exact hLl)
          rw [hRl] at hsl
          have HS3 := Lib.hid hsl; have HG3 := Lib.hid hg3; have HLM := Lib.hid hu3.lim
          have HV : Hid (val B64 R' = val B64 ts * 2 ^ n) := Lib.hid (by
            have h9 := hu3
            rw [HL.out] at h9
            rw [upAll_val h9, HQR.out, Nat.mul_comm])
          have B3 := Lib.hid (below_of_grown B2.out hg3 B1.out.size B2.out.size)
          clear hr3 hg3 hu3 hsl hRl
          go_wp2_with fail
          refine (settle_any HS3.out).mono ?_
          rintro e w4 ⟨v4, rfl, hs4, rfl⟩
          have HN := Lib.hid (num_settle hs4 HLM.out HV.out)
          clear hs4
          go_wp2
          go_ret2
          exact ⟨_, by rw [E.out.2, E2.out.2]; rfl, by rw [E.out.1, E2.out.1]; exact HN.out, B3.out⟩

end Go.Proofs.YtehdfkafdpfdnaaGreatDoor

/- tribunalref01: Shl, Shr; NatShifts. -/
namespace Go.Proofs.YtehdfkafdpfdnaaGreatDoor
open Go.RowKit Mth

theorem top_append {zs ys : List Nat} (h : Top ys) (hp : 0 < ys.length) : Top (zs ++ ys) := by
  unfold Top
  refine tlen_eq (fun j hj => getD_ge _ j hj) (.inr ?_)
  have h1 := tlen_top ys (by rw [h]; exact hp)
  rw [h] at h1
  rw [List.length_append, List.getD_eq_getElem?_getD, List.getElem?_append_right (by omega), show zs.length + ys.length - 1 - zs.length = ys.length - 1 by omega, ← List.getD_eq_getElem?_getD]
  exact h1
theorem lim_append {B : Nat} {xs ys : List Nat} (h1 : Lim B xs) (h2 : Lim B ys) : Lim B (xs ++ ys) := by
  intro j
  rw [List.getD_eq_getElem?_getD]
  rcases Nat.lt_or_ge j xs.length with hj | hj
  · rw [List.getElem?_append_left hj, ← List.getD_eq_getElem?_getD]; exact h1 j
  · rw [List.getElem?_append_right hj, ← List.getD_eq_getElem?_getD]; exact h2 _
/-- what Shl answers, behind a name -/
structure ShlIs (a : Nat) (n : Int) (N : Nat) (ER : Int) : Prop where
  rn : shlN a n = N
  re : shlE a n = ER
theorem ShlIs.neg {a N : Nat} {n ER : Int} (h : ShlIs a n N ER) (hn : n < 0) : N = 0 ∧ ER = 1 := by
  rw [← h.rn, ← h.re]; exact shl_neg hn
theorem ShlIs.long {a N : Nat} {n ER : Int} (h : ShlIs a n N ER) (hn : ¬ n < 0) (h2 : Big ≤ a) : N = 0 ∧ ER = 5 := by
  rw [← h.rn, ← h.re]; exact shl_long hn h2
theorem ShlIs.fine {a N n : Nat} {ER : Int} (h : ShlIs a (n : Int) N ER) (h2 : ¬ Big ≤ a) : N = cutN (a * 2 ^ n) ∧ ER = cutE (a * 2 ^ n) := by
  rw [← h.rn, ← h.re]; exact shl_fine h2
theorem ShlIs.zero {N n : Nat} {ER : Int} (h : ShlIs 0 (n : Int) N ER) : N = 0 ∧ ER = 0 := by
  rw [← h.rn, ← h.re]; exact shl_zero
end Go.Proofs.YtehdfkafdpfdnaaGreatDoor
