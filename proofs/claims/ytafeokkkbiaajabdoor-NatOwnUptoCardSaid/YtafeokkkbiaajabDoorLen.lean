/- nat.Len, nat.Bit and tribunalref01's. -/
import Derived.Test.YtafeokkkbiaajabDoorCmp
import Derived.Test.YtafeokkkbiaajabDoorFmt
import Derived.Test.YtafeokkkbiaajabDoorLenMath
import Derived.Test.YtafeokkkbiaajabDoorDigits
import Derived.WalkLawsBesides
namespace Go.Proofs.YtafeokkkbiaajabDoor
open Go.RowKit Mth

theorem bitsLen_any (x : Nat) (h : x < B64) (w : World) : Calls Tryd.prog 19 #[.int .u64 ((x : Nat) : Int)] w fun e w' => e = .returned (.int .i64 ((bl x : Nat) : Int)) ∧ w = w' := by
  refine (Go.Proofs.Tryd.bits_Len64 (x : Int) w (by omega) (by unfold B64 at h; omega)).mono fun e w' ⟨he, hw⟩ => ⟨?_, hw.symm⟩
  rw [he, Int.toNat_natCast, bl_lib h]

set_option maxRecDepth 100000 in
theorem len_any (v : Value) (xs : List Nat) (w : World) (h : Sl w .u64 v xs) (hl : Lim B64 xs) :
    Calls Tryd.prog 5 #[v] w fun e w' => e = .returned (.int .i64 ((bl (val B64 xs) : Nat) : Int)) ∧ Below w.heap.size w w' := by
  have T := trim_any h
  have k := lim_trimL hl
  have p := top_trimL xs
  have e1 : val B64 (trimL xs) = val B64 xs := val_trimL _ _
  rw [← e1]
  clear e1 h hl
  generalize trimL xs = ts at *
  have HT := Lib.hid T; have HK := Lib.hid k; have HP := Lib.hid p
  clear T k p
  go_enter Tryd.func5, Tryd.ntmps5
  go_wp2_with fail
  refine HT.out.mono ?_
  rintro e w1 ⟨va, rfl, hs1, rfl⟩
  have hlen := hs1.len
  by_cases h0 : ts.length = 0
  · obtain rfl : ts = [] := List.eq_nil_of_length_eq_zero h0
    obtain ⟨a1, c1, rfl⟩ := hs1.shape
    clear hs1 h0
    go_wp2
    go_ret
    exact ⟨rfl, Below.refl _ _⟩
  · have hd0 := len_ne h0
    obtain ⟨b, off, cap, rfl, k1, k2, k3, hc⟩ := hs1.pos (by omega)
    have hct := hc (ts.length - 1) (by omega)
    have hx := HK.out (ts.length - 1)
    have E := Lib.hid (bl_top (s := 64) HK.out HP.out (by omega : 0 < ts.length))
    generalize ts.getD (ts.length - 1) 0 = x at *
    have hb := bl_le (k := 64) hx
    have HX := Lib.hid hx
    unfold maxLen at k2
    clear hs1 hc hx
    have hpos : 0 < ts.length := by omega
    clear h0
    go_wp2_with fail
    refine (bitsLen_any _ HX.out _).mono ?_
    rintro e w1 ⟨rfl, rfl⟩
    go_wp2
    go_ret
    refine ⟨ret_int ?_, Below.refl _ _⟩
    have := E.out
    show _ = ((bl (val B64 ts) : Nat) : Int)
    rw [show B64 = 2 ^ 64 from rfl, this]
    omega

/-- what Bit answers -/
def bitI (n : Nat) (i : Int) : Bool := decide (0 ≤ i) && bitN n i.toNat

theorem bit_end (x r : Nat) (hx : x < B64) : (bits BinOp.and IntKind.u64 ((x : Int) / 2 ^ r) 1 == 1) = decide (x / 2 ^ r % 2 = 1) := by
  have h1 : ((x : Int) / 2 ^ r) = ((x / 2 ^ r : Nat) : Int) := by rw [Int.natCast_ediv, Int.natCast_pow]; rfl
  have h2 := and1 (x / 2 ^ r) (Nat.lt_of_le_of_lt (Nat.div_le_self _ _) hx)
  rw [h1, h2]
  unfold md
  rw [Bool.eq_iff_iff]
  simp
  omega

set_option maxRecDepth 100000 in
theorem bit_any (v : Value) (xs : List Nat) (i : Int) (w : World) (h : Sl w .u64 v xs) (hl : Lim B64 xs) (h1 : -9223372036854775808 ≤ i) (h2 : i ≤ 9223372036854775807) :
    Calls Tryd.prog 6 #[v, .int .i64 i] w fun e w' => e = .returned (.bool (bitI (val B64 xs) i)) ∧ Below w.heap.size w w' := by
  have hlen := h.len
  by_cases hneg : i < 0
  · have E : Hid (bitI (val B64 xs) i = false) := Lib.hid (by unfold bitI; rw [decide_eq_false (by omega)]; rfl)
    have hd : decide (i < 0) = true := decide_eq_true hneg
    go_enter Tryd.func6, Tryd.ntmps6
    go_wp2
    go_ret
    exact ⟨by rw [E.out]; rfl, Below.refl _ _⟩
  · obtain ⟨n, rfl⟩ : ∃ n : Nat, i = n := ⟨i.toNat, by omega⟩
    obtain ⟨q, r, hqr, hr⟩ : ∃ q r, n = 64 * q + r ∧ r < 64 := ⟨n / 64, n % 64, by omega, by omega⟩
    have hq64 : (n : Int) / 64 = (q : Int) := by omega
    have hr64 : (n : Int) % 64 = (r : Int) := by omega
    have hd : decide ((n : Int) < 0) = false := decide_eq_false hneg
    obtain ⟨ao, cap, rfl, k1, k2, k3, k4, k5⟩ := h
    have hqb : (q : Int) ≤ 9223372036854775807 := by omega
    unfold maxLen at k2
    by_cases hfar : xs.length ≤ q
    · have E : Hid (bitI (val B64 xs) (n : Int) = false) := Lib.hid (by unfold bitI; rw [Int.toNat_natCast, bit_far hl (by omega)]; simp)
      have hd2 : decide ((xs.length : Int) ≤ (q : Int)) = true := decide_eq_true (by omega)
      clear k4 k5 hl hqr hneg
      go_enter Tryd.func6, Tryd.ntmps6
      go_wp2
      go_ret
      exact ⟨by rw [E.out]; rfl, Below.refl _ _⟩
    · obtain ⟨b, off, rfl, hb, hc⟩ := k5 (by omega)
      have E : Hid (bitI (val B64 xs) (n : Int) = decide (xs.getD q 0 / 2 ^ r % 2 = 1)) := Lib.hid (by unfold bitI; rw [Int.toNat_natCast, hqr, bit_limb hl hr (by omega), decide_eq_true (by omega), Bool.true_and])
      have hd2 : decide ((xs.length : Int) ≤ (q : Int)) = false := decide_eq_false (by omega)
      have hcq := hc q (by omega)
      have hx := hl q
      generalize xs.getD q 0 = x at *
      have HX := Lib.hid hx
      have hql : q < xs.length := by omega
      clear k4 k5 hl hc hx hqr hneg hfar
      go_enter Tryd.func6, Tryd.ntmps6
      go_wp2
      go_ret
      refine ⟨?_, Below.refl _ _⟩
      rw [E.out]
      exact ret_bool (bit_end x r HX.out)

end Go.Proofs.YtafeokkkbiaajabDoor
