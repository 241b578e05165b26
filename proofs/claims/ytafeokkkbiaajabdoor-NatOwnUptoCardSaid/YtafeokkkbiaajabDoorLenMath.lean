/- How many binary digits a number has; one of them. -/
import Derived.Test.YtafeokkkbiaajabDoorMath
import Derived.Lib.BitFns
import Derived.Lib.ItoaNum
namespace Go.Proofs.YtafeokkkbiaajabDoor.Mth

/-- how many binary digits -/
def bl (n : Nat) : Nat := if n = 0 then 0 else Nat.log2 n + 1
theorem bl_zero : bl 0 = 0 := rfl
theorem bl_uniq {n m : Nat} (h1 : 2 ^ m ≤ n) (h2 : n < 2 ^ (m + 1)) : bl n = m + 1 := by
  have hn : n ≠ 0 := by have := Nat.two_pow_pos m; omega
  unfold bl
  rw [if_neg hn]
  congr 1
  have a1 := Nat.log2_self_le hn
  have a2 : n < 2 ^ (n.log2 + 1) := Nat.lt_log2_self
  have b1 : m < n.log2 + 1 := (Nat.pow_lt_pow_iff_right (by omega : 1 < 2)).1 (Nat.lt_of_le_of_lt h1 a2)
  have b2 : n.log2 < m + 1 := (Nat.pow_lt_pow_iff_right (by omega : 1 < 2)).1 (Nat.lt_of_le_of_lt a1 h2)
  omega
theorem bl_spec {n : Nat} (h : n ≠ 0) : ∃ m, bl n = m + 1 ∧ 2 ^ m ≤ n ∧ n < 2 ^ (m + 1) :=
  ⟨n.log2, if_neg h, Nat.log2_self_le h, Nat.lt_log2_self⟩
theorem bl_half {n : Nat} (h : n ≠ 0) : bl n = bl (n / 2) + 1 := by
  obtain ⟨m, e, h1, h2⟩ := bl_spec h
  rw [e]
  congr 1
  cases m with
  | zero =>
    have : n / 2 = 0 := by simp at h2; omega
    rw [this]; rfl
  | succ m =>
    refine (bl_uniq ?_ ?_).symm
    · rw [Nat.pow_succ] at h1; omega
    · rw [Nat.pow_succ] at h2; omega
theorem bl_le {n k : Nat} (h : n < 2 ^ k) : bl n ≤ k := by
  by_cases h0 : n = 0
  · subst h0; simp [bl]
  · obtain ⟨m, e, h1, h2⟩ := bl_spec h0
    rw [e]
    have : m < k := (Nat.pow_lt_pow_iff_right (by omega : 1 < 2)).1 (Nat.lt_of_le_of_lt h1 h)
    omega
theorem bl_lib {x : Nat} (h : x < B64) : Lib.bitLen x = bl x := by
  by_cases h0 : x = 0
  · subst h0; rfl
  · have h64 : x < 2 ^ 64 := h
    obtain ⟨h1, h2, h3⟩ := Lib.bitLenAux_bounds 64 x h64 h0
    have e : Lib.bitLen x = Lib.bitLenAux 64 x := rfl
    rw [e]
    have := bl_uniq (n := x) (m := Lib.bitLenAux 64 x - 1) h2 (by rw [Nat.sub_add_cancel h1]; exact h3)
    omega
/-- of a list of limbs: by its highest -/
theorem bl_top {s : Nat} {xs : List Nat} (hl : Lim (2 ^ s) xs) (ht : Top xs) (hp : 0 < xs.length) : bl (val (2 ^ s) xs) = (xs.length - 1) * s + bl (xs.getD (xs.length - 1) 0) := by
  have htop := tlen_top xs (by rw [ht]; exact hp)
  rw [ht] at htop
  obtain ⟨m, e, h1, h2⟩ := bl_spec htop
  rw [e]
  have hs := val_split (2 ^ s) xs (xs.length - 1) (by omega)
  have hd := val_drop (2 ^ s) xs (xs.length - 1) (by omega)
  have hz : val (2 ^ s) (xs.drop (xs.length - 1 + 1)) = 0 := by
    rw [List.drop_of_length_le (by omega)]; rfl
  rw [hz, Nat.mul_zero, Nat.add_zero] at hd
  rw [hd] at hs
  have hlow := val_take_lt (Nat.two_pow_pos s) hl (xs.length - 1) (by omega)
  have hpow : (2 ^ s) ^ (xs.length - 1) = 2 ^ ((xs.length - 1) * s) := by rw [← Nat.pow_mul, Nat.mul_comm]
  rw [hpow] at hs hlow
  generalize xs.getD (xs.length - 1) 0 = x at *
  rw [show (xs.length - 1) * s + (m + 1) = (xs.length - 1) * s + m + 1 by omega]
  refine bl_uniq ?_ ?_
  · rw [hs, Nat.pow_add]
    have := Nat.mul_le_mul_left (2 ^ ((xs.length - 1) * s)) h1
    omega
  · rw [hs, Nat.add_assoc, Nat.pow_add]
    have := Nat.mul_le_mul_left (2 ^ ((xs.length - 1) * s)) (show x + 1 ≤ 2 ^ (m + 1) from h2)
    rw [Nat.mul_add, Nat.mul_one] at this
    omega

/-- the binary digit of 2 to the i -/
def bitN (n i : Nat) : Bool := decide (n / 2 ^ i % 2 = 1)
theorem bit_limb {xs : List Nat} (hl : Lim B64 xs) {q r : Nat} (hr : r < 64) (hq : q < xs.length) : bitN (val B64 xs) (64 * q + r) = decide (xs.getD q 0 / 2 ^ r % 2 = 1) := by
  unfold bitN
  have hs := val_split B64 xs q (by omega)
  have hd := val_drop B64 xs q hq
  have hlow := val_take_lt (by have := B64_pos; omega) hl q (by omega)
  have hpow : 2 ^ (64 * q + r) = B64 ^ q * 2 ^ r := by rw [Nat.pow_add, Nat.pow_mul]; rfl
  rw [hpow, ← Nat.div_div_eq_div_mul, hs, Nat.add_mul_div_left _ _ (Nat.lt_of_le_of_lt (Nat.zero_le _) hlow), Nat.div_eq_of_lt hlow, Nat.zero_add, hd]
  have h64 : B64 = 2 ^ r * (2 * 2 ^ (63 - r)) := by
    rw [← Nat.mul_assoc, Nat.mul_comm (2 ^ r) 2, Nat.mul_assoc, ← Nat.pow_add, show r + (63 - r) = 63 by omega]; rfl
  rw [h64, Nat.mul_assoc, Nat.add_mul_div_left _ _ (Nat.two_pow_pos r), Nat.mul_assoc, Nat.add_mul_mod_self_left]
theorem bit_far {xs : List Nat} (hl : Lim B64 xs) {i : Nat} (h : 64 * xs.length ≤ i) : bitN (val B64 xs) i = false := by
  unfold bitN
  have h1 := val_lt hl
  have h2 : B64 ^ xs.length ≤ 2 ^ i := by
    rw [show B64 = 2 ^ 64 from rfl, ← Nat.pow_mul]
    exact Nat.pow_le_pow_right (by omega) h
  rw [Nat.div_eq_of_lt (by omega)]
  rfl
end Go.Proofs.YtafeokkkbiaajabDoor.Mth
