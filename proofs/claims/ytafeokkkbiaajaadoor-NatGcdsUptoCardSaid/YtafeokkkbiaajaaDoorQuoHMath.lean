/- Long division bit by bit over halves, in plain mathematics. -/
import Derived.Test.YtafeokkkbiaajaaDoorLenMath
import Derived.Test.YtafeokkkbiaajaaDoorMulMath
namespace Go.Proofs.YtafeokkkbiaajaaDoor.Mth

theorem b16_pow : B16 = 2 ^ 16 := rfl
/-- one bit of a half -/
theorem bit_half {xs : List Nat} (hl : Lim B16 xs) {q r : Nat} (hr : r < 16) (hq : q < xs.length) : val B16 xs / 2 ^ (16 * q + r) % 2 = xs.getD q 0 / 2 ^ r % 2 := by
  have hs := val_split B16 xs q (by omega)
  have hd := val_drop B16 xs q hq
  have hlow := val_take_lt (by have := B16_pos; omega) hl q (by omega)
  have hpow : 2 ^ (16 * q + r) = B16 ^ q * 2 ^ r := by rw [Nat.pow_add, Nat.pow_mul]; rfl
  rw [hpow, ← Nat.div_div_eq_div_mul, hs, Nat.add_mul_div_left _ _ (Nat.lt_of_le_of_lt (Nat.zero_le _) hlow), Nat.div_eq_of_lt hlow, Nat.zero_add, hd]
  have h16 : B16 = 2 ^ r * (2 * 2 ^ (15 - r)) := by
    rw [← Nat.mul_assoc, Nat.mul_comm (2 ^ r) 2, Nat.mul_assoc, ← Nat.pow_add, show r + (15 - r) = 15 by omega]; rfl
  rw [h16, Nat.mul_assoc, Nat.add_mul_div_left _ _ (Nat.two_pow_pos r), Nat.mul_assoc, Nat.add_mul_mod_self_left]
/-- a half of a number that is a multiple of a power of 2 -/
theorem half_low {xs : List Nat} (hl : Lim B16 xs) {q r X : Nat} (hr : r < 16) (hq : q < xs.length) (h : val B16 xs = X * 2 ^ (16 * q + r + 1)) : xs.getD q 0 % 2 ^ (r + 1) = 0 := by
  have hs := val_split B16 xs q (by omega)
  have hd := val_drop B16 xs q hq
  have hlow := val_take_lt (by have := B16_pos; omega) hl q (by omega)
  have hpow : 2 ^ (16 * q + r + 1) = B16 ^ q * 2 ^ (r + 1) := by rw [show 16 * q + r + 1 = 16 * q + (r + 1) by omega, Nat.pow_add, Nat.pow_mul]; rfl
  have hx : xs.getD q 0 < B16 := hl q
  rw [hpow] at h
  have e1 : val B16 xs / B16 ^ q = xs.getD q 0 + B16 * val B16 (xs.drop (q + 1)) := by
    rw [hs, Nat.add_mul_div_left _ _ (Nat.lt_of_le_of_lt (Nat.zero_le _) hlow), Nat.div_eq_of_lt hlow, Nat.zero_add, hd]
  have e2 : val B16 xs / B16 ^ q = X * 2 ^ (r + 1) := by
    rw [h, Nat.mul_left_comm, Nat.mul_div_cancel_left _ (Nat.pow_pos (by have := B16_pos; omega))]
  rw [e2] at e1
  have h16 : B16 = 2 ^ (r + 1) * 2 ^ (15 - r) := by rw [← Nat.pow_add, show r + 1 + (15 - r) = 16 by omega]; rfl
  have e3 : (xs.getD q 0 + B16 * val B16 (xs.drop (q + 1))) % 2 ^ (r + 1) = xs.getD q 0 % 2 ^ (r + 1) := by
    rw [h16, Nat.mul_assoc, Nat.add_mul_mod_self_left]
  rw [← e3, ← e1, Nat.mul_mod_left]
theorem or_bit {x r : Nat} (h : x % 2 ^ (r + 1) = 0) : x ||| 2 ^ r = x + 2 ^ r := by
  have e := Nat.mod_add_div x (2 ^ (r + 1))
  rw [h, Nat.zero_add] at e
  rw [← e, ← Nat.two_pow_add_eq_or_of_lt (Nat.pow_lt_pow_right (by omega) (by omega))]
theorem or_bit_lt {x r : Nat} (h : x % 2 ^ (r + 1) = 0) (hx : x < B16) (hr : r < 16) : x + 2 ^ r < B16 := by
  have e := Nat.mod_add_div x (2 ^ (r + 1))
  rw [h, Nat.zero_add] at e
  have h16 : B16 = 2 ^ (r + 1) * 2 ^ (15 - r) := by rw [← Nat.pow_add, show r + 1 + (15 - r) = 16 by omega]; rfl
  have h2 : x / 2 ^ (r + 1) < 2 ^ (15 - r) := by
    rw [← e, h16] at hx
    exact Nat.lt_of_mul_lt_mul_left hx
  have h3 : 2 ^ (r + 1) * (x / 2 ^ (r + 1) + 1) ≤ 2 ^ (r + 1) * 2 ^ (15 - r) := Nat.mul_le_mul_left _ h2
  rw [Nat.mul_add, Nat.mul_one, e, ← h16] at h3
  have h4 : 2 ^ r < 2 ^ (r + 1) := Nat.pow_lt_pow_right (by omega) (by omega)
  omega

/-- when the bits from k on have been brought down -/
structure QhT (A D : Nat) (Q : List Nat) (n k r : Nat) : Prop where
  len : Q.length = n
  lim : Lim B16 Q
  req : r = A / 2 ^ k % D
  eq : val B16 Q = A / 2 ^ k / D * 2 ^ k
theorem qhT_zero {A D n : Nat} (hA : A < B16 ^ n) (_hD : 0 < D) : QhT A D (List.replicate n 0) n (16 * n) 0 := by
  have h : A / 2 ^ (16 * n) = 0 := Nat.div_eq_of_lt (by rw [Nat.pow_mul]; exact hA)
  refine ⟨by simp, fun j => by rw [getD_replicate]; have := B16_pos; omega, ?_, ?_⟩
  · rw [h, Nat.zero_mod]
  · rw [h, val_zero (fun j => getD_replicate _ _), Nat.zero_div, Nat.zero_mul]
theorem div_two (A k : Nat) : A / 2 ^ k = 2 * (A / 2 ^ (k + 1)) + A / 2 ^ k % 2 := by
  rw [Nat.pow_succ, ← Nat.div_div_eq_div_mul]
  generalize A / 2 ^ k = a
  omega
/-- the next bit stays below -/
theorem qh_low {A D k r : Nat} (hD : 0 < D) (hr : r = A / 2 ^ (k + 1) % D) (h : r + r + A / 2 ^ k % 2 < D) :
    A / 2 ^ k % D = r + r + A / 2 ^ k % 2 ∧ A / 2 ^ k / D = 2 * (A / 2 ^ (k + 1) / D) := by
  have e := div_two A k
  have e2 := Nat.mod_add_div (A / 2 ^ (k + 1)) D
  rw [← hr] at e2
  generalize A / 2 ^ k % 2 = b at *
  generalize hN : A / 2 ^ (k + 1) = N at *
  generalize N / D = q at *
  have e3 : A / 2 ^ k = (r + r + b) + D * (2 * q) := by
    rw [e, ← e2, Nat.mul_add, Nat.mul_left_comm 2 D q]; omega
  rw [e3, Nat.add_mul_mod_self_left, Nat.mod_eq_of_lt h, Nat.add_mul_div_left _ _ hD, Nat.div_eq_of_lt h]
  exact ⟨rfl, by omega⟩
theorem qh_high {A D k r : Nat} (hD : 0 < D) (hr : r = A / 2 ^ (k + 1) % D) (h : D ≤ r + r + A / 2 ^ k % 2) :
    A / 2 ^ k % D = r + r + A / 2 ^ k % 2 - D ∧ A / 2 ^ k / D = 2 * (A / 2 ^ (k + 1) / D) + 1 := by
  have e := div_two A k
  have hb : A / 2 ^ k % 2 < 2 := Nat.mod_lt _ (by omega)
  have e2 := Nat.mod_add_div (A / 2 ^ (k + 1)) D
  rw [← hr] at e2
  have hrl : r < D := by rw [hr]; exact Nat.mod_lt _ hD
  generalize A / 2 ^ k % 2 = b at *
  generalize hN : A / 2 ^ (k + 1) = N at *
  generalize N / D = q at *
  have e3 : A / 2 ^ k = (r + r + b - D) + D * (2 * q + 1) := by
    rw [e, ← e2, Nat.mul_add, Nat.mul_add, Nat.mul_one, Nat.mul_left_comm 2 D q]; omega
  have h2 : r + r + b - D < D := by omega
  rw [e3, Nat.add_mul_mod_self_left, Nat.mod_eq_of_lt h2, Nat.add_mul_div_left _ _ hD, Nat.div_eq_of_lt h2]
  exact ⟨rfl, by omega⟩
theorem qhT_low {A D n k r : Nat} {Q : List Nat} (h : QhT A D Q n (k + 1) r) (hD : 0 < D) (hlt : r + r + A / 2 ^ k % 2 < D) : QhT A D Q n k (r + r + A / 2 ^ k % 2) := by
  obtain ⟨e1, e2⟩ := qh_low hD h.req hlt
  refine ⟨h.len, h.lim, e1.symm, ?_⟩
  rw [h.eq, e2, Nat.pow_succ, Nat.mul_comm (2 ^ k) 2, ← Nat.mul_assoc, Nat.mul_comm _ 2]
theorem qhT_high {A D n q t r : Nat} {Q : List Nat} (h : QhT A D Q n (16 * q + t + 1) r) (ht : t < 16) (hq : q < n) (hD : 0 < D) (hge : D ≤ r + r + A / 2 ^ (16 * q + t) % 2) :
    Q.getD q 0 % 2 ^ (t + 1) = 0 ∧ QhT A D (Q.set q (Q.getD q 0 + 2 ^ t)) n (16 * q + t) (r + r + A / 2 ^ (16 * q + t) % 2 - D) := by
  obtain ⟨e1, e2⟩ := qh_high hD h.req hge
  have hl := h.len
  have hm := half_low h.lim ht (by omega) h.eq
  refine ⟨hm, by rw [List.length_set, hl], lim_set h.lim (or_bit_lt hm (h.lim q) ht) _, e1.symm, ?_⟩
  have e3 := val_set B16 Q q (by omega) (Q.getD q 0 + 2 ^ t)
  have e4 := h.eq
  have e5 : B16 ^ q * 2 ^ t = 2 ^ (16 * q + t) := by rw [Nat.pow_add, Nat.pow_mul]; rfl
  rw [Nat.mul_add, e5] at e3
  rw [e2, Nat.add_mul, Nat.one_mul]
  have e6 : 2 * (A / 2 ^ (16 * q + t + 1) / D) * 2 ^ (16 * q + t) = A / 2 ^ (16 * q + t + 1) / D * 2 ^ (16 * q + t + 1) := by
    rw [Nat.pow_succ, Nat.mul_comm (2 ^ (16 * q + t)) 2, ← Nat.mul_assoc, Nat.mul_comm _ 2]
  rw [e6]
  omega
theorem qhT_end {A D n r : Nat} {Q : List Nat} (h : QhT A D Q n 0 r) : val B16 Q = A / D ∧ r = A % D := by
  have e1 := h.req
  have e2 := h.eq
  simp only [Nat.pow_zero, Nat.div_one, Nat.mul_one] at e1 e2
  exact ⟨e2, e1⟩
end Go.Proofs.YtafeokkkbiaajaaDoor.Mth
