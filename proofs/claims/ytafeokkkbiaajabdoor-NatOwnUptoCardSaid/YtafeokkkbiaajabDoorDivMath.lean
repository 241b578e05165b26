/- Division of two limbs by one, by halves (math/bits's Div64), in plain mathematics. W is the base of the halves. -/
import Derived.Test.YtafeokkkbiaajabDoorShiftMath
namespace Go.Proofs.YtafeokkkbiaajabDoor.Mth

/-- what a half step divides, and by what -/
def hT (W u v : Nat) : Nat := u * W + v
def hY (W y1 y0 : Nat) : Nat := y1 * W + y0
/-- a guess q of the half digit, and the rest r of the upper half -/
structure HalfG (W u v y1 y0 q r : Nat) : Prop where
  ge : hT W u v / hY W y1 y0 ≤ q
  eq : r + q * y1 = u
  le : q ≤ W + 1
/-- a divisor in good form -/
structure GoodY (W y1 y0 : Nat) : Prop where
  lo : y0 < W
  hi : W ≤ 2 * y1
  pos : 0 < y1
  w : 0 < W
theorem GoodY.posY {W y1 y0 : Nat} (h : GoodY W y1 y0) : 0 < hY W y1 y0 := by
  have h1 := Nat.mul_pos h.pos h.w
  unfold hY; omega
theorem half_start {W u v y1 y0 : Nat} (hu : u < hY W y1 y0) (hv : v < W) (g : GoodY W y1 y0) : HalfG W u v y1 y0 (u / y1) (u % y1) := by
  have hp := g.posY
  have h0 := g.lo
  have h1 := g.hi
  have e := Nat.mod_add_div u y1
  have hr : u % y1 < y1 := Nat.mod_lt _ g.pos
  generalize u / y1 = q at *
  generalize u % y1 = r at *
  rw [Nat.mul_comm] at e
  refine ⟨?_, e, ?_⟩
  · refine Nat.le_of_lt_succ ((Nat.div_lt_iff_lt_mul hp).2 ?_)
    unfold hT hY
    have h8 : u + 1 ≤ q * y1 + y1 := by omega
    have h9 : (u + 1) * W ≤ (q * y1 + y1) * W := Nat.mul_le_mul_right _ h8
    have h7 : q.succ * (y1 * W + y0) = (q * y1 + y1) * W + q.succ * y0 := by
      rw [Nat.mul_add, ← Nat.mul_assoc, Nat.succ_mul]
    rw [h7]
    rw [Nat.add_mul, Nat.one_mul] at h9
    omega
  · have h9 : u < y1 * W + 2 * y1 := by unfold hY at hu; omega
    have h8 : q * y1 < (W + 2) * y1 := by rw [Nat.add_mul, Nat.mul_comm W]; omega
    have := Nat.lt_of_mul_lt_mul_right h8
    omega
/-- q times the divisor, against what is divided -/
theorem half_cmp {W u v y1 y0 q r : Nat} (h : HalfG W u v y1 y0 q r) : q * hY W y1 y0 + r * W + v = hT W u v + q * y0 := by
  have e := h.eq
  unfold hY hT
  rw [← e, Nat.add_mul, Nat.mul_add, Nat.mul_assoc]
  omega
theorem half_stop {W u v y1 y0 q r : Nat} (h : HalfG W u v y1 y0 q r) (g : GoodY W y1 y0) (hs : q * y0 ≤ r * W + v) : q = hT W u v / hY W y1 y0 := by
  have e := half_cmp h
  have h2 : q * hY W y1 y0 ≤ hT W u v := by omega
  have h3 : q ≤ hT W u v / hY W y1 y0 := (Nat.le_div_iff_mul_le g.posY).2 h2
  have := h.ge
  omega
theorem half_break {W u v y1 y0 q r : Nat} (h : HalfG W u v y1 y0 q r) (g : GoodY W y1 y0) (hq : q ≤ W) (hr : W ≤ r) : q = hT W u v / hY W y1 y0 := by
  refine half_stop h g ?_
  have h0 := g.lo
  have h2 : q * y0 ≤ W * W := Nat.mul_le_mul hq (by omega)
  have h3 : W * W ≤ r * W := Nat.mul_le_mul_right _ hr
  omega
theorem half_lt {W u v y1 y0 : Nat} (hu : u < hY W y1 y0) (hv : v < W) : hT W u v / hY W y1 y0 < W := by
  rw [Nat.div_lt_iff_lt_mul (by omega)]
  unfold hT
  have : (u + 1) * W ≤ hY W y1 y0 * W := Nat.mul_le_mul_right _ hu
  rw [Nat.add_mul, Nat.one_mul] at this
  rw [Nat.mul_comm W]
  omega
theorem half_more {W u v y1 y0 q r : Nat} (h : HalfG W u v y1 y0 q r) (hlt : hT W u v / hY W y1 y0 < W) (g : GoodY W y1 y0) (ht : W ≤ q ∨ r * W + v < q * y0) : 1 ≤ q ∧ HalfG W u v y1 y0 (q - 1) (r + y1) := by
  have hge := h.ge
  have e := h.eq
  have hq : hT W u v / hY W y1 y0 < q := by
    rcases ht with ht | ht
    · omega
    · have e2 := half_cmp h
      rcases Nat.lt_or_ge (hT W u v / hY W y1 y0) q with h3 | h3
      · exact h3
      · exfalso
        have := (Nat.le_div_iff_mul_le g.posY).1 h3
        omega
  have hq1 : 1 ≤ q := Nat.lt_of_le_of_lt (Nat.zero_le _) hq
  refine ⟨hq1, ⟨Nat.le_sub_one_of_lt hq, ?_, by have := h.le; omega⟩⟩
  obtain ⟨m, rfl⟩ : ∃ m, q = m + 1 := ⟨q - 1, (Nat.sub_add_cancel hq1).symm⟩
  rw [Nat.add_mul, Nat.one_mul] at e
  simp only [Nat.add_sub_cancel]
  omega
theorem half_rest {W u v y1 y0 : Nat} : hT W u v % hY W y1 y0 + hT W u v / hY W y1 y0 * hY W y1 y0 = hT W u v := by
  have := Nat.mod_add_div (hT W u v) (hY W y1 y0)
  rw [Nat.mul_comm] at this
  exact this

/-- the two half digits are the quotient -/
theorem halves_quo {W un32 v1 v0 Y : Nat} (hy : 0 < Y) {q1 r1 q0 r0 : Nat} (e1 : r1 + q1 * Y = hT W un32 v1) (e0 : r0 + q0 * Y = hT W r1 v0) (hr : r0 < Y) :
    (un32 * (W * W) + (v1 * W + v0)) / Y = q1 * W + q0 ∧ (un32 * (W * W) + (v1 * W + v0)) % Y = r0 := by
  have e : un32 * (W * W) + (v1 * W + v0) = r0 + Y * (q1 * W + q0) := by
    unfold hT at *
    have h2 : (r1 + q1 * Y) * W = (un32 * W + v1) * W := by rw [e1]
    rw [Nat.add_mul, Nat.add_mul, Nat.mul_assoc un32] at h2
    have h3 : Y * (q1 * W + q0) = q1 * Y * W + q0 * Y := by
      rw [Nat.mul_add, Nat.mul_comm Y q0, ← Nat.mul_assoc, Nat.mul_comm Y q1]
    rw [h3]
    generalize q1 * Y * W = A at *
    generalize q0 * Y = C at *
    generalize un32 * (W * W) = D at *
    omega
  rw [e, Nat.add_mul_div_left _ _ hy, Nat.div_eq_of_lt hr, Nat.add_mul_mod_self_left, Nat.mod_eq_of_lt hr]
  exact ⟨by omega, rfl⟩
/-- the number and the divisor, both shifted by s -/
theorem div_shifted {N y s : Nat} (h1 : 0 < 2 ^ s) : (N * 2 ^ s) / (y * 2 ^ s) = N / y ∧ (N * 2 ^ s) % (y * 2 ^ s) / 2 ^ s = N % y := by
  rw [Nat.mul_div_mul_right _ _ h1, Nat.mul_mod_mul_right, Nat.mul_div_cancel _ h1]
  exact ⟨rfl, rfl⟩
/-- its two limbs -/
theorem shifted_limbs {hi lo s m : Nat} (h : s + m = 64) : (hi * 2 ^ s + lo / 2 ^ m) * B64 + lo * 2 ^ s % B64 = (hi * B64 + lo) * 2 ^ s := by
  have e1 := Nat.mod_add_div (lo * 2 ^ s) B64
  have e2 : lo * 2 ^ s / B64 = lo / 2 ^ m := by
    rw [b64_split h, Nat.mul_comm lo, Nat.mul_div_mul_left _ _ (Nat.pow_pos (by omega))]
  rw [e2] at e1
  rw [Nat.add_mul, Nat.add_mul]
  have e3 : hi * 2 ^ s * B64 = hi * B64 * 2 ^ s := Nat.mul_right_comm _ _ _
  rw [e3, Nat.mul_comm (lo / 2 ^ m) B64]
  omega
/-- the halves of a limb -/
def w32 : Nat := 4294967296
theorem w32_sq : w32 * w32 = B64 := rfl
end Go.Proofs.YtafeokkkbiaajabDoor.Mth
