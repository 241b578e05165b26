/- The product of halves, row by row, in plain mathematics. -/
import Derived.Test.YtafeokkkbiaajabDoorArithMath
namespace Go.Proofs.YtafeokkkbiaajabDoor.Mth

theorem val_set (B : Nat) : ∀ (xs : List Nat) (n : Nat), n < xs.length → ∀ x, val B (xs.set n x) + B ^ n * xs.getD n 0 = val B xs + B ^ n * x
  | [], n, h, x => by simp at h
  | y :: r, 0, h, x => by simp only [List.set_cons_zero, val, Nat.pow_zero, Nat.one_mul, List.getD_cons_zero]; omega
  | y :: r, n + 1, h, x => by
    have ih := val_set B r n (by simpa using h) x
    have e : B * (val B (r.set n x) + B ^ n * r.getD n 0) = B * (val B r + B ^ n * x) := by rw [ih]
    rw [Nat.mul_add, Nat.mul_add, ← Nat.mul_assoc, ← Nat.mul_assoc] at e
    simp only [List.set_cons_succ, val, List.getD_cons_succ]
    rw [Nat.pow_succ, Nat.mul_comm (B ^ n) B]
    omega

/-- one half of a row of a product, and what is carried on -/
def mhS (o x y c : Nat) : Nat := (o + x * y + c) % 65536
def mhC (o x y c : Nat) : Nat := (o + x * y + c) / 65536
theorem mh_le {o x y c : Nat} (ho : o < B16) (hx : x < B16) (hy : y < B16) (hc : c < B16) : o + x * y + c ≤ 4294967295 := by
  unfold B16 at *
  have : x * y ≤ 65535 * 65535 := Nat.mul_le_mul (by omega) (by omega)
  omega
/-- after j halves of the row of x at place i -/
structure RowT (R R' ys : List Nat) (x i j c : Nat) : Prop where
  len : R'.length = R.length
  lim : Lim B16 R'
  clt : c < B16
  eq : val B16 R' + B16 ^ (i + j) * c = val B16 R + B16 ^ i * (x * val B16 (ys.take j))
theorem rowT_zero {R : List Nat} (ys : List Nat) (x i : Nat) (h : Lim B16 R) : RowT R R ys x i 0 0 := ⟨rfl, h, by unfold B16; omega, by simp [val]⟩
theorem rowT_step {R R' ys : List Nat} {x i j c : Nat} (h : RowT R R' ys x i j c) (hx : x < B16) (ly : Lim B16 ys) (hij : i + j < R.length) :
    RowT R (R'.set (i + j) (mhS (R'.getD (i + j) 0) x (ys.getD j 0) c)) ys x i (j + 1) (mhC (R'.getD (i + j) 0) x (ys.getD j 0) c) := by
  have ho := h.lim (i + j)
  have hy := ly j
  have hc := h.clt
  have hl := h.len
  have hle := mh_le ho hx hy hc
  refine ⟨by rw [List.length_set, hl], lim_set h.lim (by unfold mhS B16; omega) _, by unfold mhC B16; omega, ?_⟩
  have e1 := val_set B16 R' (i + j) (by omega) (mhS (R'.getD (i + j) 0) x (ys.getD j 0) c)
  have e2 := val_take_succ' B16 ys j
  have e3 := h.eq
  rw [e2]
  generalize R'.getD (i + j) 0 = o at *
  generalize ys.getD j 0 = y at *
  have e4 : mhS o x y c + B16 * mhC o x y c = o + x * y + c := by unfold mhS mhC B16; omega
  have e5 : B16 ^ (i + j) * mhS o x y c + B16 ^ (i + j) * (B16 * mhC o x y c) = B16 ^ (i + j) * o + B16 ^ (i + j) * (x * y) + B16 ^ (i + j) * c := by
    rw [← Nat.mul_add, e4, Nat.mul_add, Nat.mul_add]
  have e6 : B16 ^ (i + (j + 1)) * mhC o x y c = B16 ^ (i + j) * (B16 * mhC o x y c) := by
    rw [← Nat.add_assoc, Nat.pow_succ, Nat.mul_assoc]
  have e7 : B16 ^ i * (x * (val B16 (ys.take j) + B16 ^ j * y)) = B16 ^ i * (x * val B16 (ys.take j)) + B16 ^ (i + j) * (x * y) := by
    rw [Nat.mul_add, Nat.mul_add, Nat.pow_add]
    congr 1
    rw [Nat.mul_left_comm x, Nat.mul_assoc]
  rw [e6, e7]
  omega

/-- after i rows -/
structure ProdT (R xs ys : List Nat) (i : Nat) : Prop where
  len : R.length = xs.length + ys.length
  lim : Lim B16 R
  eq : val B16 R = val B16 (xs.take i) * val B16 ys
theorem prodT_zero (xs ys : List Nat) : ProdT (List.replicate (xs.length + ys.length) 0) xs ys 0 :=
  ⟨by simp, fun j => by rw [getD_replicate]; unfold B16; omega, by rw [val_zero (fun j => getD_replicate _ _)]; simp [val]⟩
theorem rowT_end {R R' xs ys : List Nat} {i j : Nat} (hP : ProdT R xs ys i) (h : RowT R R' ys (xs.getD i 0) i j 0) (hj : ys.length ≤ j) : ProdT R' xs ys (i + 1) := by
  refine ⟨by rw [h.len, hP.len], h.lim, ?_⟩
  have e := h.eq
  rw [List.take_of_length_le hj, hP.eq] at e
  rw [val_take_succ' B16 xs i, Nat.add_mul, Nat.mul_assoc]
  omega
/-- nothing is carried beyond the row -/
theorem rowT_room {R R' xs ys : List Nat} {i j c : Nat} (hP : ProdT R xs ys i) (h : RowT R R' ys (xs.getD i 0) i j c) (lx : Lim B16 xs) (ly : Lim B16 ys) (hi : i < xs.length) (hc : j < ys.length ∨ 0 < c) : i + j < xs.length + ys.length := by
  rcases Nat.lt_or_ge j ys.length with hj | hj
  · omega
  · rcases Nat.lt_or_ge (i + j) (xs.length + ys.length) with hr | hr
    · exact hr
    · exfalso
      have hc : 0 < c := by omega
      have e := h.eq
      rw [List.take_of_length_le hj, hP.eq] at e
      have e2 := val_take_succ' B16 xs i
      have h1 : val B16 (xs.take (i + 1)) < B16 ^ (i + 1) := val_take_lt (by unfold B16; omega) lx (i + 1) hi
      have h2 : val B16 ys < B16 ^ ys.length := val_lt ly
      have h3 : val B16 (xs.take (i + 1)) * val B16 ys < B16 ^ (i + 1) * B16 ^ ys.length := by
        rcases Nat.eq_zero_or_pos (val B16 ys) with h0 | h0
        · rw [h0, Nat.mul_zero]; exact Nat.mul_pos (Nat.pow_pos (by unfold B16; omega)) (Nat.pow_pos (by unfold B16; omega))
        · exact Nat.lt_of_lt_of_le (Nat.mul_lt_mul_of_pos_right h1 h0) (Nat.mul_le_mul_left _ (Nat.le_of_lt h2))
      rw [← Nat.pow_add] at h3
      have h4 : B16 ^ (i + 1 + ys.length) ≤ B16 ^ (i + j) := Nat.pow_le_pow_right (by unfold B16; omega) (by
        have := hP.len; omega)
      have h5 : B16 ^ (i + j) * 1 ≤ B16 ^ (i + j) * c := Nat.mul_le_mul_left _ hc
      rw [e2, Nat.add_mul, Nat.mul_assoc] at h3
      omega
theorem prodT_end {R xs ys : List Nat} (h : ProdT R xs ys xs.length) : val B16 R = val B16 xs * val B16 ys := by
  have := h.eq
  rwa [List.take_length] at this
end Go.Proofs.YtafeokkkbiaajabDoor.Mth
