/- Sums and differences limb by limb, in plain mathematics. -/
import Derived.Test.YtafeokkkbiaajabDoorMath
namespace Go.Proofs.YtafeokkkbiaajabDoor.Mth

theorem b16_big : B16 ^ (4 * maxL) = Big := by
  rw [Nat.pow_mul, b16_4]; rfl
/-- is a number of halves long -/
theorem hlong_gen {m : Nat} {xs : List Nat} (hx : Lim B16 xs) (ht : Top xs) : m < xs.length ↔ B16 ^ m ≤ val B16 xs := by
  constructor
  · intro h
    have h1 := val_ge_top (B := B16) ht (by omega)
    exact Nat.le_trans (Nat.pow_le_pow_right (by have := B16_pos; omega) (by omega)) h1
  · intro h
    have h1 := val_lt hx
    rcases Nat.lt_or_ge m xs.length with h2 | h2
    · exact h2
    · have h3 : B16 ^ xs.length ≤ B16 ^ m := Nat.pow_le_pow_right (by have := B16_pos; omega) h2
      omega
theorem hlong_iff {xs : List Nat} (hx : Lim B16 xs) (ht : Top xs) : 16384 < xs.length ↔ Big ≤ val B16 xs := by
  have := hlong_gen (m := 4 * maxL) hx ht
  rw [b16_big] at this
  exact this
/-- is one of them long -/
def longB (xss : List (List Nat)) (n : Nat) : Bool := (xss.take n).any fun x => decide (Big ≤ val B64 x)
theorem longB_succ {xss : List (List Nat)} {n : Nat} (h : n < xss.length) : longB xss (n + 1) = (longB xss n || decide (Big ≤ val B64 (xss.getD n []))) := by
  unfold longB
  rw [List.take_succ_eq_append_getElem h, List.any_append]
  simp [List.getD_eq_getElem?_getD, h]
theorem longB_iff (xss : List (List Nat)) : longB xss xss.length = true ↔ longL xss xss.length := by
  unfold longB longL
  rw [List.take_length, List.any_eq_true]
  constructor
  · rintro ⟨x, hx, h⟩
    obtain ⟨j, hj, rfl⟩ := getDL_mem hx
    exact ⟨j, hj, of_decide_eq_true h⟩
  · rintro ⟨j, hj, h⟩
    refine ⟨xss.getD j [], ?_, decide_eq_true h⟩
    rw [List.getD_eq_getElem?_getD, List.getElem?_eq_getElem hj]
    exact List.getElem_mem hj

/-- the first n limbs of a list, with zeros behind its end -/
theorem val_take_succ' (B : Nat) (xs : List Nat) (n : Nat) : val B (xs.take (n + 1)) = val B (xs.take n) + B ^ n * xs.getD n 0 := by
  rcases Nat.lt_or_ge n xs.length with h | h
  · exact val_take_succ B xs n h
  · rw [List.take_of_length_le (by omega), List.take_of_length_le h, getD_ge xs n h]; simp
theorem val_snoc (B : Nat) (xs : List Nat) (x : Nat) : val B (xs ++ [x]) = val B xs + B ^ xs.length * x := by
  rw [val_append]; simp [val]
theorem lim_snoc {B : Nat} {xs : List Nat} (h : Lim B xs) {x : Nat} (hx : x < B) : Lim B (xs ++ [x]) := by
  intro j
  simp only [List.getD_eq_getElem?_getD, List.getElem?_append]
  split
  · have := h j; rwa [List.getD_eq_getElem?_getD] at this
  · rcases Nat.eq_zero_or_pos (j - xs.length) with h0 | h0
    · rw [h0]; exact hx
    · rw [List.getElem?_eq_none (by simp; omega)]; exact Nat.lt_of_le_of_lt (Nat.zero_le _) hx

/-- after k rounds of SubH: os are the halves so far, c what is borrowed -/
structure SubT (as bs os : List Nat) (k c : Nat) : Prop where
  len : os.length = k
  lim : Lim B16 os
  cle : c ≤ 1
  eq : val B16 (as.take k) + B16 ^ k * c = val B16 os + val B16 (bs.take k)
theorem subT_zero (as bs : List Nat) : SubT as bs [] 0 0 := ⟨rfl, lim_nil (by unfold B16; omega), by omega, by simp [val]⟩
/-- one half of a difference, and what is borrowed on -/
def shS (x y c : Nat) : Nat := (x + 65536 - y - c) % 65536
def shC (x y c : Nat) : Nat := 1 - (x + 65536 - y - c) / 65536
theorem subT_step {as bs os : List Nat} {k c : Nat} (h : SubT as bs os k c) (la : Lim B16 as) (lb : Lim B16 bs) :
    SubT as bs (os ++ [shS (as.getD k 0) (bs.getD k 0) c]) (k + 1) (shC (as.getD k 0) (bs.getD k 0) c) := by
  have h1 := la k
  have h2 := lb k
  have h3 := h.cle
  generalize hx : as.getD k 0 = x at *
  generalize hy : bs.getD k 0 = y at *
  have e : x + B16 * shC x y c = shS x y c + y + c := by
    unfold shC shS
    unfold B16 at *
    omega
  refine ⟨by rw [List.length_append, h.len]; rfl, lim_snoc h.lim (by unfold shS B16; omega), by unfold shC; omega, ?_⟩
  rw [val_take_succ' B16 as k, val_take_succ' B16 bs k, hx, hy, val_snoc, h.len, Nat.pow_succ, Nat.mul_assoc]
  have e4 := h.eq
  have e5 : B16 ^ k * x + B16 ^ k * (B16 * shC x y c) = B16 ^ k * (shS x y c) + B16 ^ k * y + B16 ^ k * c := by
    rw [← Nat.mul_add, e, Nat.mul_add, Nat.mul_add]
  omega
theorem length_le_of_val {B : Nat} (hB : 1 < B) {xs ys : List Nat} (hx : Lim B xs) (ty : Top ys) (h : val B ys ≤ val B xs) : ys.length ≤ xs.length := by
  rcases Nat.lt_or_ge xs.length ys.length with h1 | h1
  · have := val_lt_of_length hB hx ty h1; omega
  · exact h1
theorem subT_end {as bs os : List Nat} {c : Nat} (h : SubT as bs os as.length c) (la : Lim B16 as) (tb : Top bs) (hle : val B16 bs ≤ val B16 as) : val B16 os = val B16 as - val B16 bs := by
  have h1 := length_le_of_val B16_pos la tb hle
  have e := h.eq
  rw [List.take_length, List.take_of_length_le h1] at e
  have h2 := val_lt h.lim
  rw [h.len] at h2
  have h3 := h.cle
  have : c = 0 ∨ c = 1 := by omega
  rcases this with rfl | rfl
  · omega
  · rw [Nat.mul_one] at e; omega

/-- after k rounds of AddH -/
structure SumT (as bs os : List Nat) (k c : Nat) : Prop where
  len : os.length = k
  lim : Lim B16 os
  cle : c ≤ 1
  eq : val B16 os + B16 ^ k * c = val B16 (as.take k) + val B16 (bs.take k)
theorem sumT_zero (as bs : List Nat) : SumT as bs [] 0 0 := ⟨rfl, lim_nil (by unfold B16; omega), by omega, by simp [val]⟩
def ahS (x y c : Nat) : Nat := (x + y + c) % 65536
def ahC (x y c : Nat) : Nat := (x + y + c) / 65536
theorem sumT_step {as bs os : List Nat} {k c : Nat} (h : SumT as bs os k c) (la : Lim B16 as) (lb : Lim B16 bs) :
    SumT as bs (os ++ [ahS (as.getD k 0) (bs.getD k 0) c]) (k + 1) (ahC (as.getD k 0) (bs.getD k 0) c) := by
  have h1 := la k
  have h2 := lb k
  have h3 := h.cle
  generalize hx : as.getD k 0 = x at *
  generalize hy : bs.getD k 0 = y at *
  have e : ahS x y c + B16 * ahC x y c = x + y + c := by
    unfold ahC ahS
    unfold B16 at *
    omega
  refine ⟨by rw [List.length_append, h.len]; rfl, lim_snoc h.lim (by unfold ahS B16; omega), by unfold ahC; unfold B16 at *; omega, ?_⟩
  rw [val_take_succ' B16 as k, val_take_succ' B16 bs k, hx, hy, val_snoc, h.len, Nat.pow_succ, Nat.mul_assoc]
  have e4 := h.eq
  have e5 : B16 ^ k * ahS x y c + B16 ^ k * (B16 * ahC x y c) = B16 ^ k * x + B16 ^ k * y + B16 ^ k * c := by
    rw [← Nat.mul_add, e, Nat.mul_add, Nat.mul_add]
  omega
theorem sumT_end {as bs os : List Nat} {k : Nat} (h : SumT as bs os k 0) (ha : as.length ≤ k) (hb : bs.length ≤ k) : val B16 os = val B16 as + val B16 bs := by
  have e := h.eq
  rw [List.take_of_length_le ha, List.take_of_length_le hb] at e
  omega

/-- after k rounds of takeFrom on the row R: c is borrowed -/
structure TakeT (R R' b : List Nat) (k c : Nat) : Prop where
  len : R'.length = R.length
  rest : ∀ j, k ≤ j → R'.getD j 0 = R.getD j 0
  lim : Lim B64 R'
  cle : c ≤ 1
  eq : val B64 (R.take k) + B64 ^ k * c = val B64 (R'.take k) + val B64 (b.take k)
theorem takeT_zero {R : List Nat} (b : List Nat) (h : Lim B64 R) : TakeT R R b 0 0 := ⟨rfl, fun _ _ => rfl, h, by omega, by simp [val]⟩
theorem takeT_step {R R' b : List Nat} {k c : Nat} (h : TakeT R R' b k c) (lb : Lim B64 b) (hk : k < R.length) :
    TakeT R (R'.set k (sLo (R'.getD k 0) (b.getD k 0) c)) b (k + 1) (sHi (R'.getD k 0) (b.getD k 0) c) := by
  have hl := h.len
  have h1 := h.lim k
  have h2 := lb k
  have h3 := h.cle
  have e0 := h.rest k (Nat.le_refl _)
  refine ⟨by rw [List.length_set, hl], fun j hj => by rw [getD_set' _ _ _ _ (by omega), if_neg (by omega)]; exact h.rest j (by omega), lim_set h.lim (sLo_lt _ _ _) _, sHi_le _ _ _, ?_⟩
  rw [val_take_succ B64 R k hk, val_take_succ' B64 b k, val_take_succ B64 _ k (by rw [List.length_set]; omega), getD_set' _ _ _ _ (by omega), if_pos rfl, ← e0]
  have e1 : (R'.set k (sLo (R'.getD k 0) (b.getD k 0) c)).take k = R'.take k :=
    take_congr (by rw [List.length_set]; omega) (by omega) (fun j hj => by rw [getD_set' _ _ _ _ (by omega), if_neg (by omega)])
  rw [e1]
  have e := s_eq (x := R'.getD k 0) (y := b.getD k 0) (b := c) h1 h2 h3
  generalize R'.getD k 0 = x at *
  generalize b.getD k 0 = y at *
  rw [Nat.pow_succ, Nat.mul_assoc]
  have e4 := h.eq
  have e5 : B64 ^ k * x + B64 ^ k * (B64 * sHi x y c) = B64 ^ k * (sLo x y c) + B64 ^ k * y + B64 ^ k * c := by
    rw [← Nat.mul_add, ← e, Nat.mul_add, Nat.mul_add]
  omega
/-- without a borrow the rest stays -/
theorem takeT_more {R R' b : List Nat} {k : Nat} (h : TakeT R R' b k 0) (hb : b.length ≤ k) (_hk : k ≤ R.length) : ∀ n, k + n ≤ R.length → TakeT R R' b (k + n) 0 := by
  intro n hn
  induction n with
  | zero => exact h
  | succ n ih =>
    have h1 := ih (by omega)
    refine ⟨h.len, fun j hj => h1.rest j (by omega), h.lim, by omega, ?_⟩
    have e := h1.eq
    rw [show k + (n + 1) = k + n + 1 from rfl, val_take_succ' B64 R, val_take_succ' B64 b, val_take_succ' B64 R', h1.rest (k + n) (Nat.le_refl _), getD_ge b (k + n) (by omega)]
    omega
theorem takeT_end {R R' b : List Nat} {c : Nat} (h : TakeT R R' b R.length c) (_lR : Lim B64 R) (hb : b.length ≤ R.length) (hle : val B64 b ≤ val B64 R) : c = 0 ∧ val B64 R' = val B64 R - val B64 b := by
  have e := h.eq
  rw [List.take_length, List.take_of_length_le hb, ← h.len, List.take_length] at e
  have h2 := val_lt h.lim
  have h3 := h.cle
  have : c = 0 ∨ c = 1 := by omega
  rcases this with rfl | rfl
  · exact ⟨rfl, by omega⟩
  · rw [Nat.mul_one] at e; omega
end Go.Proofs.YtafeokkkbiaajabDoor.Mth
