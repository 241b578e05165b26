/- Sums limb by limb, and sums of many, in plain mathematics. -/
import Derived.Test.YtafeokkkbiaajabDoorArithMath
namespace Go.Proofs.YtafeokkkbiaajabDoor.Mth

/-- the sum of all -/
def sumL : List (List Nat) → Nat
  | [] => 0
  | x :: r => val B64 x + sumL r
theorem sumL_append (xs ys : List (List Nat)) : sumL (xs ++ ys) = sumL xs + sumL ys := by
  induction xs with
  | nil => simp [sumL]
  | cons x r ih => simp only [List.cons_append, sumL, ih, Nat.add_assoc]
theorem sumL_take_succ {xss : List (List Nat)} {n : Nat} (h : n < xss.length) : sumL (xss.take (n + 1)) = sumL (xss.take n) + val B64 (xss.getD n []) := by
  rw [List.take_succ_eq_append_getElem h, sumL_append]
  simp [sumL, List.getD_eq_getElem?_getD, h]
theorem sumL_le {xss : List (List Nat)} {b : Nat} (n : Nat) (hn : n ≤ xss.length) (h : ∀ j, j < n → val B64 (xss.getD j []) ≤ b) : sumL (xss.take n) ≤ n * b := by
  induction n with
  | zero => simp [sumL]
  | succ n ih =>
    rw [sumL_take_succ (by omega), Nat.add_mul, Nat.one_mul]
    have h1 := ih (by omega) (fun j hj => h j (by omega))
    have h2 := h n (by omega)
    omega
theorem not_long {xss : List (List Nat)} {n : Nat} (h : longB xss n = false) (hn : n ≤ xss.length) : ∀ j, j < n → val B64 (xss.getD j []) < Big := by
  intro j hj
  rcases Nat.lt_or_ge (val B64 (xss.getD j [])) Big with h1 | h1
  · exact h1
  · exfalso
    have : longB xss n = true := by
      unfold longB
      rw [List.any_eq_true]
      refine ⟨xss.getD j [], ?_, decide_eq_true h1⟩
      rw [List.getD_eq_getElem?_getD, List.getElem?_eq_getElem (by omega)]
      exact List.mem_take_iff_getElem.2 ⟨j, by omega, rfl⟩
    rw [this] at h; cases h
theorem long_of {xss : List (List Nat)} {j n : Nat} (hj : j < xss.length) (h : Big ≤ val B64 (xss.getD j [])) (hn : xss.length = n) : longB xss n = true := by
  subst hn
  rw [longB_iff]
  exact ⟨j, hj, h⟩
/-- what Add answers -/
def addN (xss : List (List Nat)) : Nat := if longB xss xss.length = true then 0 else cutN (sumL xss)
def addE (xss : List (List Nat)) : Int := if longB xss xss.length = true then 5 else cutE (sumL xss)
theorem add_long {xss : List (List Nat)} (h : longB xss xss.length = true) : addN xss = 0 ∧ addE xss = 5 := ⟨if_pos h, if_pos h⟩
theorem add_fine {xss : List (List Nat)} (h : longB xss xss.length = false) : addN xss = cutN (sumL xss) ∧ addE xss = cutE (sumL xss) := by
  have h' : ¬ longB xss xss.length = true := by rw [h]; exact Bool.false_ne_true
  exact ⟨if_neg h', if_neg h'⟩
/-- so many halves does a sum of many numbers have at most -/
def hugeP : Nat := 2 + 4 * maxL
theorem hugeP_le : hugeP ≤ 16000000 := by unfold hugeP maxL; omega
theorem pow_big (n : Nat) (h : n ≤ 16777216) : n * Big < B16 ^ hugeP := by
  have h2 : B16 ^ hugeP = B16 ^ 2 * Big := by unfold hugeP; rw [Nat.pow_add, b16_big]
  rw [h2]
  refine Nat.mul_lt_mul_of_pos_right ?_ (by have := one_lt_big; omega)
  unfold B16
  omega

/-- after k rounds of AddH or addTo on the row R from off on: c is carried -/
structure PutT (R R' : List Nat) (off : Nat) (b : List Nat) (k c : Nat) : Prop where
  len : R'.length = R.length
  rest : ∀ j, j < off ∨ off + k ≤ j → R'.getD j 0 = R.getD j 0
  lim : Lim B64 R'
  cle : c ≤ 1
  eq : seg R' off k + B64 ^ k * c = seg R off k + val B64 (b.take k)
theorem putT_zero {R : List Nat} (off : Nat) (b : List Nat) (h : Lim B64 R) : PutT R R off b 0 0 := ⟨rfl, fun _ _ => rfl, h, by omega, by simp [seg_zero, val]⟩
theorem putT_step {R R' : List Nat} {off : Nat} {b : List Nat} {k c : Nat} (h : PutT R R' off b k c) (lb : Lim B64 b) (hk : off + k < R.length) :
    PutT R (R'.set (off + k) (aLo (R'.getD (off + k) 0) (b.getD k 0) c)) off b (k + 1) (aHi (R'.getD (off + k) 0) (b.getD k 0) c) := by
  have hl := h.len
  have h1 := h.lim (off + k)
  have h2 := lb k
  have h3 := h.cle
  have e0 := h.rest (off + k) (by omega)
  refine ⟨by rw [List.length_set, hl], fun j hj => by rw [getD_set' _ _ _ _ (by omega), if_neg (by omega)]; exact h.rest j (by omega), lim_set h.lim (aLo_lt _ _ _) _, aHi_le h1 h2 h3, ?_⟩
  rw [seg_succ _ _ _ (by rw [List.length_set]; omega), seg_succ R off k hk, val_take_succ' B64 b k, getD_set' _ _ _ _ (by omega), if_pos rfl, ← e0]
  have e1 : seg (R'.set (off + k) (aLo (R'.getD (off + k) 0) (b.getD k 0) c)) off k = seg R' off k :=
    seg_congr (by rw [List.length_set]) (fun j h1 h2 => by rw [getD_set' _ _ _ _ (by omega), if_neg (by omega)]) (by rw [List.length_set]; omega)
  rw [e1]
  have e := a_eq (R'.getD (off + k) 0) (b.getD k 0) c
  generalize R'.getD (off + k) 0 = x at *
  generalize b.getD k 0 = y at *
  rw [Nat.pow_succ, Nat.mul_assoc]
  have e4 := h.eq
  have e5 : B64 ^ k * aLo x y c + B64 ^ k * (B64 * aHi x y c) = B64 ^ k * x + B64 ^ k * y + B64 ^ k * c := by
    rw [← Nat.mul_add, e, Nat.mul_add, Nat.mul_add]
  omega
/-- without a carry the rest stays -/
theorem putT_more {R R' : List Nat} {off : Nat} {b : List Nat} {k : Nat} (h : PutT R R' off b k 0) (hb : b.length ≤ k) : ∀ n, off + (k + n) ≤ R.length → PutT R R' off b (k + n) 0 := by
  intro n hn
  induction n with
  | zero => exact h
  | succ n ih =>
    have h1 := ih (by omega)
    refine ⟨h.len, fun j hj => h.rest j (by omega), h.lim, by omega, ?_⟩
    have e := h1.eq
    have hl := h.len
    rw [show k + (n + 1) = k + n + 1 from rfl, seg_succ R' _ _ (by omega), seg_succ R _ _ (by omega), val_take_succ' B64 b, h1.rest (off + (k + n)) (by omega), getD_ge b (k + n) (by omega)]
    omega
end Go.Proofs.YtafeokkkbiaajabDoor.Mth
