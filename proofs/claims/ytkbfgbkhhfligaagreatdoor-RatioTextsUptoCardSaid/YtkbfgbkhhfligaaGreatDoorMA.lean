/- Math ArithMath AddMath MulMath Digits LenMath ShiftMath DivMath QuoMath QuoHMath TextMath ZMath Euc ZLaws EA EB. -/
import Derived.PlainAid
import Derived.Lib.BitFns
import Derived.Lib.ItoaNum
set_option linter.unusedVariables false
set_option linter.unusedSimpArgs false
/-
  Plain mathematics of numbers as lists of limbs, the lowest first: no program, no memory.
-/
namespace Go.Proofs.YtkbfgbkhhfligaaGreatDoor.Mth

/-- the bases; plain names, so that no walk writes the numerals out -/
def B64 : Nat := 18446744073709551616
def B16 : Nat := 65536
theorem B64_pos : 1 < B64 := by unfold B64; omega
theorem B16_pos : 1 < B16 := by unfold B16; omega

/-- the number of a list of limbs in base B -/
def val (B : Nat) : List Nat → Nat
  | [] => 0
  | x :: r => x + B * val B r

/-- every limb is below B -/
def Lim (B : Nat) (xs : List Nat) : Prop := ∀ j, xs.getD j 0 < B

theorem lim_cons {B x : Nat} {r : List Nat} : Lim B (x :: r) ↔ x < B ∧ Lim B r := by
  constructor
  · intro h
    exact ⟨by simpa using h 0, fun j => by simpa using h (j + 1)⟩
  · rintro ⟨h1, h2⟩ j
    cases j with
    | zero => simpa using h1
    | succ j => simpa using h2 j
theorem lim_nil {B : Nat} (h : 0 < B) : Lim B [] := fun j => by simpa using h
theorem getD_take (xs : List Nat) (n j : Nat) : (xs.take n).getD j 0 = if j < n then xs.getD j 0 else 0 := by
  simp only [List.getD_eq_getElem?_getD, List.getElem?_take]
  split <;> simp
theorem getD_drop (xs : List Nat) (n j : Nat) : (xs.drop n).getD j 0 = xs.getD (n + j) 0 := by
  simp only [List.getD_eq_getElem?_getD, List.getElem?_drop]
theorem getD_ge (xs : List Nat) (j : Nat) (h : xs.length ≤ j) : xs.getD j 0 = 0 := by
  simp [List.getD_eq_getElem?_getD, List.getElem?_eq_none h]
theorem lim_take {B : Nat} {xs : List Nat} (hB : 0 < B) (h : Lim B xs) (n : Nat) : Lim B (xs.take n) := by
  intro j; rw [getD_take]; split
  · exact h j
  · exact hB
theorem lim_drop {B : Nat} {xs : List Nat} (h : Lim B xs) (n : Nat) : Lim B (xs.drop n) := by
  intro j; rw [getD_drop]; exact h _

theorem val_append (B : Nat) (xs ys : List Nat) : val B (xs ++ ys) = val B xs + B ^ xs.length * val B ys := by
  induction xs with
  | nil => simp [val]
  | cons x r ih => simp only [List.cons_append, val, ih, List.length_cons, Nat.pow_succ, Nat.mul_add]; rw [Nat.mul_comm (B ^ r.length) B, Nat.mul_assoc]; omega
theorem val_split (B : Nat) (xs : List Nat) (n : Nat) (h : n ≤ xs.length) : val B xs = val B (xs.take n) + B ^ n * val B (xs.drop n) := by
  have := val_append B (xs.take n) (xs.drop n)
  rw [List.take_append_drop, List.length_take, Nat.min_eq_left h] at this
  exact this
theorem val_lt {B : Nat} {xs : List Nat} (h : Lim B xs) : val B xs < B ^ xs.length := by
  induction xs with
  | nil => simp [val]
  | cons x r ih =>
    obtain ⟨h1, h2⟩ := lim_cons.1 h
    have := ih h2
    simp only [val, List.length_cons, Nat.pow_succ]
    have h3 : B * (val B r + 1) ≤ B * B ^ r.length := Nat.mul_le_mul_left _ this
    rw [Nat.mul_add, Nat.mul_one] at h3
    rw [Nat.mul_comm (B ^ r.length) B]
    omega
theorem val_take_lt {B : Nat} {xs : List Nat} (hB : 0 < B) (h : Lim B xs) (n : Nat) (hn : n ≤ xs.length) : val B (xs.take n) < B ^ n := by
  have := val_lt (lim_take hB h n)
  rwa [List.length_take, Nat.min_eq_left hn] at this
theorem drop_cons {xs : List Nat} {n : Nat} (h : n < xs.length) : xs.drop n = xs.getD n 0 :: xs.drop (n + 1) := by
  rw [List.drop_eq_getElem_cons h]; simp [List.getD_eq_getElem?_getD, h]
theorem take_snoc {xs : List Nat} {n : Nat} (h : n < xs.length) : xs.take (n + 1) = xs.take n ++ [xs.getD n 0] := by
  rw [List.take_succ_eq_append_getElem h]; simp [List.getD_eq_getElem?_getD, h]
theorem val_take_succ (B : Nat) (xs : List Nat) (n : Nat) (h : n < xs.length) : val B (xs.take (n + 1)) = val B (xs.take n) + B ^ n * xs.getD n 0 := by
  rw [take_snoc h, val_append, List.length_take, Nat.min_eq_left (by omega)]; simp [val]
theorem val_drop (B : Nat) (xs : List Nat) (n : Nat) (h : n < xs.length) : val B (xs.drop n) = xs.getD n 0 + B * val B (xs.drop (n + 1)) := by
  rw [drop_cons h]; rfl

/-- all limbs are 0 from n on -/
theorem val_zero {B : Nat} {xs : List Nat} (h : ∀ j, xs.getD j 0 = 0) : val B xs = 0 := by
  induction xs with
  | nil => rfl
  | cons x r ih =>
    have h0 : x = 0 := by simpa using h 0
    have := ih (fun j => by simpa using h (j + 1))
    simp [val, h0, this]
theorem zero_of_val {B : Nat} (hB : 0 < B) {xs : List Nat} (h : val B xs = 0) : ∀ j, xs.getD j 0 = 0 := by
  induction xs with
  | nil => intro j; simp
  | cons x r ih =>
    simp only [val] at h
    have h2 : val B r = 0 := by
      rcases Nat.eq_zero_or_pos (val B r) with h0 | h0
      · exact h0
      · have := Nat.mul_pos hB h0; omega
    intro j
    cases j with
    | zero => simp; omega
    | succ j => simpa using ih h2 j
theorem val_take_zero {B : Nat} {xs : List Nat} {n : Nat} (h : ∀ j, n ≤ j → xs.getD j 0 = 0) : val B (xs.take n) = val B xs := by
  by_cases hn : n ≤ xs.length
  · rw [val_split B xs n hn, val_zero (xs := xs.drop n) (fun j => by rw [getD_drop]; exact h _ (by omega))]; simp
  · rw [List.take_of_length_le (by omega)]

/-- how many limbs are left when the zeros on top are taken off -/
def tlen : List Nat → Nat
  | [] => 0
  | x :: r => if tlen r = 0 then (if x = 0 then 0 else 1) else tlen r + 1
theorem tlen_le (xs : List Nat) : tlen xs ≤ xs.length := by
  induction xs with
  | nil => simp [tlen]
  | cons x r ih => simp only [tlen, List.length_cons]; split <;> (try split) <;> omega
theorem tlen_zero (xs : List Nat) : ∀ j, tlen xs ≤ j → xs.getD j 0 = 0 := by
  induction xs with
  | nil => intro j _; simp
  | cons x r ih =>
    intro j hj
    simp only [tlen] at hj
    cases j with
    | zero =>
      split at hj
      · split at hj
        · simpa using ‹x = 0›
        · omega
      · omega
    | succ j =>
      have := ih j (by split at hj <;> (try split at hj) <;> omega)
      simpa using this
theorem tlen_top (xs : List Nat) (h : 0 < tlen xs) : xs.getD (tlen xs - 1) 0 ≠ 0 := by
  induction xs with
  | nil => simp [tlen] at h
  | cons x r ih =>
    simp only [tlen] at h ⊢
    split at h
    · rename_i h0
      rw [if_pos h0]
      split at h
      · omega
      · rename_i hx
        rw [if_neg hx]; simpa using hx
    · rename_i h0
      rw [if_neg h0]
      have := ih (by omega)
      have e : tlen r + 1 - 1 = (tlen r - 1) + 1 := by omega
      rw [e]; simpa using this
theorem tlen_eq {xs : List Nat} {n : Nat} (h0 : ∀ j, n ≤ j → xs.getD j 0 = 0) (h1 : n = 0 ∨ xs.getD (n - 1) 0 ≠ 0) : tlen xs = n := by
  rcases Nat.lt_trichotomy (tlen xs) n with h | h | h
  · rcases h1 with h1 | h1
    · omega
    · exact absurd (tlen_zero xs (n - 1) (by omega)) h1
  · exact h
  · exact absurd (h0 (tlen xs - 1) (by omega)) (tlen_top xs (by omega))

/-- no zeros on top -/
def Top (xs : List Nat) : Prop := tlen xs = xs.length
/-- the list without the zeros on top -/
def trimL (xs : List Nat) : List Nat := xs.take (tlen xs)
theorem length_trimL (xs : List Nat) : (trimL xs).length = tlen xs := by
  rw [trimL, List.length_take, Nat.min_eq_left (tlen_le xs)]
theorem getD_trimL (xs : List Nat) (j : Nat) : (trimL xs).getD j 0 = xs.getD j 0 := by
  rw [trimL, getD_take]; split
  · rfl
  · exact (tlen_zero xs j (by omega)).symm
theorem val_trimL (B : Nat) (xs : List Nat) : val B (trimL xs) = val B xs := val_take_zero (tlen_zero xs)
theorem top_trimL (xs : List Nat) : Top (trimL xs) := by
  unfold Top
  rw [length_trimL]
  refine tlen_eq (fun j hj => by rw [getD_trimL]; exact tlen_zero xs j hj) ?_
  rcases Nat.eq_zero_or_pos (tlen xs) with h | h
  · exact .inl h
  · exact .inr (by rw [getD_trimL]; exact tlen_top xs h)
theorem lim_trimL {B : Nat} {xs : List Nat} (h : Lim B xs) : Lim B (trimL xs) := fun j => by rw [getD_trimL]; exact h j
theorem trimL_of_top {xs : List Nat} (h : Top xs) : trimL xs = xs := by
  unfold trimL; rw [h]; simp

theorem val_ge {B : Nat} {xs : List Nat} {n : Nat} (h : xs.getD n 0 ≠ 0) : B ^ n ≤ val B xs := by
  have hn : n < xs.length := by
    rcases Nat.lt_or_ge n xs.length with h1 | h1
    · exact h1
    · exact absurd (getD_ge xs n h1) h
  rw [val_split B xs n (by omega), val_drop B xs n hn]
  have : B ^ n * 1 ≤ B ^ n * (xs.getD n 0 + B * val B (xs.drop (n + 1))) := Nat.mul_le_mul_left _ (by omega)
  omega
theorem val_ge_top {B : Nat} {xs : List Nat} (h : Top xs) (hp : 0 < xs.length) : B ^ (xs.length - 1) ≤ val B xs := by
  refine val_ge ?_
  have := tlen_top xs (by rw [h]; exact hp)
  rwa [h] at this

/-- canonical lists of one number are one list -/
theorem list_uniq {B : Nat} (hB : 0 < B) : ∀ {xs ys : List Nat}, Lim B xs → Lim B ys → xs.length = ys.length → val B xs = val B ys → xs = ys
  | [], [], _, _, _, _ => rfl
  | [], _ :: _, _, _, hl, _ => by simp at hl
  | _ :: _, [], _, _, hl, _ => by simp at hl
  | x :: r, y :: s, hx, hy, hl, hv => by
    obtain ⟨hx1, hx2⟩ := lim_cons.1 hx
    obtain ⟨hy1, hy2⟩ := lim_cons.1 hy
    simp only [val] at hv
    have e1 : (x + B * val B r) % B = x := by rw [Nat.add_mul_mod_self_left, Nat.mod_eq_of_lt hx1]
    have e2 : (y + B * val B s) % B = y := by rw [Nat.add_mul_mod_self_left, Nat.mod_eq_of_lt hy1]
    have exy : x = y := by rw [← e1, hv, e2]
    subst exy
    have : B * val B r = B * val B s := by omega
    have := Nat.eq_of_mul_eq_mul_left hB this
    rw [list_uniq hB hx2 hy2 (by simpa using hl) this]
theorem length_of_val {B : Nat} (hB : 1 < B) {xs : List Nat} (ht : Top xs) (n : Nat) (h : val B xs < B ^ n) : xs.length ≤ n := by
  rcases Nat.lt_or_ge n xs.length with h1 | h1
  · have h2 := val_ge_top (B := B) ht (by omega)
    have h3 : B ^ n ≤ B ^ (xs.length - 1) := Nat.pow_le_pow_right (by omega) (by omega)
    omega
  · exact h1
theorem top_uniq {B : Nat} (hB : 1 < B) {xs ys : List Nat} (hx : Lim B xs) (hy : Lim B ys) (tx : Top xs) (ty : Top ys) (h : val B xs = val B ys) : xs = ys := by
  refine list_uniq (by omega) hx hy ?_ h
  have h1 := length_of_val hB tx ys.length (by rw [h]; exact val_lt hy)
  have h2 := length_of_val hB ty xs.length (by rw [← h]; exact val_lt hx)
  omega

/-- the order of two numbers, by the highest limbs that differ -/
theorem val_lt_of_top {B : Nat} (hB : 0 < B) {xs ys : List Nat} (hx : Lim B xs) {i : Nat} (hxi : i < xs.length) (hyi : i < ys.length)
    (hd : val B (xs.drop (i + 1)) = val B (ys.drop (i + 1))) (h : xs.getD i 0 < ys.getD i 0) : val B xs < val B ys := by
  rw [val_split B xs i (by omega), val_split B ys i (by omega), val_drop B xs i hxi, val_drop B ys i hyi, hd]
  have h1 := val_take_lt hB hx i (by omega)
  have h2 : B ^ i * (xs.getD i 0 + B * val B (ys.drop (i + 1)) + 1) ≤ B ^ i * (ys.getD i 0 + B * val B (ys.drop (i + 1))) := Nat.mul_le_mul_left _ (by omega)
  rw [Nat.mul_add, Nat.mul_one] at h2
  omega
theorem val_lt_of_length {B : Nat} (hB : 1 < B) {xs ys : List Nat} (hx : Lim B xs) (ty : Top ys) (h : xs.length < ys.length) : val B xs < val B ys := by
  have h1 := val_lt hx
  have h2 := val_ge_top (B := B) ty (by omega)
  have h3 : B ^ xs.length ≤ B ^ (ys.length - 1) := Nat.pow_le_pow_right (by omega) (by omega)
  omega

/-- -1, 0, 1 -/
def cmp3 (a b : Nat) : Int := if a < b then -1 else if b < a then 1 else 0

/-- limbs of 16 bits of limbs of 64 -/
def halves : List Nat → List Nat
  | [] => []
  | x :: r => x % 65536 :: x / 65536 % 65536 :: x / 4294967296 % 65536 :: x / 281474976710656 % 65536 :: halves r
theorem length_halves (xs : List Nat) : (halves xs).length = 4 * xs.length := by
  induction xs with
  | nil => rfl
  | cons x r ih => simp only [halves, List.length_cons, ih]; omega
theorem lim_halves (xs : List Nat) : Lim B16 (halves xs) := by
  unfold B16
  induction xs with
  | nil => exact lim_nil (by omega)
  | cons x r ih =>
    simp only [halves, lim_cons]
    exact ⟨by omega, by omega, by omega, by omega, ih⟩
theorem halves_append (xs ys : List Nat) : halves (xs ++ ys) = halves xs ++ halves ys := by
  induction xs with
  | nil => rfl
  | cons x r ih => simp [halves, ih]
theorem val_halves {xs : List Nat} (h : Lim B64 xs) : val B16 (halves xs) = val B64 xs := by
  unfold B16 B64 at *
  induction xs with
  | nil => rfl
  | cons x r ih =>
    obtain ⟨h1, h2⟩ := lim_cons.1 h
    have := ih h2
    simp only [halves, val, this]
    generalize val 18446744073709551616 r = v
    omega

/-- the halves of a product and of a sum; plain names, so that no walk takes them apart -/
def mHi (x y : Nat) : Nat := x * y / B64
def mLo (x y : Nat) : Nat := x * y % B64
def aLo (x y c : Nat) : Nat := (x + y + c) % B64
def aHi (x y c : Nat) : Nat := (x + y + c) / B64
def sLo (x y b : Nat) : Nat := (x + B64 - y - b) % B64
def sHi (x y b : Nat) : Nat := if x < y + b then 1 else 0
/-- x times y, and p -/
def pHi (x y p : Nat) : Nat := (x * y + p) / B64
def pLo (x y p : Nat) : Nat := (x * y + p) % B64
theorem mod64_lt (n : Nat) : n % B64 < B64 := Nat.mod_lt _ (by have := B64_pos; omega)
theorem mLo_lt (x y : Nat) : mLo x y < B64 := mod64_lt _
theorem aLo_lt (x y c : Nat) : aLo x y c < B64 := mod64_lt _
theorem pLo_lt (x y c : Nat) : pLo x y c < B64 := mod64_lt _
theorem sLo_lt (x y c : Nat) : sLo x y c < B64 := mod64_lt _
theorem aHi_le {x y c : Nat} (hx : x < B64) (hy : y < B64) (hc : c ≤ 1) : aHi x y c ≤ 1 := by
  have h : (x + y + c) / B64 < 2 := by rw [Nat.div_lt_iff_lt_mul (by have := B64_pos; omega)]; omega
  unfold aHi; omega
theorem a_eq (x y c : Nat) : aLo x y c + B64 * aHi x y c = x + y + c := Nat.mod_add_div _ _
theorem p_eq (x y p : Nat) : pLo x y p + B64 * pHi x y p = x * y + p := Nat.mod_add_div _ _
theorem m_eq (x y : Nat) : mLo x y + B64 * mHi x y = x * y := Nat.mod_add_div _ _
theorem sHi_le (x y b : Nat) : sHi x y b ≤ 1 := by unfold sHi; split <;> omega
theorem s_eq {x y b : Nat} (hx : x < B64) (hy : y < B64) (hb : b ≤ 1) : sLo x y b + y + b = x + B64 * sHi x y b := by
  unfold sLo sHi
  unfold B64 at *
  split <;> omega
theorem uniq64 {a b c d : Nat} (ha : a < B64) (hc : c < B64) (h : a + B64 * b = c + B64 * d) : a = c ∧ b = d := by
  have h1 : (a + B64 * b) % B64 = a := by rw [Nat.add_mul_mod_self_left, Nat.mod_eq_of_lt ha]
  have h2 : (c + B64 * d) % B64 = c := by rw [Nat.add_mul_mod_self_left, Nat.mod_eq_of_lt hc]
  have e : a = c := by rw [← h1, h, h2]
  subst e
  exact ⟨rfl, Nat.eq_of_mul_eq_mul_left (by have := B64_pos; omega : 0 < B64) (by omega)⟩
theorem pHi_lt {x y p : Nat} (hx : x < B64) (hy : y < B64) (hp : p < B64) : pHi x y p < B64 := by
  have hB : 0 < B64 := by have := B64_pos; omega
  unfold pHi
  rw [Nat.div_lt_iff_lt_mul hB]
  have h2 : x * y ≤ (B64 - 1) * (B64 - 1) := Nat.mul_le_mul (by omega) (by omega)
  have h3 : (B64 - 1) * (B64 - 1) + (B64 - 1) < B64 * B64 := by unfold B64; omega
  omega
/-- mulAdd by its two steps -/
theorem p_steps {x y p : Nat} : aLo (mLo x y) p 0 = pLo x y p ∧ mHi x y + aHi (mLo x y) p 0 = pHi x y p := by
  refine uniq64 (aLo_lt _ _ _) (pLo_lt _ _ _) ?_
  have e1 := a_eq (mLo x y) p 0
  have e2 := m_eq x y
  have e3 := p_eq x y p
  rw [Nat.mul_add]
  omega

theorem lim_set {B : Nat} {xs : List Nat} (h : Lim B xs) {x : Nat} (hx : x < B) (i : Nat) : Lim B (xs.set i x) := by
  intro j
  by_cases hi : i < xs.length
  · simp only [List.getD_eq_getElem?_getD, List.getElem?_set]
    split
    · subst_vars; simpa [hi] using hx
    · have := h j; simpa [List.getD_eq_getElem?_getD] using this
  · rw [List.set_eq_of_length_le (by omega)]; exact h j
theorem getD_set' (xs : List Nat) (i x j : Nat) (hi : i < xs.length) : (xs.set i x).getD j 0 = if j = i then x else xs.getD j 0 := by
  simp only [List.getD_eq_getElem?_getD, List.getElem?_set]
  split
  · subst_vars; simp only [if_true, Option.getD_some]
  · rename_i h; rw [if_neg (fun e => h e.symm)]
/-- lists that agree below n have the same first n limbs -/
theorem take_congr {xs ys : List Nat} {n : Nat} (hx : n ≤ xs.length) (hy : n ≤ ys.length) (h : ∀ j, j < n → xs.getD j 0 = ys.getD j 0) : xs.take n = ys.take n := by
  apply List.ext_getElem?
  intro j
  simp only [List.getElem?_take]
  split
  · rename_i hj
    have := h j hj
    rw [List.getElem?_eq_getElem (by omega), List.getElem?_eq_getElem (by omega)]
    simpa [List.getD_eq_getElem?_getD, show j < xs.length by omega, show j < ys.length by omega] using this
  · rfl
theorem list_congr {xs ys : List Nat} (hl : xs.length = ys.length) (h : ∀ j, j < xs.length → xs.getD j 0 = ys.getD j 0) : xs = ys := by
  have := take_congr (n := xs.length) (Nat.le_refl _) (by omega) h
  rwa [List.take_length, hl, List.take_length] at this
/-- the number of the n limbs from off on -/
def seg (R : List Nat) (off n : Nat) : Nat := val B64 ((R.drop off).take n)
theorem seg_zero (R : List Nat) (off : Nat) : seg R off 0 = 0 := by simp [seg, val]
theorem seg_succ (R : List Nat) (off n : Nat) (h : off + n < R.length) : seg R off (n + 1) = seg R off n + B64 ^ n * R.getD (off + n) 0 := by
  unfold seg
  rw [val_take_succ B64 _ n (by rw [List.length_drop]; omega), getD_drop]
theorem seg_congr {R R' : List Nat} {off n : Nat} (hl : R.length = R'.length) (h : ∀ j, off ≤ j → j < off + n → R.getD j 0 = R'.getD j 0) (hn : off + n ≤ R.length) : seg R off n = seg R' off n := by
  unfold seg
  rw [take_congr (ys := R'.drop off) (by rw [List.length_drop]; omega) (by rw [List.length_drop]; omega)]
  intro j hj
  rw [getD_drop, getD_drop]
  exact h _ (by omega) (by omega)

/-- after k rounds of addTimes -/
structure AddT (R R' : List Nat) (off : Nat) (b : List Nat) (x k c : Nat) : Prop where
  len : R'.length = R.length
  rest : ∀ j, j < off ∨ off + k ≤ j → R'.getD j 0 = R.getD j 0
  lim : Lim B64 R'
  clt : c < B64
  eq : seg R' off k + B64 ^ k * c = seg R off k + x * val B64 (b.take k)
theorem addT_zero {R : List Nat} {off : Nat} {b : List Nat} {x : Nat} (h : Lim B64 R) : AddT R R off b x 0 0 :=
  ⟨rfl, fun _ _ => rfl, h, by have := B64_pos; omega, by simp [seg_zero, val]⟩
/-- what addTimes carries on -/
def carryT (x y c s : Nat) : Nat := pHi x y c + aHi (pLo x y c) s 0
theorem carryT_lt {x y c s : Nat} (hx : x < B64) (hy : y < B64) (hc : c < B64) (hs : s < B64) : carryT x y c s < B64 := by
  have e1 := p_eq x y c
  have e2 := a_eq (pLo x y c) s 0
  have h2 : x * y ≤ (B64 - 1) * (B64 - 1) := Nat.mul_le_mul (by omega) (by omega)
  have h3 : (B64 - 1) * (B64 - 1) + 2 * (B64 - 1) < B64 * B64 := by unfold B64; omega
  have h4 : B64 * carryT x y c s < B64 * B64 := by
    unfold carryT
    rw [Nat.mul_add]
    omega
  exact Nat.lt_of_mul_lt_mul_left h4
theorem addT_step {R R' : List Nat} {off : Nat} {b : List Nat} {x k c : Nat} (h : AddT R R' off b x k c) (hx : x < B64) (hb : Lim B64 b) (hk : k < b.length) (hoff : off + b.length ≤ R.length) :
    AddT R (R'.set (off + k) (aLo (pLo x (b.getD k 0) c) (R'.getD (off + k) 0) 0)) off b x (k + 1) (carryT x (b.getD k 0) c (R'.getD (off + k) 0)) := by
  have hl := h.len
  refine ⟨by rw [List.length_set, hl], ?_, lim_set h.lim (aLo_lt _ _ _) _, carryT_lt hx (hb k) h.clt (h.lim _), ?_⟩
  · intro j hj
    rw [getD_set' _ _ _ _ (by omega), if_neg (by omega)]
    exact h.rest j (by omega)
  · rw [seg_succ _ _ _ (by rw [List.length_set]; omega), getD_set' _ _ _ _ (by omega), if_pos rfl, seg_succ R off k (by omega), val_take_succ B64 b k hk]
    have e0 : seg (R'.set (off + k) (aLo (pLo x (b.getD k 0) c) (R'.getD (off + k) 0) 0)) off k = seg R' off k :=
      seg_congr (by rw [List.length_set]) (fun j h1 h2 => by rw [getD_set' _ _ _ _ (by omega), if_neg (by omega)]) (by rw [List.length_set]; omega)
    rw [e0]
    have e1 := p_eq x (b.getD k 0) c
    have e2 := a_eq (pLo x (b.getD k 0) c) (R'.getD (off + k) 0) 0
    have e3 := h.eq
    have e4 := h.rest (off + k) (by omega)
    rw [e4] at e2 ⊢
    unfold carryT
    generalize aLo (pLo x (b.getD k 0) c) (R.getD (off + k) 0) 0 = al at *
    generalize aHi (pLo x (b.getD k 0) c) (R.getD (off + k) 0) 0 = ah at *
    generalize pLo x (b.getD k 0) c = pl at *
    generalize pHi x (b.getD k 0) c = ph at *
    generalize b.getD k 0 = y at *
    generalize R.getD (off + k) 0 = s at *
    generalize seg R' off k = s1 at *
    generalize seg R off k = s2 at *
    generalize val B64 (b.take k) = vb at *
    have e5 : al + B64 * (ph + ah) = x * y + c + s := by rw [Nat.mul_add]; omega
    have e6 : B64 ^ (k + 1) * (ph + ah) = B64 ^ k * (B64 * (ph + ah)) := by rw [Nat.pow_succ, Nat.mul_assoc]
    have e7 : B64 ^ k * al + B64 ^ k * (B64 * (ph + ah)) = B64 ^ k * (x * y + c + s) := by rw [← Nat.mul_add, e5]
    have e8 : B64 ^ k * (x * y + c + s) = x * (B64 ^ k * y) + B64 ^ k * c + B64 ^ k * s := by
      rw [Nat.mul_add, Nat.mul_add, ← Nat.mul_assoc, Nat.mul_comm (B64 ^ k) x, Nat.mul_assoc]
    rw [e6, Nat.mul_add x vb]
    omega

theorem seg_split (R : List Nat) (i n : Nat) (h : i + n ≤ R.length) : seg R 0 (i + n) = seg R 0 i + B64 ^ i * seg R i n := by
  induction n with
  | zero => simp [seg_zero]
  | succ n ih =>
    have h1 := seg_succ R 0 (i + n) (by omega)
    have h2 := seg_succ R i n (by omega)
    have h3 := ih (by omega)
    rw [Nat.zero_add] at h1
    rw [show i + (n + 1) = i + n + 1 from rfl, h1, h2, h3, Nat.mul_add, Nat.pow_add, Nat.mul_assoc]
    omega
theorem seg_all (R : List Nat) : seg R 0 R.length = val B64 R := by simp [seg]

/-- after i rows of a product -/
structure TimesI (R xs ys : List Nat) (i : Nat) : Prop where
  len : R.length = xs.length + ys.length
  zero : ∀ j, i + ys.length ≤ j → R.getD j 0 = 0
  lim : Lim B64 R
  eq : seg R 0 (i + ys.length) = val B64 (xs.take i) * val B64 ys
theorem getD_replicate (n j : Nat) : (List.replicate n 0).getD j 0 = 0 := by
  simp only [List.getD_eq_getElem?_getD, List.getElem?_replicate]
  split <;> rfl
theorem times_zero (xs ys : List Nat) : TimesI (List.replicate (xs.length + ys.length) 0) xs ys 0 := by
  refine ⟨by simp, fun j _ => getD_replicate _ _, fun j => by rw [getD_replicate]; have := B64_pos; omega, ?_⟩
  simp only [List.take_zero, val, Nat.zero_mul, seg]
  refine val_zero fun j => ?_
  rw [getD_take]
  split
  · rw [getD_drop, getD_replicate]
  · rfl
theorem times_step {R R' xs ys : List Nat} {i c : Nat} (h : TimesI R xs ys i) (hi : i < xs.length) (hA : AddT R R' i ys (xs.getD i 0) ys.length c) :
    TimesI (R'.set (i + ys.length) c) xs ys (i + 1) := by
  have hl := h.len
  have hl' := hA.len
  refine ⟨by rw [List.length_set]; omega, ?_, lim_set hA.lim hA.clt _, ?_⟩
  · intro j hj
    rw [getD_set' _ _ _ _ (by omega), if_neg (by omega), hA.rest j (by omega)]
    exact h.zero j (by omega)
  · have e1 := seg_succ (R'.set (i + ys.length) c) 0 (i + ys.length) (by rw [List.length_set]; omega)
    rw [Nat.zero_add, getD_set' _ _ _ _ (by omega), if_pos rfl] at e1
    have e2 : seg (R'.set (i + ys.length) c) 0 (i + ys.length) = seg R' 0 (i + ys.length) :=
      seg_congr (by rw [List.length_set]) (fun j h1 h2 => by rw [getD_set' _ _ _ _ (by omega), if_neg (by omega)]) (by rw [List.length_set]; omega)
    have e3 := seg_split R' i ys.length (by omega)
    have e4 := seg_split R i ys.length (by omega)
    have e5 : seg R' 0 i = seg R 0 i := seg_congr hl' (fun j h1 h2 => hA.rest j (by omega)) (by omega)
    have e6 := hA.eq
    rw [List.take_length] at e6
    have e7 := h.eq
    have e8 := val_take_succ B64 xs i hi
    rw [show i + 1 + ys.length = i + ys.length + 1 by omega, e1, e2, e3, e5, e8, Nat.add_mul, ← e7, e4, Nat.pow_add, Nat.mul_assoc]
    have e9 : B64 ^ i * seg R' i ys.length + B64 ^ i * (B64 ^ ys.length * c) = B64 ^ i * seg R i ys.length + B64 ^ i * (xs.getD i 0) * val B64 ys := by
      rw [← Nat.mul_add, e6, Nat.mul_add, Nat.mul_assoc]
    omega
theorem times_end {R xs ys : List Nat} (h : TimesI R xs ys xs.length) : val B64 R = val B64 xs * val B64 ys := by
  have := h.eq
  rw [← h.len, seg_all, List.take_length] at this
  exact this
theorem pos_of_top {xs : List Nat} (h : Top xs) (hp : 0 < xs.length) : 0 < val B64 xs :=
  Nat.lt_of_lt_of_le (Nat.pow_pos (by have := B64_pos; omega)) (val_ge_top h hp)
/-- a product of so many limbs is long -/
theorem times_long {m : Nat} {xs ys : List Nat} (tx : Top xs) (ty : Top ys) (hx : 0 < xs.length) (hy : 0 < ys.length) (h : m < xs.length + ys.length - 1) : B64 ^ m ≤ val B64 xs * val B64 ys := by
  have h1 := val_ge_top (B := B64) tx hx
  have h2 := val_ge_top (B := B64) ty hy
  have h3 := Nat.mul_le_mul h1 h2
  rw [← Nat.pow_add] at h3
  exact Nat.le_trans (Nat.pow_le_pow_right (by have := B64_pos; omega) (by omega)) h3

theorem long_gen {m : Nat} {xs : List Nat} (hx : Lim B64 xs) : m < (trimL xs).length ↔ B64 ^ m ≤ val B64 xs := by
  constructor
  · intro h
    have h1 := val_ge_top (B := B64) (top_trimL xs) (by omega)
    rw [val_trimL] at h1
    exact Nat.le_trans (Nat.pow_le_pow_right (by have := B64_pos; omega) (by omega)) h1
  · intro h
    have h1 := val_lt (lim_trimL hx)
    rw [val_trimL] at h1
    rcases Nat.lt_or_ge m (trimL xs).length with h2 | h2
    · exact h2
    · have h3 : B64 ^ (trimL xs).length ≤ B64 ^ m := Nat.pow_le_pow_right (by have := B64_pos; omega) h2
      omega
/-- how many limbs a number may have -/
def maxL : Nat := 4096
/-- 2 to the 64 times 4096: the least number that is long -/
def Big : Nat := B64 ^ maxL
theorem long_iff {xs : List Nat} (hx : Lim B64 xs) : 4096 < (trimL xs).length ↔ Big ≤ val B64 xs := long_gen (m := maxL) hx
/-- what a call answers for the number n: the number and 0, or nothing and 5 -/
def cutN (n : Nat) : Nat := if Big ≤ n then 0 else n
def cutE (n : Nat) : Int := if Big ≤ n then 5 else 0
/-- the product of all -/
def prodL : List (List Nat) → Nat
  | [] => 1
  | x :: r => val B64 x * prodL r
theorem prodL_append (xs ys : List (List Nat)) : prodL (xs ++ ys) = prodL xs * prodL ys := by
  induction xs with
  | nil => simp [prodL]
  | cons x r ih => simp only [List.cons_append, prodL, ih, Nat.mul_assoc]
theorem prodL_split (xs : List (List Nat)) (n : Nat) : prodL xs = prodL (xs.take n) * prodL (xs.drop n) := by
  rw [← prodL_append, List.take_append_drop]
theorem prodL_pos {xs : List (List Nat)} (h : ∀ x ∈ xs, 0 < val B64 x) : 0 < prodL xs := by
  induction xs with
  | nil => simp [prodL]
  | cons x r ih => exact Nat.mul_pos (h x (by simp)) (ih fun y hy => h y (by simp [hy]))
theorem prodL_zero {xs : List (List Nat)} {x : List Nat} (hx : x ∈ xs) (h : val B64 x = 0) : prodL xs = 0 := by
  induction xs with
  | nil => cases hx
  | cons y r ih =>
    simp only [prodL]
    rcases List.mem_cons.1 hx with e | e
    · subst e; rw [h]; simp
    · rw [ih e]; simp
theorem cut_small {n : Nat} (h : n < Big) : cutN n = n ∧ cutE n = 0 := ⟨if_neg (by omega), if_neg (by omega)⟩
theorem cut_big {n : Nat} (h : Big ≤ n) : cutN n = 0 ∧ cutE n = 5 := ⟨if_pos h, if_pos h⟩
theorem big_mul_left {a b : Nat} (h : Big ≤ a) (hb : 0 < b) : Big ≤ a * b := Nat.le_trans h (Nat.le_mul_of_pos_right a hb)
theorem big_mul_right {a b : Nat} (h : Big ≤ b) (ha : 0 < a) : Big ≤ a * b := Nat.le_trans h (Nat.le_mul_of_pos_left b ha)
theorem one_lt_big : 1 < Big := by
  have h1 : B64 ^ 1 ≤ B64 ^ maxL := Nat.pow_le_pow_right (by have := B64_pos; omega) (by unfold maxL; omega)
  have h2 := B64_pos
  have h3 : Big = B64 ^ maxL := rfl
  rw [Nat.pow_one] at h1
  omega
/-- is one of the first n long; is one 0 -/
def longL (xss : List (List Nat)) (n : Nat) : Prop := ∃ j, j < n ∧ Big ≤ val B64 (xss.getD j [])
def zeroL (xss : List (List Nat)) (n : Nat) : Bool := (xss.take n).any fun x => val B64 x == 0
theorem zeroL_succ {xss : List (List Nat)} {n : Nat} (h : n < xss.length) : zeroL xss (n + 1) = (zeroL xss n || (val B64 (xss.getD n []) == 0)) := by
  unfold zeroL
  rw [List.take_succ_eq_append_getElem h, List.any_append]
  simp [List.getD_eq_getElem?_getD, h]
theorem getDL_mem {xss : List (List Nat)} {x : List Nat} (h : x ∈ xss) : ∃ j, j < xss.length ∧ xss.getD j [] = x := by
  obtain ⟨j, hj, e⟩ := List.mem_iff_getElem.1 h
  exact ⟨j, hj, by simp [List.getD_eq_getElem?_getD, hj, e]⟩
/-- what Mul answers -/
noncomputable def mulN (xss : List (List Nat)) : Nat := open Classical in if longL xss xss.length then 0 else cutN (prodL xss)
noncomputable def mulE (xss : List (List Nat)) : Int := open Classical in if longL xss xss.length then 5 else cutE (prodL xss)
/-- the k-th half of a limb -/
def hf (x k : Nat) : Nat := x / 65536 ^ k % 65536
def quad (x : Nat) : List Nat := [hf x 0, hf x 1, hf x 2, hf x 3]
theorem halves_one (x : Nat) : halves [x] = quad x := by
  simp only [halves, quad, hf]
  simp
theorem halves_take_succ {xs : List Nat} {k : Nat} (h : k < xs.length) : halves (xs.take (k + 1)) = halves (xs.take k) ++ quad (xs.getD k 0) := by
  rw [take_snoc h, halves_append, halves_one]
theorem quad_take (x m : Nat) (h : m < 4) : (quad x).take (m + 1) = (quad x).take m ++ [hf x m] := by
  have : m = 0 ∨ m = 1 ∨ m = 2 ∨ m = 3 := by omega
  rcases this with rfl | rfl | rfl | rfl <;> rfl
/-- the limb of the halves from 4 j on, of the first k -/
def grp (hs : List Nat) (k j : Nat) : Nat := val B16 (((hs.take k).drop (4 * j)).take 4)
structure Packed (hs ys : List Nat) (k : Nat) : Prop where
  len : ys.length = (k + 3) / 4
  eq : ∀ j, ys.getD j 0 = grp hs k j
theorem grp_far {hs : List Nat} {k j : Nat} (h : k ≤ 4 * j) : grp hs k j = 0 := by
  unfold grp
  rw [List.drop_of_length_le (by rw [List.length_take]; omega)]
  rfl
theorem grp_near {hs : List Nat} {k j : Nat} (_ : k < hs.length) (h : k < 4 * j ∨ 4 * j + 4 ≤ k) : grp hs (k + 1) j = grp hs k j := by
  unfold grp
  congr 1
  apply List.ext_getElem?
  intro i
  simp only [List.getElem?_take, List.getElem?_drop]
  split
  · have : (4 * j + i < k + 1) = (4 * j + i < k) := by
      apply propext
      constructor
      · intro h1; omega
      · intro h1; omega
    simp only [this]
  · rfl
theorem grp_at {hs : List Nat} {k q r : Nat} (hk : k < hs.length) (hkq : k = 4 * q + r) (hr : r < 4) : grp hs (k + 1) q = grp hs k q + B16 ^ r * hs.getD k 0 := by
  unfold grp
  have h1 : ((hs.take (k + 1)).drop (4 * q)).take 4 = (hs.drop (4 * q)).take (r + 1) := by
    rw [List.drop_take, List.take_take]; congr 1; omega
  have h2 : ((hs.take k).drop (4 * q)).take 4 = (hs.drop (4 * q)).take r := by
    rw [List.drop_take, List.take_take]; congr 1; omega
  rw [h1, h2, val_take_succ B16 _ r (by rw [List.length_drop]; omega), getD_drop, hkq]
theorem grp_lt {hs : List Nat} (h : Lim B16 hs) {k q r : Nat} (hkq : k = 4 * q + r) (hr : r < 4) (hk : k ≤ hs.length) : grp hs k q < B16 ^ r := by
  unfold grp
  have h2 : ((hs.take k).drop (4 * q)).take 4 = (hs.drop (4 * q)).take r := by
    rw [List.drop_take, List.take_take]; congr 1; omega
  rw [h2]
  exact val_take_lt (by unfold B16; omega) (lim_drop h _) r (by rw [List.length_drop]; omega)
theorem packed_zero (hs : List Nat) : Packed hs [] 0 := ⟨rfl, fun j => by rw [grp_far (by omega)]; rfl⟩
theorem getD_append_zero (ys : List Nat) (j : Nat) : (ys ++ [0]).getD j 0 = ys.getD j 0 := by
  simp only [List.getD_eq_getElem?_getD, List.getElem?_append]
  split
  · rfl
  · rename_i h
    rw [List.getElem?_eq_none (by omega : ys.length ≤ j)]
    rcases Nat.eq_zero_or_pos (j - ys.length) with h0 | h0
    · rw [h0]; rfl
    · rw [List.getElem?_eq_none (by simp; omega)]
/-- a new limb -/
theorem packed_new {hs ys : List Nat} {k q : Nat} (h : Packed hs ys k) (hk : k < hs.length) (hkq : k = 4 * q) : Packed hs ((ys ++ [0]).set q (hs.getD k 0)) (k + 1) := by
  have hl := h.len
  refine ⟨by rw [List.length_set, List.length_append, List.length_singleton, hl]; omega, fun j => ?_⟩
  rw [getD_set' _ _ _ _ (by rw [List.length_append, List.length_singleton, hl]; omega), getD_append_zero]
  split
  · rename_i e
    subst e
    rw [grp_at (r := 0) hk (by omega) (by omega), grp_far (by omega)]
    simp
  · rw [h.eq j]
    by_cases h1 : k < 4 * j ∨ 4 * j + 4 ≤ k
    · exact (grp_near hk h1).symm
    · exfalso; omega
theorem packed_old {hs ys : List Nat} {k q r : Nat} (h : Packed hs ys k) (hk : k < hs.length) (hkq : k = 4 * q + r) (hr : r < 4) (hr0 : 0 < r) : Packed hs (ys.set q (ys.getD q 0 + B16 ^ r * hs.getD k 0)) (k + 1) := by
  have hl := h.len
  refine ⟨by rw [List.length_set, hl]; omega, fun j => ?_⟩
  rw [getD_set' _ _ _ _ (by rw [hl]; omega)]
  split
  · rename_i e
    subst e
    rw [grp_at hk hkq hr, h.eq]
  · rw [h.eq j]
    by_cases h1 : k < 4 * j ∨ 4 * j + 4 ≤ k
    · exact (grp_near hk h1).symm
    · exfalso; omega
theorem b16_4 : B16 ^ 4 = B64 := by unfold B16 B64; rfl
theorem packed_val : ∀ (ys hs : List Nat), ys.length = (hs.length + 3) / 4 → (∀ j, ys.getD j 0 = val B16 ((hs.drop (4 * j)).take 4)) → val B64 ys = val B16 hs
  | [], hs, hl, _ => by
    have : hs = [] := List.eq_nil_of_length_eq_zero (by simp at hl; omega)
    subst this; rfl
  | y :: r, hs, hl, he => by
    have h0 := he 0
    simp only [Nat.mul_zero, List.drop_zero] at h0
    have hy : y = val B16 (hs.take 4) := by simpa using h0
    simp only [List.length_cons] at hl
    have ih := packed_val r (hs.drop 4) (by rw [List.length_drop]; omega) (fun j => by
      have := he (j + 1)
      rw [List.drop_drop]
      simpa [Nat.mul_add, Nat.add_comm] using this)
    simp only [val, ih, hy]
    by_cases h4 : 4 ≤ hs.length
    · rw [val_split B16 hs 4 h4, b16_4]
    · rw [List.drop_of_length_le (by omega : hs.length ≤ 4), List.take_of_length_le (by omega)]
      simp [val]
theorem packed_lim {hs ys : List Nat} (h : Packed hs ys hs.length) (hl : Lim B16 hs) : Lim B64 ys := by
  intro j
  rw [h.eq j]
  unfold grp
  have h1 := val_lt (lim_take (B := B16) (by unfold B16; omega) (lim_drop (lim_take (by unfold B16; omega) hl hs.length) (4 * j)) 4)
  refine Nat.lt_of_lt_of_le h1 ?_
  rw [← b16_4]
  exact Nat.pow_le_pow_right (by unfold B16; omega) (by rw [List.length_take]; omega)
theorem packed_end {hs ys : List Nat} (h : Packed hs ys hs.length) : val B64 ys = val B16 hs :=
  packed_val ys hs h.len (fun j => by rw [h.eq j]; unfold grp; rw [List.take_length])
theorem packed_top {hs ys : List Nat} (h : Packed hs ys hs.length) (ht : Top hs) : Top ys := by
  unfold Top
  refine tlen_eq (fun j hj => getD_ge ys j hj) ?_
  rcases Nat.eq_zero_or_pos ys.length with h0 | h0
  · exact .inl h0
  · refine .inr ?_
    have hl := h.len
    rw [h.eq]
    have htop := tlen_top hs (by rw [ht]; omega)
    rw [ht] at htop
    unfold grp
    rw [List.take_length]
    intro h1
    have h2 := zero_of_val (B := B16) (by unfold B16; omega) h1 (hs.length - 1 - 4 * (ys.length - 1))
    rw [getD_take, if_pos (by omega), getD_drop, show 4 * (ys.length - 1) + (hs.length - 1 - 4 * (ys.length - 1)) = hs.length - 1 by omega] at h2
    exact htop h2
theorem nil_iff {xs : List Nat} : (trimL xs).length = 0 ↔ val B64 xs = 0 := by
  rw [length_trimL]
  constructor
  · intro h; rw [← val_trimL]; simp [trimL, h, val]
  · intro h; exact tlen_eq (fun j _ => zero_of_val (by have := B64_pos; omega) h j) (.inl rfl)
end Go.Proofs.YtkbfgbkhhfligaaGreatDoor.Mth

/- Sums and differences limb by limb, in plain mathematics. -/
namespace Go.Proofs.YtkbfgbkhhfligaaGreatDoor.Mth

theorem b16_big : B16 ^ (4 * maxL) = Big := by
  rw [Nat.pow_mul, b16_4]; rfl
/-- is a number of halves long -/
theorem hlong_gen {m : Nat} {xs : List Nat} (hx : Lim B16 xs) (ht : Top xs) : m < xs.length ↔ B16 ^ m ≤ val B16 xs := by
  constructor
  · intro h
    have h1 := val_ge_top (B := B16) ht (by omega)
    exact Nat.le_trans (Nat.pow_le_pow_right (by have := B16_pos; omega) (by omega)) h1
  · intro h
    have h1 := val_lt hx
    rcases Nat.lt_or_ge m xs.length with h2 | h2
    · exact h2
    · have h3 : B16 ^ xs.length ≤ B16 ^ m := Nat.pow_le_pow_right (by have := B16_pos; omega) h2
      omega
theorem hlong_iff {xs : List Nat} (hx : Lim B16 xs) (ht : Top xs) : 16384 < xs.length ↔ Big ≤ val B16 xs := by
  have := hlong_gen (m := 4 * maxL) hx ht
  rw [b16_big] at this
  exact this
/-- is one of them long -/
def longB (xss : List (List Nat)) (n : Nat) : Bool := (xss.take n).any fun x => decide (Big ≤ val B64 x)
theorem longB_succ {xss : List (List Nat)} {n : Nat} (h : n < xss.length) : longB xss (n + 1) = (longB xss n || decide (Big ≤ val B64 (xss.getD n []))) := by
  unfold longB
  rw [List.take_succ_eq_append_getElem h, List.any_append]
  simp [List.getD_eq_getElem?_getD, h]
theorem longB_iff (xss : List (List Nat)) : longB xss xss.length = true ↔ longL xss xss.length := by
  unfold longB longL
  rw [List.take_length, List.any_eq_true]
  constructor
  · rintro ⟨x, hx, h⟩
    obtain ⟨j, hj, rfl⟩ := getDL_mem hx
    exact ⟨j, hj, of_decide_eq_true h⟩
  · rintro ⟨j, hj, h⟩
    refine ⟨xss.getD j [], ?_, decide_eq_true h⟩
    rw [List.getD_eq_getElem?_getD, List.getElem?_eq_getElem hj]
    exact List.getElem_mem hj

/-- the first n limbs of a list, with zeros behind its end -/
theorem val_take_succ' (B : Nat) (xs : List Nat) (n : Nat) : val B (xs.take (n + 1)) = val B (xs.take n) + B ^ n * xs.getD n 0 := by
  rcases Nat.lt_or_ge n xs.length with h | h
  · exact val_take_succ B xs n h
  · rw [List.take_of_length_le (by omega), List.take_of_length_le h, getD_ge xs n h]; simp
theorem val_snoc (B : Nat) (xs : List Nat) (x : Nat) : val B (xs ++ [x]) = val B xs + B ^ xs.length * x := by
  rw [val_append]; simp [val]
theorem lim_snoc {B : Nat} {xs : List Nat} (h : Lim B xs) {x : Nat} (hx : x < B) : Lim B (xs ++ [x]) := by
  intro j
  simp only [List.getD_eq_getElem?_getD, List.getElem?_append]
  split
  · have := h j; rwa [List.getD_eq_getElem?_getD] at this
  · rcases Nat.eq_zero_or_pos (j - xs.length) with h0 | h0
    · rw [h0]; exact hx
    · rw [List.getElem?_eq_none (by simp; omega)]; exact Nat.lt_of_le_of_lt (Nat.zero_le _) hx

/-- after k rounds of SubH: os are the halves so far, c what is borrowed -/
structure SubT (as bs os : List Nat) (k c : Nat) : Prop where
  len : os.length = k
  lim : Lim B16 os
  cle : c ≤ 1
  eq : val B16 (as.take k) + B16 ^ k * c = val B16 os + val B16 (bs.take k)
theorem subT_zero (as bs : List Nat) : SubT as bs [] 0 0 := ⟨rfl, lim_nil (by unfold B16; omega), by omega, by simp [val]⟩
/-- one half of a difference, and what is borrowed on -/
def shS (x y c : Nat) : Nat := (x + 65536 - y - c) % 65536
def shC (x y c : Nat) : Nat := 1 - (x + 65536 - y - c) / 65536
theorem subT_step {as bs os : List Nat} {k c : Nat} (h : SubT as bs os k c) (la : Lim B16 as) (lb : Lim B16 bs) :
    SubT as bs (os ++ [shS (as.getD k 0) (bs.getD k 0) c]) (k + 1) (shC (as.getD k 0) (bs.getD k 0) c) := by
  have h1 := la k
  have h2 := lb k
  have h3 := h.cle
  generalize hx : as.getD k 0 = x at *
  generalize hy : bs.getD k 0 = y at *
  have e : x + B16 * shC x y c = shS x y c + y + c := by
    unfold shC shS
    unfold B16 at *
    omega
  refine ⟨by rw [List.length_append, h.len]; rfl, lim_snoc h.lim (by unfold shS B16; omega), by unfold shC; omega, ?_⟩
  rw [val_take_succ' B16 as k, val_take_succ' B16 bs k, hx, hy, val_snoc, h.len, Nat.pow_succ, Nat.mul_assoc]
  have e4 := h.eq
  have e5 : B16 ^ k * x + B16 ^ k * (B16 * shC x y c) = B16 ^ k * (shS x y c) + B16 ^ k * y + B16 ^ k * c := by
    rw [← Nat.mul_add, e, Nat.mul_add, Nat.mul_add]
  omega
theorem length_le_of_val {B : Nat} (hB : 1 < B) {xs ys : List Nat} (hx : Lim B xs) (ty : Top ys) (h : val B ys ≤ val B xs) : ys.length ≤ xs.length := by
  rcases Nat.lt_or_ge xs.length ys.length with h1 | h1
  · have := val_lt_of_length hB hx ty h1; omega
  · exact h1
theorem subT_end {as bs os : List Nat} {c : Nat} (h : SubT as bs os as.length c) (la : Lim B16 as) (tb : Top bs) (hle : val B16 bs ≤ val B16 as) : val B16 os = val B16 as - val B16 bs := by
  have h1 := length_le_of_val B16_pos la tb hle
  have e := h.eq
  rw [List.take_length, List.take_of_length_le h1] at e
  have h2 := val_lt h.lim
  rw [h.len] at h2
  have h3 := h.cle
  have : c = 0 ∨ c = 1 := by omega
  rcases this with rfl | rfl
  · omega
  · rw [Nat.mul_one] at e; omega

/-- after k rounds of AddH -/
structure SumT (as bs os : List Nat) (k c : Nat) : Prop where
  len : os.length = k
  lim : Lim B16 os
  cle : c ≤ 1
  eq : val B16 os + B16 ^ k * c = val B16 (as.take k) + val B16 (bs.take k)
theorem sumT_zero (as bs : List Nat) : SumT as bs [] 0 0 := ⟨rfl, lim_nil (by unfold B16; omega), by omega, by simp [val]⟩
def ahS (x y c : Nat) : Nat := (x + y + c) % 65536
def ahC (x y c : Nat) : Nat := (x + y + c) / 65536
theorem sumT_step {as bs os : List Nat} {k c : Nat} (h : SumT as bs os k c) (la : Lim B16 as) (lb : Lim B16 bs) :
    SumT as bs (os ++ [ahS (as.getD k 0) (bs.getD k 0) c]) (k + 1) (ahC (as.getD k 0) (bs.getD k 0) c) := by
  have h1 := la k
  have h2 := lb k
  have h3 := h.cle
  generalize hx : as.getD k 0 = x at *
  generalize hy : bs.getD k 0 = y at *
  have e : ahS x y c + B16 * ahC x y c = x + y + c := by
    unfold ahC ahS
    unfold B16 at *
    omega
  refine ⟨by rw [List.length_append, h.len]; rfl, lim_snoc h.lim (by unfold ahS B16; omega), by unfold ahC; unfold B16 at *; omega, ?_⟩
  rw [val_take_succ' B16 as k, val_take_succ' B16 bs k, hx, hy, val_snoc, h.len, Nat.pow_succ, Nat.mul_assoc]
  have e4 := h.eq
  have e5 : B16 ^ k * ahS x y c + B16 ^ k * (B16 * ahC x y c) = B16 ^ k * x + B16 ^ k * y + B16 ^ k * c := by
    rw [← Nat.mul_add, e, Nat.mul_add, Nat.mul_add]
  omega
theorem sumT_end {as bs os : List Nat} {k : Nat} (h : SumT as bs os k 0) (ha : as.length ≤ k) (hb : bs.length ≤ k) : val B16 os = val B16 as + val B16 bs := by
  have e := h.eq
  rw [List.take_of_length_le ha, List.take_of_length_le hb] at e
  omega

/-- after k rounds of takeFrom on the row R: c is borrowed -/
structure TakeT (R R' b : List Nat) (k c : Nat) : Prop where
  len : R'.length = R.length
  rest : ∀ j, k ≤ j → R'.getD j 0 = R.getD j 0
  lim : Lim B64 R'
  cle : c ≤ 1
  eq : val B64 (R.take k) + B64 ^ k * c = val B64 (R'.take k) + val B64 (b.take k)
theorem takeT_zero {R : List Nat} (b : List Nat) (h : Lim B64 R) : TakeT R R b 0 0 := ⟨rfl, fun _ _ => rfl, h, by omega, by simp [val]⟩
theorem takeT_step {R R' b : List Nat} {k c : Nat} (h : TakeT R R' b k c) (lb : Lim B64 b) (hk : k < R.length) :
    TakeT R (R'.set k (sLo (R'.getD k 0) (b.getD k 0) c)) b (k + 1) (sHi (R'.getD k 0) (b.getD k 0) c) := by
  have hl := h.len
  have h1 := h.lim k
  have h2 := lb k
  have h3 := h.cle
  have e0 := h.rest k (Nat.le_refl _)
  refine ⟨by rw [List.length_set, hl], fun j hj => by rw [getD_set' _ _ _ _ (by omega), if_neg (by omega)]; exact h.rest j (by omega), lim_set h.lim (sLo_lt _ _ _) _, sHi_le _ _ _, ?_⟩
  rw [val_take_succ B64 R k hk, val_take_succ' B64 b k, val_take_succ B64 _ k (by rw [List.length_set]; omega), getD_set' _ _ _ _ (by omega), if_pos rfl, ← e0]
  have e1 : (R'.set k (sLo (R'.getD k 0) (b.getD k 0) c)).take k = R'.take k :=
    take_congr (by rw [List.length_set]; omega) (by omega) (fun j hj => by rw [getD_set' _ _ _ _ (by omega), if_neg (by omega)])
  rw [e1]
  have e := s_eq (x := R'.getD k 0) (y := b.getD k 0) (b := c) h1 h2 h3
  generalize R'.getD k 0 = x at *
  generalize b.getD k 0 = y at *
  rw [Nat.pow_succ, Nat.mul_assoc]
  have e4 := h.eq
  have e5 : B64 ^ k * x + B64 ^ k * (B64 * sHi x y c) = B64 ^ k * (sLo x y c) + B64 ^ k * y + B64 ^ k * c := by
    rw [← Nat.mul_add, ← e, Nat.mul_add, Nat.mul_add]
  omega
/-- without a borrow the rest stays -/
theorem takeT_more {R R' b : List Nat} {k : Nat} (h : TakeT R R' b k 0) (hb : b.length ≤ k) (_hk : k ≤ R.length) : ∀ n, k + n ≤ R.length → TakeT R R' b (k + n) 0 := by
  intro n hn
  induction n with
  | zero => exact h
  | succ n ih =>
    have h1 := ih (by omega)
    refine ⟨h.len, fun j hj => h1.rest j (by omega), h.lim, by omega, ?_⟩
    have e := h1.eq
    rw [show k + (n + 1) = k + n + 1 from rfl, val_take_succ' B64 R, val_take_succ' B64 b, val_take_succ' B64 R', h1.rest (k + n) (Nat.le_refl _), getD_ge b (k + n) (by omega)]
    omega
theorem takeT_end {R R' b : List Nat} {c : Nat} (h : TakeT R R' b R.length c) (_lR : Lim B64 R) (hb : b.length ≤ R.length) (hle : val B64 b ≤ val B64 R) : c = 0 ∧ val B64 R' = val B64 R - val B64 b := by
  have e := h.eq
  rw [List.take_length, List.take_of_length_le hb, ← h.len, List.take_length] at e
  have h2 := val_lt h.lim
  have h3 := h.cle
  have : c = 0 ∨ c = 1 := by omega
  rcases this with rfl | rfl
  · exact ⟨rfl, by omega⟩
  · rw [Nat.mul_one] at e; omega
end Go.Proofs.YtkbfgbkhhfligaaGreatDoor.Mth

/- Sums limb by limb, and sums of many, in plain mathematics. -/
namespace Go.Proofs.YtkbfgbkhhfligaaGreatDoor.Mth

/-- the sum of all -/
def sumL : List (List Nat) → Nat
  | [] => 0
  | x :: r => val B64 x + sumL r
theorem sumL_append (xs ys : List (List Nat)) : sumL (xs ++ ys) = sumL xs + sumL ys := by
  induction xs with
  | nil => simp [sumL]
  | cons x r ih => simp only [List.cons_append, sumL, ih, Nat.add_assoc]
theorem sumL_take_succ {xss : List (List Nat)} {n : Nat} (h : n < xss.length) : sumL (xss.take (n + 1)) = sumL (xss.take n) + val B64 (xss.getD n []) := by
  rw [List.take_succ_eq_append_getElem h, sumL_append]
  simp [sumL, List.getD_eq_getElem?_getD, h]
theorem sumL_le {xss : List (List Nat)} {b : Nat} (n : Nat) (hn : n ≤ xss.length) (h : ∀ j, j < n → val B64 (xss.getD j []) ≤ b) : sumL (xss.take n) ≤ n * b := by
  induction n with
  | zero => simp [sumL]
  | succ n ih =>
    rw [sumL_take_succ (by omega), Nat.add_mul, Nat.one_mul]
    have h1 := ih (by omega) (fun j hj => h j (by omega))
    have h2 := h n (by omega)
    omega
theorem not_long {xss : List (List Nat)} {n : Nat} (h : longB xss n = false) (hn : n ≤ xss.length) : ∀ j, j < n → val B64 (xss.getD j []) < Big := by
  intro j hj
  rcases Nat.lt_or_ge (val B64 (xss.getD j [])) Big with h1 | h1
  · exact h1
  · exfalso
    have : longB xss n = true := by
      unfold longB
      rw [List.any_eq_true]
      refine ⟨xss.getD j [], ?_, decide_eq_true h1⟩
      rw [List.getD_eq_getElem?_getD, List.getElem?_eq_getElem (by omega)]
      exact List.mem_take_iff_getElem.2 ⟨j, by omega, rfl⟩
    rw [this] at h; cases h
theorem long_of {xss : List (List Nat)} {j n : Nat} (hj : j < xss.length) (h : Big ≤ val B64 (xss.getD j [])) (hn : xss.length = n) : longB xss n = true := by
  subst hn
  rw [longB_iff]
  exact ⟨j, hj, h⟩
/-- what Add answers -/
def addN (xss : List (List Nat)) : Nat := if longB xss xss.length = true then 0 else cutN (sumL xss)
def addE (xss : List (List Nat)) : Int := if longB xss xss.length = true then 5 else cutE (sumL xss)
theorem add_long {xss : List (List Nat)} (h : longB xss xss.length = true) : addN xss = 0 ∧ addE xss = 5 := ⟨if_pos h, if_pos h⟩
theorem add_fine {xss : List (List Nat)} (h : longB xss xss.length = false) : addN xss = cutN (sumL xss) ∧ addE xss = cutE (sumL xss) := by
  have h' : ¬ longB xss xss.length = true := by rw [h]; exact Bool.false_ne_true
  exact ⟨if_neg h', if_neg h'⟩
/-- so many halves does a sum of many numbers have at most -/
def hugeP : Nat := 2 + 4 * maxL
theorem hugeP_le : hugeP ≤ 16000000 := by unfold hugeP maxL; omega
theorem pow_big (n : Nat) (h : n ≤ 16777216) : n * Big < B16 ^ hugeP := by
  have h2 : B16 ^ hugeP = B16 ^ 2 * Big := by unfold hugeP; rw [Nat.pow_add, b16_big]
  rw [h2]
  refine Nat.mul_lt_mul_of_pos_right ?_ (by have := one_lt_big; omega)
  unfold B16
  omega

/-- after k rounds of AddH or addTo on the row R from off on: c is carried -/
structure PutT (R R' : List Nat) (off : Nat) (b : List Nat) (k c : Nat) : Prop where
  len : R'.length = R.length
  rest : ∀ j, j < off ∨ off + k ≤ j → R'.getD j 0 = R.getD j 0
  lim : Lim B64 R'
  cle : c ≤ 1
  eq : seg R' off k + B64 ^ k * c = seg R off k + val B64 (b.take k)
theorem putT_zero {R : List Nat} (off : Nat) (b : List Nat) (h : Lim B64 R) : PutT R R off b 0 0 := ⟨rfl, fun _ _ => rfl, h, by omega, by simp [seg_zero, val]⟩
theorem putT_step {R R' : List Nat} {off : Nat} {b : List Nat} {k c : Nat} (h : PutT R R' off b k c) (lb : Lim B64 b) (hk : off + k < R.length) :
    PutT R (R'.set (off + k) (aLo (R'.getD (off + k) 0) (b.getD k 0) c)) off b (k + 1) (aHi (R'.getD (off + k) 0) (b.getD k 0) c) := by
  have hl := h.len
  have h1 := h.lim (off + k)
  have h2 := lb k
  have h3 := h.cle
  have e0 := h.rest (off + k) (by omega)
  refine ⟨by rw [List.length_set, hl], fun j hj => by rw [getD_set' _ _ _ _ (by omega), if_neg (by omega)]; exact h.rest j (by omega), lim_set h.lim (aLo_lt _ _ _) _, aHi_le h1 h2 h3, ?_⟩
  rw [seg_succ _ _ _ (by rw [List.length_set]; omega), seg_succ R off k hk, val_take_succ' B64 b k, getD_set' _ _ _ _ (by omega), if_pos rfl, ← e0]
  have e1 : seg (R'.set (off + k) (aLo (R'.getD (off + k) 0) (b.getD k 0) c)) off k = seg R' off k :=
    seg_congr (by rw [List.length_set]) (fun j h1 h2 => by rw [getD_set' _ _ _ _ (by omega), if_neg (by omega)]) (by rw [List.length_set]; omega)
  rw [e1]
  have e := a_eq (R'.getD (off + k) 0) (b.getD k 0) c
  generalize R'.getD (off + k) 0 = x at *
  generalize b.getD k 0 = y at *
  rw [Nat.pow_succ, Nat.mul_assoc]
  have e4 := h.eq
  have e5 : B64 ^ k * aLo x y c + B64 ^ k * (B64 * aHi x y c) = B64 ^ k * x + B64 ^ k * y + B64 ^ k * c := by
    rw [← Nat.mul_add, e, Nat.mul_add, Nat.mul_add]
  omega
/-- without a carry the rest stays -/
theorem putT_more {R R' : List Nat} {off : Nat} {b : List Nat} {k : Nat} (h : PutT R R' off b k 0) (hb : b.length ≤ k) : ∀ n, off + (k + n) ≤ R.length → PutT R R' off b (k + n) 0 := by
  intro n hn
  induction n with
  | zero => exact h
  | succ n ih =>
    have h1 := ih (by omega)
    refine ⟨h.len, fun j hj => h.rest j (by omega), h.lim, by omega, ?_⟩
    have e := h1.eq
    have hl := h.len
    rw [show k + (n + 1) = k + n + 1 from rfl, seg_succ R' _ _ (by omega), seg_succ R _ _ (by omega), val_take_succ' B64 b, h1.rest (off + (k + n)) (by omega), getD_ge b (k + n) (by omega)]
    omega
end Go.Proofs.YtkbfgbkhhfligaaGreatDoor.Mth

/- The product of halves, row by row, in plain mathematics. -/
namespace Go.Proofs.YtkbfgbkhhfligaaGreatDoor.Mth

theorem val_set (B : Nat) : ∀ (xs : List Nat) (n : Nat), n < xs.length → ∀ x, val B (xs.set n x) + B ^ n * xs.getD n 0 = val B xs + B ^ n * x
  | [], n, h, x => by simp at h
  | y :: r, 0, h, x => by simp only [List.set_cons_zero, val, Nat.pow_zero, Nat.one_mul, List.getD_cons_zero]; omega
  | y :: r, n + 1, h, x => by
    have ih := val_set B r n (by simpa using h) x
    have e : B * (val B (r.set n x) + B ^ n * r.getD n 0) = B * (val B r + B ^ n * x) := by rw [ih]
    rw [Nat.mul_add, Nat.mul_add, ← Nat.mul_assoc, ← Nat.mul_assoc] at e
    simp only [List.set_cons_succ, val, List.getD_cons_succ]
    rw [Nat.pow_succ, Nat.mul_comm (B ^ n) B]
    omega

/-- one half of a row of a product, and what is carried on -/
def mhS (o x y c : Nat) : Nat := (o + x * y + c) % 65536
def mhC (o x y c : Nat) : Nat := (o + x * y + c) / 65536
theorem mh_le {o x y c : Nat} (ho : o < B16) (hx : x < B16) (hy : y < B16) (hc : c < B16) : o + x * y + c ≤ 4294967295 := by
  unfold B16 at *
  have : x * y ≤ 65535 * 65535 := Nat.mul_le_mul (by omega) (by omega)
  omega
/-- after j halves of the row of x at place i -/
structure RowT (R R' ys : List Nat) (x i j c : Nat) : Prop where
  len : R'.length = R.length
  lim : Lim B16 R'
  clt : c < B16
  eq : val B16 R' + B16 ^ (i + j) * c = val B16 R + B16 ^ i * (x * val B16 (ys.take j))
theorem rowT_zero {R : List Nat} (ys : List Nat) (x i : Nat) (h : Lim B16 R) : RowT R R ys x i 0 0 := ⟨rfl, h, by unfold B16; omega, by simp [val]⟩
theorem rowT_step {R R' ys : List Nat} {x i j c : Nat} (h : RowT R R' ys x i j c) (hx : x < B16) (ly : Lim B16 ys) (hij : i + j < R.length) :
    RowT R (R'.set (i + j) (mhS (R'.getD (i + j) 0) x (ys.getD j 0) c)) ys x i (j + 1) (mhC (R'.getD (i + j) 0) x (ys.getD j 0) c) := by
  have ho := h.lim (i + j)
  have hy := ly j
  have hc := h.clt
  have hl := h.len
  have hle := mh_le ho hx hy hc
  refine ⟨by rw [List.length_set, hl], lim_set h.lim (by unfold mhS B16; omega) _, by unfold mhC B16; omega, ?_⟩
  have e1 := val_set B16 R' (i + j) (by omega) (mhS (R'.getD (i + j) 0) x (ys.getD j 0) c)
  have e2 := val_take_succ' B16 ys j
  have e3 := h.eq
  rw [e2]
  generalize R'.getD (i + j) 0 = o at *
  generalize ys.getD j 0 = y at *
  have e4 : mhS o x y c + B16 * mhC o x y c = o + x * y + c := by unfold mhS mhC B16; omega
  have e5 : B16 ^ (i + j) * mhS o x y c + B16 ^ (i + j) * (B16 * mhC o x y c) = B16 ^ (i + j) * o + B16 ^ (i + j) * (x * y) + B16 ^ (i + j) * c := by
    rw [← Nat.mul_add, e4, Nat.mul_add, Nat.mul_add]
  have e6 : B16 ^ (i + (j + 1)) * mhC o x y c = B16 ^ (i + j) * (B16 * mhC o x y c) := by
    rw [← Nat.add_assoc, Nat.pow_succ, Nat.mul_assoc]
  have e7 : B16 ^ i * (x * (val B16 (ys.take j) + B16 ^ j * y)) = B16 ^ i * (x * val B16 (ys.take j)) + B16 ^ (i + j) * (x * y) := by
    rw [Nat.mul_add, Nat.mul_add, Nat.pow_add]
    congr 1
    rw [Nat.mul_left_comm x, Nat.mul_assoc]
  rw [e6, e7]
  omega

/-- after i rows -/
structure ProdT (R xs ys : List Nat) (i : Nat) : Prop where
  len : R.length = xs.length + ys.length
  lim : Lim B16 R
  eq : val B16 R = val B16 (xs.take i) * val B16 ys
theorem prodT_zero (xs ys : List Nat) : ProdT (List.replicate (xs.length + ys.length) 0) xs ys 0 :=
  ⟨by simp, fun j => by rw [getD_replicate]; unfold B16; omega, by rw [val_zero (fun j => getD_replicate _ _)]; simp [val]⟩
theorem rowT_end {R R' xs ys : List Nat} {i j : Nat} (hP : ProdT R xs ys i) (h : RowT R R' ys (xs.getD i 0) i j 0) (hj : ys.length ≤ j) : ProdT R' xs ys (i + 1) := by
  refine ⟨by rw [h.len, hP.len], h.lim, ?_⟩
  have e := h.eq
  rw [List.take_of_length_le hj, hP.eq] at e
  rw [val_take_succ' B16 xs i, Nat.add_mul, Nat.mul_assoc]
  omega
/-- nothing is carried beyond the row -/
theorem rowT_room {R R' xs ys : List Nat} {i j c : Nat} (hP : ProdT R xs ys i) (h : RowT R R' ys (xs.getD i 0) i j c) (lx : Lim B16 xs) (ly : Lim B16 ys) (hi : i < xs.length) (hc : j < ys.length ∨ 0 < c) : i + j < xs.length + ys.length := by
  rcases Nat.lt_or_ge j ys.length with hj | hj
  · omega
  · rcases Nat.lt_or_ge (i + j) (xs.length + ys.length) with hr | hr
    · exact hr
    · exfalso
      have hc : 0 < c := by omega
      have e := h.eq
      rw [List.take_of_length_le hj, hP.eq] at e
      have e2 := val_take_succ' B16 xs i
      have h1 : val B16 (xs.take (i + 1)) < B16 ^ (i + 1) := val_take_lt (by unfold B16; omega) lx (i + 1) hi
      have h2 : val B16 ys < B16 ^ ys.length := val_lt ly
      have h3 : val B16 (xs.take (i + 1)) * val B16 ys < B16 ^ (i + 1) * B16 ^ ys.length := by
        rcases Nat.eq_zero_or_pos (val B16 ys) with h0 | h0
        · rw [h0, Nat.mul_zero]; exact Nat.mul_pos (Nat.pow_pos (by unfold B16; omega)) (Nat.pow_pos (by unfold B16; omega))
        · exact Nat.lt_of_lt_of_le (Nat.mul_lt_mul_of_pos_right h1 h0) (Nat.mul_le_mul_left _ (Nat.le_of_lt h2))
      rw [← Nat.pow_add] at h3
      have h4 : B16 ^ (i + 1 + ys.length) ≤ B16 ^ (i + j) := Nat.pow_le_pow_right (by unfold B16; omega) (by
        have := hP.len; omega)
      have h5 : B16 ^ (i + j) * 1 ≤ B16 ^ (i + j) * c := Nat.mul_le_mul_left _ hc
      rw [e2, Nat.add_mul, Nat.mul_assoc] at h3
      omega
theorem prodT_end {R xs ys : List Nat} (h : ProdT R xs ys xs.length) : val B16 R = val B16 xs * val B16 ys := by
  have := h.eq
  rwa [List.take_length] at this
end Go.Proofs.YtkbfgbkhhfligaaGreatDoor.Mth

/- Digits of a limb, in plain mathematics. -/
namespace Go.Proofs.YtkbfgbkhhfligaaGreatDoor.Mth

/-- the letter of a digit -/
def dch (d : Nat) : Nat := if d < 10 then 48 + d else 87 + d
def md (u b : Nat) : Nat := u % b
def dv (u b : Nat) : Nat := u / b
/-- the digits of u in base b, the highest first; no noughts ahead -/
def dgs (b : Nat) : Nat → Nat → List Nat
  | 0, _ => []
  | f + 1, u => if u < b then [dch u] else dgs b f (dv u b) ++ [dch (md u b)]
theorem dgs_low {b f u : Nat} (h : u < b) : dgs b (f + 1) u = [dch u] := by simp [dgs, h]
theorem dgs_step {b f u : Nat} (h : ¬ u < b) : dgs b (f + 1) u = dgs b f (dv u b) ++ [dch (md u b)] := by simp [dgs, h]
theorem dch_lt {d : Nat} (h : d < 36) : dch d < 256 := by unfold dch; split <;> omega
theorem dgs_lt {b : Nat} (h2 : 2 ≤ b) (hb : b ≤ 36) : ∀ f u, ∀ x ∈ dgs b f u, x < 256
  | 0, _, x, hx => by simp [dgs] at hx
  | f + 1, u, x, hx => by
    by_cases h : u < b
    · rw [dgs_low h] at hx
      simp at hx
      subst hx
      exact dch_lt (by omega)
    · rw [dgs_step h] at hx
      rcases List.mem_append.1 hx with h1 | h1
      · exact dgs_lt h2 hb f _ x h1
      · simp at h1
        subst h1
        exact dch_lt (by have := Nat.mod_lt u (show 0 < b by omega); unfold md; omega)
/-- one round of formatBits -/
theorem fmt_step {b f F n0 u i : Nat} {bs : List Nat} (hn : ¬ u < b) (hi : i < bs.length) (h : dgs b (f + 1) u ++ bs.drop (i + 1) = dgs b F n0) :
    dgs b f (dv u b) ++ (bs.set i (dch (md u b))).drop i = dgs b F n0 := by
  rw [dgs_step hn] at h
  rw [← h, List.append_assoc]
  congr 1
  rw [List.drop_set, if_neg (by omega), List.drop_eq_getElem_cons hi, Nat.sub_self, List.set_cons_zero]
  try rfl
theorem fmt_last {b f F n0 u i : Nat} {bs : List Nat} (hn : u < b) (hi : i < bs.length) (h : dgs b (f + 1) u ++ bs.drop (i + 1) = dgs b F n0) :
    (bs.set i (dch u)).drop i = dgs b F n0 := by
  rw [dgs_low hn] at h
  rw [← h]
  rw [List.drop_set, if_neg (by omega), List.drop_eq_getElem_cons hi, Nat.sub_self, List.set_cons_zero]
  try rfl

/-- noughts ahead, up to the width -/
def pad (wd : Nat) (l : List Nat) : List Nat := List.replicate (wd - l.length) 48 ++ l
/-- chunks, the lowest first, written one behind the other, the highest without noughts ahead -/
def jnd (D : Nat → List Nat) (wd : Nat) : List Nat → List Nat
  | [] => []
  | c :: r => jnd D wd r ++ if r = [] then D c else pad wd (D c)
theorem jnd_last {D : Nat → List Nat} {wd : Nat} {cs : List Nat} {m : Nat} (h : m + 1 = cs.length) : jnd D wd (cs.drop m) = jnd D wd (cs.drop (m + 1)) ++ D (cs.getD m 0) := by
  rw [drop_cons (show m < cs.length by omega)]
  simp [jnd, List.drop_of_length_le (show cs.length ≤ m + 1 by omega)]
theorem jnd_more {D : Nat → List Nat} {wd : Nat} {cs : List Nat} {m : Nat} (h : m + 1 < cs.length) : jnd D wd (cs.drop m) = jnd D wd (cs.drop (m + 1)) ++ pad wd (D (cs.getD m 0)) := by
  rw [drop_cons (show m < cs.length by omega)]
  have : cs.drop (m + 1) ≠ [] := fun e => by
    have := congrArg List.length e
    simp at this
    omega
  simp [jnd, this]
theorem length_pad (wd : Nat) (l : List Nat) (h : l.length ≤ wd) : (pad wd l).length = wd := by simp [pad]; omega
theorem length_jnd {D : Nat → List Nat} {wd : Nat} : ∀ {cs : List Nat}, (∀ j, (D (cs.getD j 0)).length ≤ wd) → (jnd D wd cs).length ≤ wd * cs.length
  | [], _ => by simp [jnd]
  | c :: r, h => by
    have h0 : (D c).length ≤ wd := by simpa using h 0
    have := length_jnd (cs := r) (fun j => by simpa using h (j + 1))
    simp only [jnd, List.length_append, List.length_cons, Nat.mul_add, Nat.mul_one]
    split
    · omega
    · rw [length_pad _ _ h0]; omega
theorem length_dgs {b : Nat} (hb : 0 < b) : ∀ f u, (dgs b f u).length ≤ f
  | 0, _ => by simp [dgs]
  | f + 1, u => by
    by_cases h : u < b
    · rw [dgs_low h]; simp
    · rw [dgs_step h, List.length_append]
      have := length_dgs hb f (dv u b)
      simp; omega
end Go.Proofs.YtkbfgbkhhfligaaGreatDoor.Mth

/- How many binary digits a number has; one of them. -/
namespace Go.Proofs.YtkbfgbkhhfligaaGreatDoor.Mth

/-- how many binary digits -/
def bl (n : Nat) : Nat := if n = 0 then 0 else Nat.log2 n + 1
theorem bl_zero : bl 0 = 0 := rfl
theorem bl_uniq {n m : Nat} (h1 : 2 ^ m ≤ n) (h2 : n < 2 ^ (m + 1)) : bl n = m + 1 := by
  have hn : n ≠ 0 := by have := Nat.two_pow_pos m; omega
  unfold bl
  rw [if_neg hn]
  congr 1
  have a1 := Nat.log2_self_le hn
  have a2 : n < 2 ^ (n.log2 + 1) := Nat.lt_log2_self
  have b1 : m < n.log2 + 1 := (Nat.pow_lt_pow_iff_right (by omega : 1 < 2)).1 (Nat.lt_of_le_of_lt h1 a2)
  have b2 : n.log2 < m + 1 := (Nat.pow_lt_pow_iff_right (by omega : 1 < 2)).1 (Nat.lt_of_le_of_lt a1 h2)
  omega
theorem bl_spec {n : Nat} (h : n ≠ 0) : ∃ m, bl n = m + 1 ∧ 2 ^ m ≤ n ∧ n < 2 ^ (m + 1) :=
  ⟨n.log2, if_neg h, Nat.log2_self_le h, Nat.lt_log2_self⟩
theorem bl_half {n : Nat} (h : n ≠ 0) : bl n = bl (n / 2) + 1 := by
  obtain ⟨m, e, h1, h2⟩ := bl_spec h
  rw [e]
  congr 1
  cases m with
  | zero =>
    have : n / 2 = 0 := by simp at h2; omega
    rw [this]; rfl
  | succ m =>
    refine (bl_uniq ?_ ?_).symm
    · rw [Nat.pow_succ] at h1; omega
    · rw [Nat.pow_succ] at h2; omega
theorem bl_le {n k : Nat} (h : n < 2 ^ k) : bl n ≤ k := by
  by_cases h0 : n = 0
  · subst h0; simp [bl]
  · obtain ⟨m, e, h1, h2⟩ := bl_spec h0
    rw [e]
    have : m < k := (Nat.pow_lt_pow_iff_right (by omega : 1 < 2)).1 (Nat.lt_of_le_of_lt h1 h)
    omega
theorem bl_lib {x : Nat} (h : x < B64) : Lib.bitLen x = bl x := by
  by_cases h0 : x = 0
  · subst h0; rfl
  · have h64 : x < 2 ^ 64 := h
    obtain ⟨h1, h2, h3⟩ := Lib.bitLenAux_bounds 64 x h64 h0
    have e : Lib.bitLen x = Lib.bitLenAux 64 x := rfl
    rw [e]
    have := bl_uniq (n := x) (m := Lib.bitLenAux 64 x - 1) h2 (by rw [Nat.sub_add_cancel h1]; exact h3)
    omega
/-- of a list of limbs: by its highest -/
theorem bl_top {s : Nat} {xs : List Nat} (hl : Lim (2 ^ s) xs) (ht : Top xs) (hp : 0 < xs.length) : bl (val (2 ^ s) xs) = (xs.length - 1) * s + bl (xs.getD (xs.length - 1) 0) := by
  have htop := tlen_top xs (by rw [ht]; exact hp)
  rw [ht] at htop
  obtain ⟨m, e, h1, h2⟩ := bl_spec htop
  rw [e]
  have hs := val_split (2 ^ s) xs (xs.length - 1) (by omega)
  have hd := val_drop (2 ^ s) xs (xs.length - 1) (by omega)
  have hz : val (2 ^ s) (xs.drop (xs.length - 1 + 1)) = 0 := by
    rw [List.drop_of_length_le (by omega)]; rfl
  rw [hz, Nat.mul_zero, Nat.add_zero] at hd
  rw [hd] at hs
  have hlow := val_take_lt (Nat.two_pow_pos s) hl (xs.length - 1) (by omega)
  have hpow : (2 ^ s) ^ (xs.length - 1) = 2 ^ ((xs.length - 1) * s) := by rw [← Nat.pow_mul, Nat.mul_comm]
  rw [hpow] at hs hlow
  generalize xs.getD (xs.length - 1) 0 = x at *
  rw [show (xs.length - 1) * s + (m + 1) = (xs.length - 1) * s + m + 1 by omega]
  refine bl_uniq ?_ ?_
  · rw [hs, Nat.pow_add]
    have := Nat.mul_le_mul_left (2 ^ ((xs.length - 1) * s)) h1
    omega
  · rw [hs, Nat.add_assoc, Nat.pow_add]
    have := Nat.mul_le_mul_left (2 ^ ((xs.length - 1) * s)) (show x + 1 ≤ 2 ^ (m + 1) from h2)
    rw [Nat.mul_add, Nat.mul_one] at this
    omega

/-- the binary digit of 2 to the i -/
def bitN (n i : Nat) : Bool := decide (n / 2 ^ i % 2 = 1)
theorem bit_limb {xs : List Nat} (hl : Lim B64 xs) {q r : Nat} (hr : r < 64) (hq : q < xs.length) : bitN (val B64 xs) (64 * q + r) = decide (xs.getD q 0 / 2 ^ r % 2 = 1) := by
  unfold bitN
  have hs := val_split B64 xs q (by omega)
  have hd := val_drop B64 xs q hq
  have hlow := val_take_lt (by have := B64_pos; omega) hl q (by omega)
  have hpow : 2 ^ (64 * q + r) = B64 ^ q * 2 ^ r := by rw [Nat.pow_add, Nat.pow_mul]; rfl
  rw [hpow, ← Nat.div_div_eq_div_mul, hs, Nat.add_mul_div_left _ _ (Nat.lt_of_le_of_lt (Nat.zero_le _) hlow), Nat.div_eq_of_lt hlow, Nat.zero_add, hd]
  have h64 : B64 = 2 ^ r * (2 * 2 ^ (63 - r)) := by
    rw [← Nat.mul_assoc, Nat.mul_comm (2 ^ r) 2, Nat.mul_assoc, ← Nat.pow_add, show r + (63 - r) = 63 by omega]; rfl
  rw [h64, Nat.mul_assoc, Nat.add_mul_div_left _ _ (Nat.two_pow_pos r), Nat.mul_assoc, Nat.add_mul_mod_self_left]
theorem bit_far {xs : List Nat} (hl : Lim B64 xs) {i : Nat} (h : 64 * xs.length ≤ i) : bitN (val B64 xs) i = false := by
  unfold bitN
  have h1 := val_lt hl
  have h2 : B64 ^ xs.length ≤ 2 ^ i := by
    rw [show B64 = 2 ^ 64 from rfl, ← Nat.pow_mul]
    exact Nat.pow_le_pow_right (by omega) h
  rw [Nat.div_eq_of_lt (by omega)]
  rfl
end Go.Proofs.YtkbfgbkhhfligaaGreatDoor.Mth

/- Shifts limb by limb, in plain mathematics. -/
namespace Go.Proofs.YtkbfgbkhhfligaaGreatDoor.Mth

theorem b64_split {n m : Nat} (h : n + m = 64) : B64 = 2 ^ n * 2 ^ m := by
  rw [← Nat.pow_add, h]; rfl
/-- one limb of a number shifted up, with what was carried; what is carried on -/
def upLo (x n c : Nat) : Nat := x * 2 ^ n % B64 + c
def upHi (x n : Nat) : Nat := x * 2 ^ n / B64
theorem up_eq (x n c : Nat) : upLo x n c + B64 * upHi x n = x * 2 ^ n + c := by
  have := Nat.mod_add_div (x * 2 ^ n) B64
  unfold upLo upHi; omega
theorem up_part {x n m : Nat} (h : n + m = 64) : x * 2 ^ n % B64 = 2 ^ n * (x % 2 ^ m) := by
  rw [b64_split h, Nat.mul_comm x, Nat.mul_mod_mul_left]
theorem up_lt {x n m c : Nat} (h : n + m = 64) (hc : c < 2 ^ n) : upLo x n c < B64 := by
  unfold upLo
  rw [up_part h, b64_split h]
  have h1 : x % 2 ^ m < 2 ^ m := Nat.mod_lt _ (Nat.pow_pos (by omega))
  have h2 : 2 ^ n * (x % 2 ^ m + 1) ≤ 2 ^ n * 2 ^ m := Nat.mul_le_mul_left _ h1
  rw [Nat.mul_add, Nat.mul_one] at h2
  omega
theorem upHi_lt {x n : Nat} (hx : x < B64) : upHi x n < 2 ^ n := by
  unfold upHi
  rw [Nat.div_lt_iff_lt_mul (by have := B64_pos; omega), Nat.mul_comm]
  exact Nat.mul_lt_mul_of_pos_left hx (Nat.pow_pos (by omega))
theorem upHi_div {x n m : Nat} (h : n + m = 64) : upHi x n = x / 2 ^ m := by
  unfold upHi
  rw [b64_split h, Nat.mul_comm x, Nat.mul_div_mul_left _ _ (Nat.pow_pos (by omega))]
theorem up_or {x n m c : Nat} (h : n + m = 64) (hc : c < 2 ^ n) : x * 2 ^ n % B64 ||| c = upLo x n c := by
  unfold upLo
  rw [up_part h, ← Nat.two_pow_add_eq_or_of_lt hc]

/-- after k rounds of shiftUp into R from off on -/
structure UpT (R R' : List Nat) (off : Nat) (xs : List Nat) (n k c : Nat) : Prop where
  len : R'.length = R.length
  rest : ∀ j, j < off ∨ off + k ≤ j → R'.getD j 0 = R.getD j 0
  lim : Lim B64 R'
  clt : c < 2 ^ n
  eq : seg R' off k + B64 ^ k * c = 2 ^ n * val B64 (xs.take k)
theorem upT_zero {R : List Nat} (off : Nat) (xs : List Nat) (n : Nat) (h : Lim B64 R) : UpT R R off xs n 0 0 := ⟨rfl, fun _ _ => rfl, h, Nat.pow_pos (by omega), by simp [seg_zero, val]⟩
theorem upT_step {R R' : List Nat} {off : Nat} {xs : List Nat} {n m k c : Nat} (h : UpT R R' off xs n k c) (hnm : n + m = 64) (lx : Lim B64 xs) (hk : off + k < R.length) :
    UpT R (R'.set (off + k) (upLo (xs.getD k 0) n c)) off xs n (k + 1) (upHi (xs.getD k 0) n) := by
  have hl := h.len
  refine ⟨by rw [List.length_set, hl], fun j hj => by rw [getD_set' _ _ _ _ (by omega), if_neg (by omega)]; exact h.rest j (by omega), lim_set h.lim (up_lt hnm h.clt) _, upHi_lt (lx k), ?_⟩
  rw [seg_succ _ _ _ (by rw [List.length_set]; omega), val_take_succ' B64 xs k, getD_set' _ _ _ _ (by omega), if_pos rfl]
  have e1 : seg (R'.set (off + k) (upLo (xs.getD k 0) n c)) off k = seg R' off k :=
    seg_congr (by rw [List.length_set]) (fun j h1 h2 => by rw [getD_set' _ _ _ _ (by omega), if_neg (by omega)]) (by rw [List.length_set]; omega)
  rw [e1]
  have e := up_eq (xs.getD k 0) n c
  generalize xs.getD k 0 = x at *
  have e4 := h.eq
  have e5 : B64 ^ k * upLo x n c + B64 ^ k * (B64 * upHi x n) = B64 ^ k * (x * 2 ^ n) + B64 ^ k * c := by
    rw [← Nat.mul_add, e, Nat.mul_add]
  rw [Nat.pow_succ, Nat.mul_assoc, Nat.mul_add]
  have e6 : 2 ^ n * (B64 ^ k * x) = B64 ^ k * (x * 2 ^ n) := by
    rw [Nat.mul_comm x, Nat.mul_left_comm]
  omega
/-- the whole: the last limb takes what is carried -/
structure UpAll (R R' : List Nat) (off : Nat) (xs : List Nat) (n : Nat) : Prop where
  len : R'.length = R.length
  rest : ∀ j, j < off ∨ off + xs.length + 1 ≤ j → R'.getD j 0 = R.getD j 0
  lim : Lim B64 R'
  eq : seg R' off (xs.length + 1) = 2 ^ n * val B64 xs
theorem upT_end {R R' : List Nat} {off : Nat} {xs : List Nat} {n c : Nat} (h : UpT R R' off xs n xs.length c) (hn : n ≤ 63) (hk : off + xs.length < R.length) : UpAll R (R'.set (off + xs.length) c) off xs n := by
  have hl := h.len
  have hc : c < B64 := Nat.lt_of_lt_of_le h.clt (by have : B64 = 2 ^ 64 := rfl; rw [this]; exact Nat.pow_le_pow_right (by omega) (by omega))
  refine ⟨by rw [List.length_set, hl], fun j hj => by rw [getD_set' _ _ _ _ (by omega), if_neg (by omega)]; exact h.rest j (by omega), lim_set h.lim hc _, ?_⟩
  rw [seg_succ _ _ _ (by rw [List.length_set]; omega), getD_set' _ _ _ _ (by omega), if_pos rfl]
  have e1 : seg (R'.set (off + xs.length) c) off xs.length = seg R' off xs.length :=
    seg_congr (by rw [List.length_set]) (fun j h1 h2 => by rw [getD_set' _ _ _ _ (by omega), if_neg (by omega)]) (by rw [List.length_set]; omega)
  have e := h.eq
  rw [List.take_length] at e
  rw [e1]; exact e
/-- zeros below: the whole row's number -/
theorem upAll_val {R' xs : List Nat} {off n : Nat} (h : UpAll (List.replicate (off + xs.length + 1) 0) R' off xs n) : val B64 R' = 2 ^ (64 * off + n) * val B64 xs := by
  have hl := h.len
  rw [List.length_replicate] at hl
  have e1 := seg_split R' off (xs.length + 1) (by omega)
  have e2 : seg R' 0 off = 0 := by
    have : seg R' 0 off = seg (List.replicate (off + xs.length + 1) 0) 0 off :=
      seg_congr (by rw [hl, List.length_replicate]) (fun j h1 h2 => h.rest j (by omega)) (by omega)
    rw [this]
    unfold seg
    refine val_zero fun j => ?_
    rw [getD_take]
    split
    · rw [getD_drop, getD_replicate]
    · rfl
  rw [show off + (xs.length + 1) = R'.length by omega, seg_all, e2, h.eq] at e1
  rw [e1, Nat.zero_add, ← Nat.mul_assoc]
  congr 1
  rw [Nat.pow_add, Nat.pow_mul]; rfl

/-- one limb of a number shifted down; what is carried on -/
def dnLo (x n c : Nat) : Nat := x / 2 ^ n + c
def dnHi (x m : Nat) : Nat := x * 2 ^ m % B64
/-- after the limbs from k on have been shifted down: c is what hangs over, at the top of a limb -/
structure DnT (R R' xs : List Nat) (n k c : Nat) : Prop where
  len : R'.length = R.length
  rest : ∀ j, j < k ∨ xs.length ≤ j → R'.getD j 0 = R.getD j 0
  lim : Lim B64 R'
  eq : val B64 (R'.take xs.length |>.drop k) = val B64 (xs.drop k) / 2 ^ n
  ceq : ∀ m, n + m = 64 → c = 2 ^ m * (val B64 (xs.drop k) % 2 ^ n)
theorem dnT_zero {R : List Nat} (xs : List Nat) (n : Nat) (h : Lim B64 R) (hx : xs.length ≤ R.length) : DnT R R xs n xs.length 0 := by
  refine ⟨rfl, fun _ _ => rfl, h, ?_, fun m _ => ?_⟩
  · rw [List.drop_of_length_le (by rw [List.length_take]; omega), List.drop_of_length_le (Nat.le_refl _)]; simp [val]
  · rw [List.drop_of_length_le (Nat.le_refl _)]; simp [val]
theorem dnHi_eq {x n m : Nat} (h : n + m = 64) : dnHi x m = 2 ^ m * (x % 2 ^ n) := by
  unfold dnHi
  rw [up_part (n := m) (m := n) (by omega)]
/-- a limb under a shifted number -/
theorem dn_parts {x V n m : Nat} (h : n + m = 64) : (x + B64 * V) / 2 ^ n = (x / 2 ^ n + 2 ^ m * (V % 2 ^ n)) + B64 * (V / 2 ^ n) ∧ (x + B64 * V) % 2 ^ n = x % 2 ^ n := by
  have hp : 0 < 2 ^ n := Nat.pow_pos (by omega)
  have e1 : B64 * V = 2 ^ n * (2 ^ m * V) := by rw [b64_split h, Nat.mul_assoc]
  have e2 : 2 ^ m * V = 2 ^ m * (V % 2 ^ n) + B64 * (V / 2 ^ n) := by
    have := Nat.mod_add_div V (2 ^ n)
    conv => lhs; rw [← this]
    rw [Nat.mul_add, b64_split h, Nat.mul_comm (2 ^ n) (2 ^ m), Nat.mul_assoc]
  constructor
  · rw [e1, Nat.add_mul_div_left _ _ hp, e2]; omega
  · rw [e1, Nat.add_mul_mod_self_left]
theorem dn_lt {x V n m : Nat} (h : n + m = 64) (hx : x < B64) : dnLo x n (2 ^ m * (V % 2 ^ n)) < B64 := by
  unfold dnLo
  have hp : 0 < 2 ^ n := Nat.pow_pos (by omega)
  have h1 : x / 2 ^ n < 2 ^ m := by
    rw [Nat.div_lt_iff_lt_mul hp, Nat.mul_comm, ← b64_split h]; exact hx
  have h2 : V % 2 ^ n < 2 ^ n := Nat.mod_lt _ hp
  have h3 : 2 ^ m * (V % 2 ^ n + 1) ≤ 2 ^ m * 2 ^ n := Nat.mul_le_mul_left _ h2
  rw [Nat.mul_add, Nat.mul_one, Nat.mul_comm (2 ^ m) (2 ^ n), ← b64_split h] at h3
  omega
theorem dn_or {x V n m : Nat} (h : n + m = 64) (hx : x < B64) : x / 2 ^ n ||| 2 ^ m * (V % 2 ^ n) = dnLo x n (2 ^ m * (V % 2 ^ n)) := by
  have hp : 0 < 2 ^ n := Nat.pow_pos (by omega)
  have h1 : x / 2 ^ n < 2 ^ m := by
    rw [Nat.div_lt_iff_lt_mul hp, Nat.mul_comm, ← b64_split h]; exact hx
  unfold dnLo
  rw [Nat.or_comm, ← Nat.two_pow_add_eq_or_of_lt h1]
  omega
theorem dnT_step {R R' xs : List Nat} {n m k c : Nat} (h : DnT R R' xs n (k + 1) c) (hnm : n + m = 64) (lx : Lim B64 xs) (hk : k < xs.length) (hR : xs.length ≤ R.length) :
    DnT R (R'.set k (dnLo (xs.getD k 0) n c)) xs n k (dnHi (xs.getD k 0) m) := by
  have hl := h.len
  have hc := h.ceq m hnm
  have hd := val_drop B64 xs k hk
  have hp := dn_parts (x := xs.getD k 0) (V := val B64 (xs.drop (k + 1))) hnm
  have hlt := dn_lt (x := xs.getD k 0) (V := val B64 (xs.drop (k + 1))) hnm (lx k)
  rw [← hc] at hlt
  refine ⟨by rw [List.length_set, hl], fun j hj => by rw [getD_set' _ _ _ _ (by omega), if_neg (by omega)]; exact h.rest j (by omega), lim_set h.lim hlt _, ?_, fun m' hm' => ?_⟩
  · rw [hd, hp.1, ← hc]
    have e1 : k < ((R'.set k (dnLo (xs.getD k 0) n c)).take xs.length).length := by rw [List.length_take, List.length_set]; omega
    rw [val_drop B64 _ k e1]
    have e2 : ((R'.set k (dnLo (xs.getD k 0) n c)).take xs.length).getD k 0 = dnLo (xs.getD k 0) n c := by
      rw [getD_take, if_pos hk, getD_set' _ _ _ _ (by omega), if_pos rfl]
    have e3 : ((R'.set k (dnLo (xs.getD k 0) n c)).take xs.length).drop (k + 1) = (R'.take xs.length).drop (k + 1) := by
      apply list_congr
      · simp
      · intro j hj
        simp only [List.length_drop, List.length_take, List.length_set] at hj
        rw [getD_drop, getD_drop, getD_take, getD_take]
        split
        · rw [getD_set' _ _ _ _ (by omega), if_neg (by omega)]
        · rfl
    rw [e2, e3, h.eq]
    rfl
  · obtain rfl : m' = m := by omega
    rw [hd, hp.2]
    exact dnHi_eq hnm
theorem dnT_end {R R' xs : List Nat} {n c : Nat} (h : DnT R R' xs n 0 c) : val B64 (R'.take xs.length) = val B64 xs / 2 ^ n := by
  have := h.eq
  simpa using this
end Go.Proofs.YtkbfgbkhhfligaaGreatDoor.Mth

/- Division of two limbs by one, by halves (math/bits's Div64), in plain mathematics. W is the base of the halves. -/
namespace Go.Proofs.YtkbfgbkhhfligaaGreatDoor.Mth

/-- what a half step divides, and by what -/
def hT (W u v : Nat) : Nat := u * W + v
def hY (W y1 y0 : Nat) : Nat := y1 * W + y0
/-- a guess q of the half digit, and the rest r of the upper half -/
structure HalfG (W u v y1 y0 q r : Nat) : Prop where
  ge : hT W u v / hY W y1 y0 ≤ q
  eq : r + q * y1 = u
  le : q ≤ W + 1
/-- a divisor in good form -/
structure GoodY (W y1 y0 : Nat) : Prop where
  lo : y0 < W
  hi : W ≤ 2 * y1
  pos : 0 < y1
  w : 0 < W
theorem GoodY.posY {W y1 y0 : Nat} (h : GoodY W y1 y0) : 0 < hY W y1 y0 := by
  have h1 := Nat.mul_pos h.pos h.w
  unfold hY; omega
theorem half_start {W u v y1 y0 : Nat} (hu : u < hY W y1 y0) (hv : v < W) (g : GoodY W y1 y0) : HalfG W u v y1 y0 (u / y1) (u % y1) := by
  have hp := g.posY
  have h0 := g.lo
  have h1 := g.hi
  have e := Nat.mod_add_div u y1
  have hr : u % y1 < y1 := Nat.mod_lt _ g.pos
  generalize u / y1 = q at *
  generalize u % y1 = r at *
  rw [Nat.mul_comm] at e
  refine ⟨?_, e, ?_⟩
  · refine Nat.le_of_lt_succ ((Nat.div_lt_iff_lt_mul hp).2 ?_)
    unfold hT hY
    have h8 : u + 1 ≤ q * y1 + y1 := by omega
    have h9 : (u + 1) * W ≤ (q * y1 + y1) * W := Nat.mul_le_mul_right _ h8
    have h7 : q.succ * (y1 * W + y0) = (q * y1 + y1) * W + q.succ * y0 := by
      rw [Nat.mul_add, ← Nat.mul_assoc, Nat.succ_mul]
    rw [h7]
    rw [Nat.add_mul, Nat.one_mul] at h9
    omega
  · have h9 : u < y1 * W + 2 * y1 := by unfold hY at hu; omega
    have h8 : q * y1 < (W + 2) * y1 := by rw [Nat.add_mul, Nat.mul_comm W]; omega
    have := Nat.lt_of_mul_lt_mul_right h8
    omega
/-- q times the divisor, against what is divided -/
theorem half_cmp {W u v y1 y0 q r : Nat} (h : HalfG W u v y1 y0 q r) : q * hY W y1 y0 + r * W + v = hT W u v + q * y0 := by
  have e := h.eq
  unfold hY hT
  rw [← e, Nat.add_mul, Nat.mul_add, Nat.mul_assoc]
  omega
theorem half_stop {W u v y1 y0 q r : Nat} (h : HalfG W u v y1 y0 q r) (g : GoodY W y1 y0) (hs : q * y0 ≤ r * W + v) : q = hT W u v / hY W y1 y0 := by
  have e := half_cmp h
  have h2 : q * hY W y1 y0 ≤ hT W u v := by omega
  have h3 : q ≤ hT W u v / hY W y1 y0 := (Nat.le_div_iff_mul_le g.posY).2 h2
  have := h.ge
  omega
theorem half_break {W u v y1 y0 q r : Nat} (h : HalfG W u v y1 y0 q r) (g : GoodY W y1 y0) (hq : q ≤ W) (hr : W ≤ r) : q = hT W u v / hY W y1 y0 := by
  refine half_stop h g ?_
  have h0 := g.lo
  have h2 : q * y0 ≤ W * W := Nat.mul_le_mul hq (by omega)
  have h3 : W * W ≤ r * W := Nat.mul_le_mul_right _ hr
  omega
theorem half_lt {W u v y1 y0 : Nat} (hu : u < hY W y1 y0) (hv : v < W) : hT W u v / hY W y1 y0 < W := by
  rw [Nat.div_lt_iff_lt_mul (by omega)]
  unfold hT
  have : (u + 1) * W ≤ hY W y1 y0 * W := Nat.mul_le_mul_right _ hu
  rw [Nat.add_mul, Nat.one_mul] at this
  rw [Nat.mul_comm W]
  omega
theorem half_more {W u v y1 y0 q r : Nat} (h : HalfG W u v y1 y0 q r) (hlt : hT W u v / hY W y1 y0 < W) (g : GoodY W y1 y0) (ht : W ≤ q ∨ r * W + v < q * y0) : 1 ≤ q ∧ HalfG W u v y1 y0 (q - 1) (r + y1) := by
  have hge := h.ge
  have e := h.eq
  have hq : hT W u v / hY W y1 y0 < q := by
    rcases ht with ht | ht
    · omega
    · have e2 := half_cmp h
      rcases Nat.lt_or_ge (hT W u v / hY W y1 y0) q with h3 | h3
      · exact h3
      · exfalso
        have := (Nat.le_div_iff_mul_le g.posY).1 h3
        omega
  have hq1 : 1 ≤ q := Nat.lt_of_le_of_lt (Nat.zero_le _) hq
  refine ⟨hq1, ⟨Nat.le_sub_one_of_lt hq, ?_, by have := h.le; omega⟩⟩
  obtain ⟨m, rfl⟩ : ∃ m, q = m + 1 := ⟨q - 1, (Nat.sub_add_cancel hq1).symm⟩
  rw [Nat.add_mul, Nat.one_mul] at e
  simp only [Nat.add_sub_cancel]
  omega
theorem half_rest {W u v y1 y0 : Nat} : hT W u v % hY W y1 y0 + hT W u v / hY W y1 y0 * hY W y1 y0 = hT W u v := by
  have := Nat.mod_add_div (hT W u v) (hY W y1 y0)
  rw [Nat.mul_comm] at this
  exact this

/-- the two half digits are the quotient -/
theorem halves_quo {W un32 v1 v0 Y : Nat} (hy : 0 < Y) {q1 r1 q0 r0 : Nat} (e1 : r1 + q1 * Y = hT W un32 v1) (e0 : r0 + q0 * Y = hT W r1 v0) (hr : r0 < Y) :
    (un32 * (W * W) + (v1 * W + v0)) / Y = q1 * W + q0 ∧ (un32 * (W * W) + (v1 * W + v0)) % Y = r0 := by
  have e : un32 * (W * W) + (v1 * W + v0) = r0 + Y * (q1 * W + q0) := by
    unfold hT at *
    have h2 : (r1 + q1 * Y) * W = (un32 * W + v1) * W := by rw [e1]
    rw [Nat.add_mul, Nat.add_mul, Nat.mul_assoc un32] at h2
    have h3 : Y * (q1 * W + q0) = q1 * Y * W + q0 * Y := by
      rw [Nat.mul_add, Nat.mul_comm Y q0, ← Nat.mul_assoc, Nat.mul_comm Y q1]
    rw [h3]
    generalize q1 * Y * W = A at *
    generalize q0 * Y = C at *
    generalize un32 * (W * W) = D at *
    omega
  rw [e, Nat.add_mul_div_left _ _ hy, Nat.div_eq_of_lt hr, Nat.add_mul_mod_self_left, Nat.mod_eq_of_lt hr]
  exact ⟨by omega, rfl⟩
/-- the number and the divisor, both shifted by s -/
theorem div_shifted {N y s : Nat} (h1 : 0 < 2 ^ s) : (N * 2 ^ s) / (y * 2 ^ s) = N / y ∧ (N * 2 ^ s) % (y * 2 ^ s) / 2 ^ s = N % y := by
  rw [Nat.mul_div_mul_right _ _ h1, Nat.mul_mod_mul_right, Nat.mul_div_cancel _ h1]
  exact ⟨rfl, rfl⟩
/-- its two limbs -/
theorem shifted_limbs {hi lo s m : Nat} (h : s + m = 64) : (hi * 2 ^ s + lo / 2 ^ m) * B64 + lo * 2 ^ s % B64 = (hi * B64 + lo) * 2 ^ s := by
  have e1 := Nat.mod_add_div (lo * 2 ^ s) B64
  have e2 : lo * 2 ^ s / B64 = lo / 2 ^ m := by
    rw [b64_split h, Nat.mul_comm lo, Nat.mul_div_mul_left _ _ (Nat.pow_pos (by omega))]
  rw [e2] at e1
  rw [Nat.add_mul, Nat.add_mul]
  have e3 : hi * 2 ^ s * B64 = hi * B64 * 2 ^ s := Nat.mul_right_comm _ _ _
  rw [e3, Nat.mul_comm (lo / 2 ^ m) B64]
  omega
/-- the halves of a limb -/
def w32 : Nat := 4294967296
theorem w32_sq : w32 * w32 = B64 := rfl
end Go.Proofs.YtkbfgbkhhfligaaGreatDoor.Mth

/- Long division by hand, in plain mathematics. -/
namespace Go.Proofs.YtkbfgbkhhfligaaGreatDoor.Mth

/-- after k rounds of takeTimes on the row R from off on: c is borrowed -/
structure TkT (R R' : List Nat) (off : Nat) (b : List Nat) (x k c : Nat) : Prop where
  len : R'.length = R.length
  rest : ∀ j, j < off ∨ off + k ≤ j → R'.getD j 0 = R.getD j 0
  lim : Lim B64 R'
  clt : c < B64
  eq : seg R' off k + x * val B64 (b.take k) = seg R off k + B64 ^ k * c
theorem tkT_zero {R : List Nat} {off : Nat} {b : List Nat} {x : Nat} (h : Lim B64 R) : TkT R R off b x 0 0 :=
  ⟨rfl, fun _ _ => rfl, h, by have := B64_pos; omega, by simp [seg_zero, val]⟩
def borrowT (x y c s : Nat) : Nat := pHi x y c + sHi s (pLo x y c) 0
theorem borrow_eq {x y c s : Nat} (hs : s < B64) : sLo s (pLo x y c) 0 + x * y + c = s + B64 * borrowT x y c s := by
  have e1 := p_eq x y c
  have e2 := s_eq (x := s) (y := pLo x y c) (b := 0) hs (pLo_lt _ _ _) (by omega)
  unfold borrowT
  rw [Nat.mul_add]
  omega
theorem borrowT_lt {x y c s : Nat} (hx : x < B64) (hy : y < B64) (hc : c < B64) (hs : s < B64) : borrowT x y c s < B64 := by
  have e := borrow_eq (x := x) (y := y) (c := c) hs
  have e2 := sLo_lt s (pLo x y c) 0
  have h2 : x * y ≤ (B64 - 1) * (B64 - 1) := Nat.mul_le_mul (by omega) (by omega)
  have h3 : (B64 - 1) * (B64 - 1) + 2 * (B64 - 1) < B64 * B64 := by unfold B64; omega
  have h4 : B64 * borrowT x y c s < B64 * B64 := by omega
  exact Nat.lt_of_mul_lt_mul_left h4
theorem tkT_step {R R' : List Nat} {off : Nat} {b : List Nat} {x k c : Nat} (h : TkT R R' off b x k c) (hx : x < B64) (hb : Lim B64 b) (hk : k < b.length) (hoff : off + b.length ≤ R.length) :
    TkT R (R'.set (off + k) (sLo (R'.getD (off + k) 0) (pLo x (b.getD k 0) c) 0)) off b x (k + 1) (borrowT x (b.getD k 0) c (R'.getD (off + k) 0)) := by
  have hl := h.len
  refine ⟨by rw [List.length_set, hl], ?_, lim_set h.lim (sLo_lt _ _ _) _, borrowT_lt hx (hb k) h.clt (h.lim _), ?_⟩
  · intro j hj
    rw [getD_set' _ _ _ _ (by omega), if_neg (by omega)]
    exact h.rest j (by omega)
  · rw [seg_succ _ _ _ (by rw [List.length_set]; omega), getD_set' _ _ _ _ (by omega), if_pos rfl, seg_succ R off k (by omega), val_take_succ B64 b k hk]
    have e0 : seg (R'.set (off + k) (sLo (R'.getD (off + k) 0) (pLo x (b.getD k 0) c) 0)) off k = seg R' off k :=
      seg_congr (by rw [List.length_set]) (fun j h1 h2 => by rw [getD_set' _ _ _ _ (by omega), if_neg (by omega)]) (by rw [List.length_set]; omega)
    rw [e0]
    have e1 := borrow_eq (x := x) (y := b.getD k 0) (c := c) (h.lim (off + k))
    have e3 := h.eq
    have e4 := h.rest (off + k) (by omega)
    rw [e4] at e1 ⊢
    generalize sLo (R.getD (off + k) 0) (pLo x (b.getD k 0) c) 0 = sl at *
    generalize b.getD k 0 = y at *
    generalize R.getD (off + k) 0 = s at *
    generalize borrowT x y c s = bw at *
    generalize seg R' off k = s1 at *
    generalize seg R off k = s2 at *
    generalize val B64 (b.take k) = vb at *
    have e7 : B64 ^ k * sl + B64 ^ k * (x * y) + B64 ^ k * c = B64 ^ k * s + B64 ^ k * (B64 * bw) := by rw [← Nat.mul_add, ← Nat.mul_add, e1, Nat.mul_add]
    have e8 : x * (B64 ^ k * y) = B64 ^ k * (x * y) := Nat.mul_left_comm _ _ _
    rw [Nat.pow_succ, Nat.mul_assoc, Nat.mul_add x vb, e8]
    omega

/-- a guess of a digit, by the three highest limbs T of P and the two highest, E, of D -/
theorem guess_ok {B M P D T E Pl Dl q : Nat} (hP : P = T * M + Pl) (hPl : Pl < M) (hD : D = E * M + Dl) (hDl : Dl < M) (hE : B ≤ E) (hq : q = T / E) (hqB : q < B) :
    P / D ≤ q ∧ q ≤ P / D + 1 := by
  have hE0 : 0 < E := by omega
  have hM : 0 < M := by omega
  have hEM : 0 < E * M := Nat.mul_pos hE0 hM
  have hD0 : 0 < D := by omega
  constructor
  · rw [hq, Nat.le_div_iff_mul_le hE0]
    have h1 : P / D * D ≤ P := Nat.div_mul_le_self P D
    have h2 : P / D * (E * M) ≤ P / D * D := Nat.mul_le_mul_left _ (by omega)
    have h3 : P / D * E * M < (T + 1) * M := by rw [Nat.mul_assoc, Nat.add_mul, Nat.one_mul]; omega
    have := Nat.lt_of_mul_lt_mul_right h3
    omega
  · rcases Nat.eq_zero_or_pos q with h0 | h0
    · rw [h0]; exact Nat.zero_le _
    · obtain ⟨m, rfl⟩ : ∃ m, q = m + 1 := ⟨q - 1, by omega⟩
      have h1 : (m + 1) * E ≤ T := by rw [hq]; exact Nat.div_mul_le_self T E
      have h2 : (m + 1) * E * M ≤ T * M := Nat.mul_le_mul_right _ h1
      have h3 : (m + 1) * Dl ≤ B * M := Nat.mul_le_mul (by omega) (by omega)
      have h4 : B * M ≤ E * M := Nat.mul_le_mul_right _ hE
      have h5 : (m + 1) * D = (m + 1) * E * M + (m + 1) * Dl := by rw [hD, Nat.mul_add, Nat.mul_assoc]
      have h6 : (m + 1) * D = m * D + D := by rw [Nat.add_mul, Nat.one_mul]
      have h7 : m * D ≤ P := by omega
      have := (Nat.le_div_iff_mul_le hD0).2 h7
      omega
theorem guess_top {B N P D d t : Nat} (hD : D ≤ (d + 1) * N) (hP : t * (B * N) ≤ P) (hd : d ≤ t) (hB : B ≤ 2 * d) (h2 : 2 ≤ B) (hD0 : 0 < D) (hlt : P < B * D) : P / D ≤ B - 1 ∧ B - 1 ≤ P / D + 1 := by
  constructor
  · have := (Nat.div_lt_iff_lt_mul hD0).2 hlt
    omega
  · obtain ⟨m, rfl⟩ : ∃ m, B = m + 2 := ⟨B - 2, by omega⟩
    have h3 : m * D ≤ P := by
      refine Nat.le_trans (Nat.mul_le_mul_left m hD) (Nat.le_trans ?_ hP)
      have h4 : d * ((m + 2) * N) ≤ t * ((m + 2) * N) := Nat.mul_le_mul_right _ hd
      refine Nat.le_trans ?_ h4
      rw [← Nat.mul_assoc, ← Nat.mul_assoc]
      refine Nat.mul_le_mul_right _ ?_
      rw [Nat.mul_add, Nat.mul_add, Nat.mul_one, Nat.mul_comm m d]
      omega
    have := (Nat.le_div_iff_mul_le hD0).2 h3
    omega
theorem seg_lt {R : List Nat} (h : Lim B64 R) (off n : Nat) : seg R off n < B64 ^ n := by
  unfold seg
  have h1 := val_lt (lim_take (by have := B64_pos; omega) (lim_drop h off) n)
  refine Nat.lt_of_lt_of_le h1 (Nat.pow_le_pow_right (by have := B64_pos; omega) ?_)
  rw [List.length_take]; omega
theorem seg_set_top {R : List Nat} {off n x : Nat} (h : off + n < R.length) : seg (R.set (off + n) x) off (n + 1) = seg R off n + B64 ^ n * x := by
  rw [seg_succ _ _ _ (by rw [List.length_set]; omega), getD_set' _ _ _ _ h, if_pos rfl]
  congr 1
  exact seg_congr (by rw [List.length_set]) (fun j h1 h2 => by rw [getD_set' _ _ _ _ h, if_neg (by omega)]) (by rw [List.length_set]; omega)

/-- one digit taken: what is left of the part from off on -/
structure DigT (R R' : List Nat) (off n D : Nat) : Prop where
  len : R'.length = R.length
  rest : ∀ j, j < off ∨ off + n + 1 ≤ j → R'.getD j 0 = R.getD j 0
  lim : Lim B64 R'
  eq : seg R' off (n + 1) = seg R off (n + 1) % D
/-- the guess was the digit -/
theorem dig_fine {R R1 d : List Nat} {off n q c : Nat} (h : TkT R R1 off d q n c) (hn : n = d.length) (hoff : off + n < R.length) (hq : seg R off (n + 1) / val B64 d ≤ q) (hc : c ≤ R1.getD (off + n) 0) (hD : 0 < val B64 d) :
    q = seg R off (n + 1) / val B64 d ∧ DigT R (R1.set (off + n) (R1.getD (off + n) 0 - c)) off n (val B64 d) := by
  have hl := h.len
  have e0 := h.rest (off + n) (by omega)
  have e1 := seg_succ R off n hoff
  have e2 := h.eq
  rw [List.take_of_length_le (by omega)] at e2
  have e3 := seg_set_top (R := R1) (off := off) (n := n) (x := R1.getD (off + n) 0 - c) (by omega)
  have hlm := h.lim (off + n)
  obtain ⟨r, hr⟩ : ∃ r, R1.getD (off + n) 0 = c + r := ⟨R1.getD (off + n) 0 - c, by omega⟩
  rw [← e0, hr, Nat.mul_add] at e1
  have e4 : R1.getD (off + n) 0 - c = r := by omega
  rw [e4] at e3
  have e5 : seg (R1.set (off + n) r) off (n + 1) + q * val B64 d = seg R off (n + 1) := by omega
  have h1 : q ≤ seg R off (n + 1) / val B64 d := (Nat.le_div_iff_mul_le hD).2 (by omega)
  have hqe : q = seg R off (n + 1) / val B64 d := by omega
  refine ⟨hqe, by rw [List.length_set, hl], fun j hj => by rw [getD_set' _ _ _ _ (by omega), if_neg (by omega)]; exact h.rest j (by omega), lim_set h.lim (by omega) _, ?_⟩
  rw [e4]
  have e6 := Nat.mod_add_div (seg R off (n + 1)) (val B64 d)
  rw [← hqe, Nat.mul_comm] at e6
  omega
/-- the guess was one above the digit -/
theorem dig_over_q {R R1 d : List Nat} {off n q c : Nat} (h : TkT R R1 off d q n c) (hn : n = d.length) (hoff : off + n < R.length) (hq : seg R off (n + 1) / val B64 d ≤ q) (hq1 : q ≤ seg R off (n + 1) / val B64 d + 1) (hc : R1.getD (off + n) 0 < c) :
    q = seg R off (n + 1) / val B64 d + 1 ∧ seg R off n + B64 ^ n * c = seg R1 off n + q * val B64 d := by
  have e0 := h.rest (off + n) (by omega)
  have e1 := seg_succ R off n hoff
  have e2 := h.eq
  rw [List.take_of_length_le (by omega)] at e2
  obtain ⟨r, hr⟩ : ∃ r, c = R1.getD (off + n) 0 + r := ⟨c - R1.getD (off + n) 0, by omega⟩
  have hr0 : 0 < r := by omega
  rw [← e0] at e1
  generalize R1.getD (off + n) 0 = p at *
  have e9 : B64 ^ n * c = B64 ^ n * p + B64 ^ n * r := by rw [hr, Nat.mul_add]
  have e11 : B64 ^ n * 1 ≤ B64 ^ n * r := Nat.mul_le_mul_left _ hr0
  have s1 := seg_lt h.lim off n
  have hgt : seg R off (n + 1) < q * val B64 d := by omega
  refine ⟨?_, e2.symm⟩
  rcases Nat.lt_or_ge (seg R off (n + 1) / val B64 d) q with h5 | h5
  · omega
  · have h6 : q = seg R off (n + 1) / val B64 d := by omega
    have := Nat.div_mul_le_self (seg R off (n + 1)) (val B64 d)
    rw [← h6] at this
    omega
theorem dig_over {R R1 R3 d : List Nat} {off n q c c3 : Nat} (h : TkT R R1 off d q n c) (hn : n = d.length) (hd : Lim B64 d) (hoff : off + n < R.length) (hqe : q = seg R off (n + 1) / val B64 d + 1) (e2 : seg R off n + B64 ^ n * c = seg R1 off n + q * val B64 d) (hc : R1.getD (off + n) 0 < c) (hD : 0 < val B64 d)
    (h3 : PutT (R1.set (off + n) (R1.getD (off + n) 0 + B64 - c)) R3 off d (n + 1) c3) : DigT R R3 off n (val B64 d) := by
  have hl := h.len
  have e0 := h.rest (off + n) (by omega)
  have e1 := seg_succ R off n hoff
  have e3 := seg_set_top (R := R1) (off := off) (n := n) (x := R1.getD (off + n) 0 + B64 - c) (by omega)
  have hclt := h.clt
  obtain ⟨r, hr⟩ : ∃ r, c = R1.getD (off + n) 0 + r := ⟨c - R1.getD (off + n) 0, by omega⟩
  have hrB : r ≤ B64 := by omega
  rw [← e0] at e1
  have e4 : R1.getD (off + n) 0 + B64 - c = B64 - r := by omega
  rw [e4] at e3 h3
  generalize R1.getD (off + n) 0 = p at *
  have e9 : B64 ^ n * c = B64 ^ n * p + B64 ^ n * r := by rw [hr, Nat.mul_add]
  have e10 : B64 ^ n * (B64 - r) + B64 ^ n * r = B64 ^ (n + 1) := by rw [← Nat.mul_add, Nat.sub_add_cancel hrB, Nat.pow_succ]
  have f1 := h3.eq
  rw [List.take_of_length_le (by omega), e3] at f1
  have f2 := Nat.mod_add_div (seg R off (n + 1)) (val B64 d)
  have f3 : q * val B64 d = val B64 d * (seg R off (n + 1) / val B64 d) + val B64 d := by rw [hqe, Nat.add_mul, Nat.one_mul, Nat.mul_comm]
  have f4 := Nat.mod_lt (seg R off (n + 1)) hD
  have f5 : val B64 d < B64 ^ (n + 1) := by
    have := val_lt hd
    rw [← hn] at this
    exact Nat.lt_of_lt_of_le this (Nat.pow_le_pow_right (by have := B64_pos; omega) (by omega))
  have f6 := seg_lt h3.lim off (n + 1)
  have f7 : seg R3 off (n + 1) + B64 ^ (n + 1) * c3 = seg R off (n + 1) % val B64 d + B64 ^ (n + 1) := by omega
  have f8 := h3.cle
  refine ⟨by rw [h3.len, List.length_set, hl], fun j hj => ?_, h3.lim, ?_⟩
  · rw [h3.rest j (by omega), getD_set' _ _ _ _ (by omega), if_neg (by omega)]
    exact h.rest j (by omega)
  · have : c3 = 0 ∨ c3 = 1 := by omega
    rcases this with rfl | rfl
    · omega
    · rw [Nat.mul_one] at f7; omega

/-- after the digits from k on have been taken -/
structure LongT (R Q : List Nat) (L m n N D k : Nat) : Prop where
  len : R.length = L
  qlen : Q.length = m
  lim : Lim B64 R
  qlim : Lim B64 Q
  lt : val B64 R < B64 ^ k * D
  eq : val B64 R + B64 ^ k * (val B64 (Q.drop k) * D) = N
theorem val_tail (R : List Nat) (z : Nat) (h : z ≤ R.length) : val B64 R = seg R 0 z + B64 ^ z * val B64 (R.drop z) := by
  have := val_split B64 R z h
  simpa [seg] using this
theorem drop_congr {R R' : List Nat} {z : Nat} (hl : R'.length = R.length) (h : ∀ j, z ≤ j → R'.getD j 0 = R.getD j 0) : R'.drop z = R.drop z :=
  list_congr (by simp [hl]) (fun j _ => by rw [getD_drop, getD_drop]; exact h _ (by omega))
theorem long_part {R Q : List Nat} {L m n N D i : Nat} (h : LongT R Q L m n N D (i + 1)) (hD : D ≤ B64 ^ n) (hi : i + n + 1 ≤ L) :
    val B64 R = seg R 0 i + B64 ^ i * seg R i (n + 1) ∧ val B64 (R.drop (i + n + 1)) = 0 ∧ seg R i (n + 1) < B64 * D := by
  have hl := h.len
  have e1 := val_tail R (i + (n + 1)) (by omega)
  have e2 := seg_split R i (n + 1) (by omega)
  have h1 := h.lt
  have h2 : B64 ^ (i + 1) * D ≤ B64 ^ (i + 1) * B64 ^ n := Nat.mul_le_mul_left _ hD
  rw [← Nat.pow_add, show i + 1 + n = i + (n + 1) by omega] at h2
  have h3 : val B64 (R.drop (i + (n + 1))) = 0 := by
    rcases Nat.eq_zero_or_pos (val B64 (R.drop (i + (n + 1)))) with h0 | h0
    · exact h0
    · have : B64 ^ (i + (n + 1)) * 1 ≤ B64 ^ (i + (n + 1)) * val B64 (R.drop (i + (n + 1))) := Nat.mul_le_mul_left _ h0
      omega
  rw [h3, e2, Nat.mul_zero, Nat.add_zero] at e1
  refine ⟨e1, h3, ?_⟩
  have h4 : B64 ^ i * seg R i (n + 1) < B64 ^ i * (B64 * D) := by
    have e5 : B64 ^ (i + 1) = B64 ^ i * B64 := Nat.pow_succ _ _
    rw [← Nat.mul_assoc, ← e5]; omega
  exact Nat.lt_of_mul_lt_mul_left h4
theorem long_step {R R' Q : List Nat} {L m n N D i : Nat} (h : LongT R Q L m n N D (i + 1)) (hD0 : 0 < D) (hD : D ≤ B64 ^ n) (hi : i + n + 1 ≤ L) (him : i < m) (hd : DigT R R' i n D) :
    LongT R' (Q.set i (seg R i (n + 1) / D)) L m n N D i := by
  obtain ⟨p1, p2, p3⟩ := long_part h hD hi
  have hl := h.len; have hql := h.qlen
  have hl' := hd.len
  have hqB : seg R i (n + 1) / D < B64 := (Nat.div_lt_iff_lt_mul hD0).2 p3
  have e1 := val_tail R' (i + (n + 1)) (by omega)
  have e2 := seg_split R' i (n + 1) (by omega)
  have e3 : seg R' 0 i = seg R 0 i := seg_congr hl' (fun j h1 h2 => hd.rest j (by omega)) (by omega)
  have e4 : R'.drop (i + (n + 1)) = R.drop (i + (n + 1)) := drop_congr hl' (fun j hj => hd.rest j (by omega))
  rw [e4, show i + (n + 1) = i + n + 1 from rfl, p2, Nat.mul_zero, Nat.add_zero, show i + n + 1 = i + (n + 1) from rfl, e2, e3, hd.eq] at e1
  have s1 := seg_lt h.lim 0 i
  have s2 := Nat.mod_lt (seg R i (n + 1)) hD0
  have s3 := Nat.mod_add_div (seg R i (n + 1)) D
  generalize seg R i (n + 1) = P at *
  refine ⟨by rw [hl', hl], by rw [List.length_set, hql], hd.lim, lim_set h.qlim hqB _, ?_, ?_⟩
  · have s4 : B64 ^ i * (P % D + 1) ≤ B64 ^ i * D := Nat.mul_le_mul_left _ s2
    rw [Nat.mul_add, Nat.mul_one] at s4
    omega
  · have f1 := val_drop B64 (Q.set i (P / D)) i (by rw [List.length_set]; omega)
    rw [getD_set' _ _ _ _ (by omega), if_pos rfl] at f1
    have f2 : (Q.set i (P / D)).drop (i + 1) = Q.drop (i + 1) := drop_congr (by rw [List.length_set]) (fun j hj => by rw [getD_set' _ _ _ _ (by omega), if_neg (by omega)])
    rw [f2] at f1
    rw [f1]
    have f3 := h.eq
    rw [p1] at f3
    rw [Nat.add_mul, Nat.mul_add, e1]
    have f4 : B64 ^ i * (B64 * val B64 (Q.drop (i + 1)) * D) = B64 ^ (i + 1) * (val B64 (Q.drop (i + 1)) * D) := by
      rw [Nat.pow_succ, Nat.mul_assoc B64, ← Nat.mul_assoc]
    have f5 : B64 ^ i * (P % D) + B64 ^ i * (P / D * D) = B64 ^ i * P := by rw [← Nat.mul_add, Nat.mul_comm (P / D), s3]
    rw [f4]
    omega
theorem long_end {R Q : List Nat} {L m n N D : Nat} (h : LongT R Q L m n N D 0) : val B64 Q = N / D ∧ val B64 R = N % D := by
  have h1 := h.lt
  have h2 := h.eq
  simp only [Nat.pow_zero, Nat.one_mul, List.drop_zero] at h1 h2
  rw [← h2, Nat.mul_comm, Nat.add_mul_div_left _ _ (by omega), Nat.div_eq_of_lt h1, Nat.add_mul_mod_self_left, Nat.mod_eq_of_lt h1]
  exact ⟨by omega, rfl⟩

/-- the divisor, shifted till its highest bit is set -/
theorem norm_facts {b : List Nat} {n m' s : Nat} (lb : Lim B64 b) (hn : b.length = n + 1) (h1 : 2 ^ m' ≤ b.getD n 0) (h2 : b.getD n 0 < 2 ^ (m' + 1)) (hs : s + (m' + 1) = 64) :
    2 ^ s * val B64 b < B64 ^ (n + 1) ∧ 2 ^ 63 * B64 ^ n ≤ 2 ^ s * val B64 b := by
  have e1 := val_split B64 b n (by omega)
  have e2 := val_drop B64 b n (by omega)
  rw [List.drop_of_length_le (by omega : b.length ≤ n + 1)] at e2
  have e3 : val B64 (b.drop n) = b.getD n 0 := by rw [e2]; simp [val]
  rw [e3] at e1
  have e4 := val_take_lt (by have := B64_pos; omega) lb n (by omega)
  generalize b.getD n 0 = x at *
  constructor
  · have h3 : val B64 b < B64 ^ n * 2 ^ (m' + 1) := by
      have h4 : B64 ^ n * (x + 1) ≤ B64 ^ n * 2 ^ (m' + 1) := Nat.mul_le_mul_left _ h2
      rw [Nat.mul_add, Nat.mul_one] at h4
      omega
    have h5 : 2 ^ s * val B64 b < 2 ^ s * (B64 ^ n * 2 ^ (m' + 1)) := Nat.mul_lt_mul_of_pos_left h3 (Nat.pow_pos (by omega))
    rw [Nat.mul_left_comm, ← Nat.pow_add, hs] at h5
    exact h5
  · have h6 : B64 ^ n * 2 ^ m' ≤ val B64 b := by
      have : B64 ^ n * 2 ^ m' ≤ B64 ^ n * x := Nat.mul_le_mul_left _ h1
      omega
    have h7 : 2 ^ s * (B64 ^ n * 2 ^ m') ≤ 2 ^ s * val B64 b := Nat.mul_le_mul_left _ h6
    rw [Nat.mul_left_comm, ← Nat.pow_add, show s + m' = 63 by omega, Nat.mul_comm] at h7
    exact h7
theorem norm_top {d : List Nat} {n V : Nat} (ld : Lim B64 d) (hn : n + 1 ≤ d.length) (hV : val B64 (d.take (n + 1)) = V) (h : 2 ^ 63 * B64 ^ n ≤ V) : B64 ≤ 2 * d.getD n 0 := by
  have e1 := val_take_succ B64 d n (by omega)
  have e4 := val_take_lt (by have := B64_pos; omega) ld n (by omega)
  have h1 : B64 ^ n * 2 ^ 63 < B64 ^ n * (d.getD n 0 + 1) := by
    rw [Nat.mul_add, Nat.mul_one, Nat.mul_comm _ (2 ^ 63)]; omega
  have h2 := Nat.lt_of_mul_lt_mul_left h1
  have h3 : B64 = 2 * 2 ^ 63 := rfl
  omega
end Go.Proofs.YtkbfgbkhhfligaaGreatDoor.Mth

/- Long division bit by bit over halves, in plain mathematics. -/
namespace Go.Proofs.YtkbfgbkhhfligaaGreatDoor.Mth

theorem b16_pow : B16 = 2 ^ 16 := rfl
/-- one bit of a half -/
theorem bit_half {xs : List Nat} (hl : Lim B16 xs) {q r : Nat} (hr : r < 16) (hq : q < xs.length) : val B16 xs / 2 ^ (16 * q + r) % 2 = xs.getD q 0 / 2 ^ r % 2 := by
  have hs := val_split B16 xs q (by omega)
  have hd := val_drop B16 xs q hq
  have hlow := val_take_lt (by have := B16_pos; omega) hl q (by omega)
  have hpow : 2 ^ (16 * q + r) = B16 ^ q * 2 ^ r := by rw [Nat.pow_add, Nat.pow_mul]; rfl
  rw [hpow, ← Nat.div_div_eq_div_mul, hs, Nat.add_mul_div_left _ _ (Nat.lt_of_le_of_lt (Nat.zero_le _) hlow), Nat.div_eq_of_lt hlow, Nat.zero_add, hd]
  have h16 : B16 = 2 ^ r * (2 * 2 ^ (15 - r)) := by
    rw [← Nat.mul_assoc, Nat.mul_comm (2 ^ r) 2, Nat.mul_assoc, ← Nat.pow_add, show r + (15 - r) = 15 by omega]; rfl
  rw [h16, Nat.mul_assoc, Nat.add_mul_div_left _ _ (Nat.two_pow_pos r), Nat.mul_assoc, Nat.add_mul_mod_self_left]
/-- a half of a number that is a multiple of a power of 2 -/
theorem half_low {xs : List Nat} (hl : Lim B16 xs) {q r X : Nat} (hr : r < 16) (hq : q < xs.length) (h : val B16 xs = X * 2 ^ (16 * q + r + 1)) : xs.getD q 0 % 2 ^ (r + 1) = 0 := by
  have hs := val_split B16 xs q (by omega)
  have hd := val_drop B16 xs q hq
  have hlow := val_take_lt (by have := B16_pos; omega) hl q (by omega)
  have hpow : 2 ^ (16 * q + r + 1) = B16 ^ q * 2 ^ (r + 1) := by rw [show 16 * q + r + 1 = 16 * q + (r + 1) by omega, Nat.pow_add, Nat.pow_mul]; rfl
  have hx : xs.getD q 0 < B16 := hl q
  rw [hpow] at h
  have e1 : val B16 xs / B16 ^ q = xs.getD q 0 + B16 * val B16 (xs.drop (q + 1)) := by
    rw [hs, Nat.add_mul_div_left _ _ (Nat.lt_of_le_of_lt (Nat.zero_le _) hlow), Nat.div_eq_of_lt hlow, Nat.zero_add, hd]
  have e2 : val B16 xs / B16 ^ q = X * 2 ^ (r + 1) := by
    rw [h, Nat.mul_left_comm, Nat.mul_div_cancel_left _ (Nat.pow_pos (by have := B16_pos; omega))]
  rw [e2] at e1
  have h16 : B16 = 2 ^ (r + 1) * 2 ^ (15 - r) := by rw [← Nat.pow_add, show r + 1 + (15 - r) = 16 by omega]; rfl
  have e3 : (xs.getD q 0 + B16 * val B16 (xs.drop (q + 1))) % 2 ^ (r + 1) = xs.getD q 0 % 2 ^ (r + 1) := by
    rw [h16, Nat.mul_assoc, Nat.add_mul_mod_self_left]
  rw [← e3, ← e1, Nat.mul_mod_left]
theorem or_bit {x r : Nat} (h : x % 2 ^ (r + 1) = 0) : x ||| 2 ^ r = x + 2 ^ r := by
  have e := Nat.mod_add_div x (2 ^ (r + 1))
  rw [h, Nat.zero_add] at e
  rw [← e, ← Nat.two_pow_add_eq_or_of_lt (Nat.pow_lt_pow_right (by omega) (by omega))]
theorem or_bit_lt {x r : Nat} (h : x % 2 ^ (r + 1) = 0) (hx : x < B16) (hr : r < 16) : x + 2 ^ r < B16 := by
  have e := Nat.mod_add_div x (2 ^ (r + 1))
  rw [h, Nat.zero_add] at e
  have h16 : B16 = 2 ^ (r + 1) * 2 ^ (15 - r) := by rw [← Nat.pow_add, show r + 1 + (15 - r) = 16 by omega]; rfl
  have h2 : x / 2 ^ (r + 1) < 2 ^ (15 - r) := by
    rw [← e, h16] at hx
    exact Nat.lt_of_mul_lt_mul_left hx
  have h3 : 2 ^ (r + 1) * (x / 2 ^ (r + 1) + 1) ≤ 2 ^ (r + 1) * 2 ^ (15 - r) := Nat.mul_le_mul_left _ h2
  rw [Nat.mul_add, Nat.mul_one, e, ← h16] at h3
  have h4 : 2 ^ r < 2 ^ (r + 1) := Nat.pow_lt_pow_right (by omega) (by omega)
  omega

/-- when the bits from k on have been brought down -/
structure QhT (A D : Nat) (Q : List Nat) (n k r : Nat) : Prop where
  len : Q.length = n
  lim : Lim B16 Q
  req : r = A / 2 ^ k % D
  eq : val B16 Q = A / 2 ^ k / D * 2 ^ k
theorem qhT_zero {A D n : Nat} (hA : A < B16 ^ n) (_hD : 0 < D) : QhT A D (List.replicate n 0) n (16 * n) 0 := by
  have h : A / 2 ^ (16 * n) = 0 := Nat.div_eq_of_lt (by rw [Nat.pow_mul]; exact hA)
  refine ⟨by simp, fun j => by rw [getD_replicate]; have := B16_pos; omega, ?_, ?_⟩
  · rw [h, Nat.zero_mod]
  · rw [h, val_zero (fun j => getD_replicate _ _), Nat.zero_div, Nat.zero_mul]
theorem div_two (A k : Nat) : A / 2 ^ k = 2 * (A / 2 ^ (k + 1)) + A / 2 ^ k % 2 := by
  rw [Nat.pow_succ, ← Nat.div_div_eq_div_mul]
  generalize A / 2 ^ k = a
  omega
/-- the next bit stays below -/
theorem qh_low {A D k r : Nat} (hD : 0 < D) (hr : r = A / 2 ^ (k + 1) % D) (h : r + r + A / 2 ^ k % 2 < D) :
    A / 2 ^ k % D = r + r + A / 2 ^ k % 2 ∧ A / 2 ^ k / D = 2 * (A / 2 ^ (k + 1) / D) := by
  have e := div_two A k
  have e2 := Nat.mod_add_div (A / 2 ^ (k + 1)) D
  rw [← hr] at e2
  generalize A / 2 ^ k % 2 = b at *
  generalize hN : A / 2 ^ (k + 1) = N at *
  generalize N / D = q at *
  have e3 : A / 2 ^ k = (r + r + b) + D * (2 * q) := by
    rw [e, ← e2, Nat.mul_add, Nat.mul_left_comm 2 D q]; omega
  rw [e3, Nat.add_mul_mod_self_left, Nat.mod_eq_of_lt h, Nat.add_mul_div_left _ _ hD, Nat.div_eq_of_lt h]
  exact ⟨rfl, by omega⟩
theorem qh_high {A D k r : Nat} (hD : 0 < D) (hr : r = A / 2 ^ (k + 1) % D) (h : D ≤ r + r + A / 2 ^ k % 2) :
    A / 2 ^ k % D = r + r + A / 2 ^ k % 2 - D ∧ A / 2 ^ k / D = 2 * (A / 2 ^ (k + 1) / D) + 1 := by
  have e := div_two A k
  have hb : A / 2 ^ k % 2 < 2 := Nat.mod_lt _ (by omega)
  have e2 := Nat.mod_add_div (A / 2 ^ (k + 1)) D
  rw [← hr] at e2
  have hrl : r < D := by rw [hr]; exact Nat.mod_lt _ hD
  generalize A / 2 ^ k % 2 = b at *
  generalize hN : A / 2 ^ (k + 1) = N at *
  generalize N / D = q at *
  have e3 : A / 2 ^ k = (r + r + b - D) + D * (2 * q + 1) := by
    rw [e, ← e2, Nat.mul_add, Nat.mul_add, Nat.mul_one, Nat.mul_left_comm 2 D q]; omega
  have h2 : r + r + b - D < D := by omega
  rw [e3, Nat.add_mul_mod_self_left, Nat.mod_eq_of_lt h2, Nat.add_mul_div_left _ _ hD, Nat.div_eq_of_lt h2]
  exact ⟨rfl, by omega⟩
theorem qhT_low {A D n k r : Nat} {Q : List Nat} (h : QhT A D Q n (k + 1) r) (hD : 0 < D) (hlt : r + r + A / 2 ^ k % 2 < D) : QhT A D Q n k (r + r + A / 2 ^ k % 2) := by
  obtain ⟨e1, e2⟩ := qh_low hD h.req hlt
  refine ⟨h.len, h.lim, e1.symm, ?_⟩
  rw [h.eq, e2, Nat.pow_succ, Nat.mul_comm (2 ^ k) 2, ← Nat.mul_assoc, Nat.mul_comm _ 2]
theorem qhT_high {A D n q t r : Nat} {Q : List Nat} (h : QhT A D Q n (16 * q + t + 1) r) (ht : t < 16) (hq : q < n) (hD : 0 < D) (hge : D ≤ r + r + A / 2 ^ (16 * q + t) % 2) :
    Q.getD q 0 % 2 ^ (t + 1) = 0 ∧ QhT A D (Q.set q (Q.getD q 0 + 2 ^ t)) n (16 * q + t) (r + r + A / 2 ^ (16 * q + t) % 2 - D) := by
  obtain ⟨e1, e2⟩ := qh_high hD h.req hge
  have hl := h.len
  have hm := half_low h.lim ht (by omega) h.eq
  refine ⟨hm, by rw [List.length_set, hl], lim_set h.lim (or_bit_lt hm (h.lim q) ht) _, e1.symm, ?_⟩
  have e3 := val_set B16 Q q (by omega) (Q.getD q 0 + 2 ^ t)
  have e4 := h.eq
  have e5 : B16 ^ q * 2 ^ t = 2 ^ (16 * q + t) := by rw [Nat.pow_add, Nat.pow_mul]; rfl
  rw [Nat.mul_add, e5] at e3
  rw [e2, Nat.add_mul, Nat.one_mul]
  have e6 : 2 * (A / 2 ^ (16 * q + t + 1) / D) * 2 ^ (16 * q + t) = A / 2 ^ (16 * q + t + 1) / D * 2 ^ (16 * q + t + 1) := by
    rw [Nat.pow_succ, Nat.mul_comm (2 ^ (16 * q + t)) 2, ← Nat.mul_assoc, Nat.mul_comm _ 2]
  rw [e6]
  omega
theorem qhT_end {A D n r : Nat} {Q : List Nat} (h : QhT A D Q n 0 r) : val B16 Q = A / D ∧ r = A % D := by
  have e1 := h.req
  have e2 := h.eq
  simp only [Nat.pow_zero, Nat.div_one, Nat.mul_one] at e1 e2
  exact ⟨e2, e1⟩
end Go.Proofs.YtkbfgbkhhfligaaGreatDoor.Mth

/- Numerals, in plain mathematics. -/
namespace Go.Proofs.YtkbfgbkhhfligaaGreatDoor.Mth

/-- the numeral of n in base b: no noughts ahead -/
def numeral (b n : Nat) : List Nat := dgs b (n + 1) n
theorem dgs_more {b : Nat} (hb : 2 ≤ b) : ∀ (f g n : Nat), n < b ^ f → n < b ^ g → 0 < f → 0 < g → dgs b f n = dgs b g n
  | 0, _, _, _, _, h, _ => by omega
  | _ + 1, 0, _, _, _, _, h => by omega
  | f + 1, g + 1, n, h1, h2, _, _ => by
    by_cases h : n < b
    · rw [dgs_low h, dgs_low h]
    · rw [dgs_step h, dgs_step h]
      have e1 : dv n b < b ^ f := by
        unfold dv
        rw [Nat.div_lt_iff_lt_mul (by omega), ← Nat.pow_succ]; exact h1
      have e2 : dv n b < b ^ g := by
        unfold dv
        rw [Nat.div_lt_iff_lt_mul (by omega), ← Nat.pow_succ]; exact h2
      have e3 : 0 < dv n b := by unfold dv; exact Nat.div_pos (by omega) (by omega)
      have f0 : 0 < f := by
        rcases Nat.eq_zero_or_pos f with h0 | h0
        · rw [h0] at e1; simp at e1; omega
        · exact h0
      have g0 : 0 < g := by
        rcases Nat.eq_zero_or_pos g with h0 | h0
        · rw [h0] at e2; simp at e2; omega
        · exact h0
      rw [dgs_more hb f g _ e1 e2 f0 g0]
theorem lt_pow_self {b n : Nat} (hb : 2 ≤ b) : n < b ^ (n + 1) := Nat.lt_of_lt_of_le (Nat.lt_two_pow_self (n := n)) (Nat.le_trans (Nat.pow_le_pow_right (by omega) (Nat.le_succ n)) (Nat.pow_le_pow_left hb _))
theorem dgs_numeral {b f n : Nat} (hb : 2 ≤ b) (h : n < b ^ f) (hf : 0 < f) : dgs b f n = numeral b n := dgs_more hb _ _ _ h (lt_pow_self hb) hf (by omega)
theorem numeral_low {b n : Nat} (h : n < b) : numeral b n = [dch n] := dgs_low h
theorem numeral_step {b n : Nat} (hb : 2 ≤ b) (h : ¬ n < b) : numeral b n = numeral b (n / b) ++ [dch (n % b)] := by
  unfold numeral
  rw [dgs_step h]
  congr 1
  have h1 : n / b < n := Nat.div_lt_self (by omega) hb
  have h2 : n / b < b ^ n := Nat.lt_of_lt_of_le (lt_pow_self hb (n := n / b)) (Nat.pow_le_pow_right (by omega) h1)
  exact dgs_more hb n (n / b + 1) (n / b) h2 (lt_pow_self hb) (by omega) (Nat.succ_pos _)
theorem numeral_len {b f n : Nat} (hb : 2 ≤ b) (h : n < b ^ f) (hf : 0 < f) : (numeral b n).length ≤ f := by
  rw [← dgs_numeral hb h hf]; exact length_dgs (by omega) f n
/-- wd digits, noughts ahead -/
def digs (b : Nat) : Nat → Nat → List Nat
  | 0, _ => []
  | w + 1, c => digs b w (c / b) ++ [dch (c % b)]
theorem dch_zero : dch 0 = 48 := rfl
theorem digs_zero {b : Nat} (hb : 2 ≤ b) : ∀ w, digs b w 0 = List.replicate w 48
  | 0 => rfl
  | w + 1 => by
    simp only [digs, Nat.zero_div, Nat.zero_mod, dch_zero, digs_zero hb w]
    rw [List.replicate_succ', ]
theorem pad_snoc {w x : Nat} {l : List Nat} : pad (w + 1) (l ++ [x]) = pad w l ++ [x] := by
  simp [pad, Nat.add_sub_add_right]
theorem pad_numeral {b : Nat} (hb : 2 ≤ b) : ∀ (w c : Nat), 0 < w → c < b ^ w → pad w (numeral b c) = digs b w c
  | 0, _, h, _ => by omega
  | w + 1, c, _, hc => by
    by_cases h : c < b
    · rw [numeral_low h]
      have e : pad (w + 1) [dch c] = pad w [] ++ [dch c] := pad_snoc (l := [])
      rw [e]
      simp only [digs, Nat.div_eq_of_lt h, Nat.mod_eq_of_lt h, digs_zero hb]
      simp [pad]
    · rw [numeral_step hb h, pad_snoc]
      have e1 : c / b < b ^ w := by rw [Nat.div_lt_iff_lt_mul (by omega), ← Nat.pow_succ]; exact hc
      have w0 : 0 < w := by
        rcases Nat.eq_zero_or_pos w with h0 | h0
        · rw [h0] at hc; simp at hc; omega
        · exact h0
      rw [pad_numeral hb w _ w0 e1]
      rfl
theorem numeral_split {b : Nat} (hb : 2 ≤ b) : ∀ (w c v : Nat), 0 < v → c < b ^ w → numeral b (c + b ^ w * v) = numeral b v ++ digs b w c
  | 0, c, v, hv, hc => by
    have : c = 0 := by simpa using hc
    subst this
    simp [digs]
  | w + 1, c, v, hv, hc => by
    have hp : b ≤ b ^ (w + 1) := by
      rw [Nat.pow_succ]
      exact Nat.le_mul_of_pos_left b (Nat.pow_pos (by omega))
    have hge : ¬ c + b ^ (w + 1) * v < b := by
      have : b ^ (w + 1) * 1 ≤ b ^ (w + 1) * v := Nat.mul_le_mul_left _ hv
      omega
    have e0 : c + b ^ (w + 1) * v = c + b * (b ^ w * v) := by rw [Nat.pow_succ, Nat.mul_comm (b ^ w) b, Nat.mul_assoc]
    rw [numeral_step hb hge, e0, Nat.add_mul_div_left _ _ (by omega), Nat.add_mul_mod_self_left]
    have e1 : c / b < b ^ w := by rw [Nat.div_lt_iff_lt_mul (by omega), ← Nat.pow_succ]; exact hc
    rw [numeral_split hb w (c / b) v hv e1, List.append_assoc]
    rfl
/-- chunks, one behind the other -/
theorem jnd_numeral {b w : Nat} (hb : 2 ≤ b) (hw : 0 < w) {D : Nat → List Nat} (hD : ∀ c, c < b ^ w → D c = numeral b c) : ∀ (cs : List Nat), Lim (b ^ w) cs → Top cs → 0 < cs.length → jnd D w cs = numeral b (val (b ^ w) cs)
  | [], _, _, h => by simp at h
  | c :: r, hl, ht, _ => by
    obtain ⟨h1, h2⟩ := lim_cons.1 hl
    simp only [jnd, val]
    by_cases hr : r = []
    · subst hr
      simp only [if_true, jnd, val, Nat.mul_zero, Nat.add_zero, List.nil_append]
      exact hD c h1
    · rw [if_neg hr]
      have hrp : 0 < r.length := List.length_pos_iff.2 hr
      have ht2 : Top r := by
        unfold Top at ht ⊢
        simp only [tlen, List.length_cons] at ht
        split at ht
        · split at ht <;> omega
        · omega
      have hv : 0 < val (b ^ w) r := Nat.lt_of_lt_of_le (Nat.pow_pos (Nat.pow_pos (by omega))) (val_ge_top ht2 hrp)
      rw [jnd_numeral hb hw hD r h2 ht2 hrp, hD c h1, pad_numeral hb w c hw h1, numeral_split hb w c _ hv h1]

/-- what TextH's loop holds: n is still to be written, S has been -/
def TxI (b N n : Nat) (S : List Nat) : Prop := (n ≠ 0 → N ≠ 0 ∧ numeral b n ++ S = numeral b N) ∧ (n = 0 → (N = 0 ∧ S = []) ∨ (N ≠ 0 ∧ S = numeral b N))
theorem txI_start (b N : Nat) : TxI b N N [] := ⟨fun h => ⟨h, by simp⟩, fun h => .inl ⟨h, rfl⟩⟩
theorem txI_step {b N n : Nat} {S : List Nat} (hb : 2 ≤ b) (h : TxI b N n S) (hn : n ≠ 0) : TxI b N (n / b) (dch (n % b) :: S) := by
  obtain ⟨h1, h2⟩ := h.1 hn
  by_cases hlt : n < b
  · rw [numeral_low hlt] at h2
    rw [Nat.div_eq_of_lt hlt, Nat.mod_eq_of_lt hlt]
    exact ⟨fun h => absurd rfl h, fun _ => .inr ⟨h1, h2⟩⟩
  · rw [numeral_step hb hlt, List.append_assoc] at h2
    have : 0 < n / b := Nat.div_pos (by omega) (by omega)
    exact ⟨fun _ => ⟨h1, h2⟩, fun h => by omega⟩
theorem txI_end {b N : Nat} {S : List Nat} (hb : 2 ≤ b) (h : TxI b N 0 S) : (S = [] → numeral b N = [48]) ∧ (S ≠ [] → S = numeral b N) := by
  rcases h.2 rfl with ⟨h1, h2⟩ | ⟨h1, h2⟩
  · subst h1
    exact ⟨fun _ => numeral_low (by omega), fun h => absurd h2 h⟩
  · refine ⟨fun h => ?_, fun _ => h2⟩
    exfalso
    rw [h2] at h
    by_cases hlt : N < b
    · rw [numeral_low hlt] at h; cases h
    · rw [numeral_step hb hlt] at h; simp at h
/-- after the halves from k on have been divided -/
structure DhT (xs Q : List Nat) (d k r : Nat) : Prop where
  len : Q.length = xs.length
  lim : Lim B16 Q
  rlt : r < d
  eq : val B16 (xs.drop k) = val B16 (Q.drop k) * d + r
theorem dhT_zero {xs : List Nat} {d : Nat} (hd : 0 < d) : DhT xs (List.replicate xs.length 0) d xs.length 0 :=
  ⟨by simp, fun j => by rw [getD_replicate]; have := B16_pos; omega, hd, by rw [List.drop_of_length_le (Nat.le_refl _), List.drop_of_length_le (by simp)]; simp [val]⟩
theorem dhT_step {xs Q : List Nat} {d k r : Nat} (h : DhT xs Q d (k + 1) r) (lx : Lim B16 xs) (hk : k < xs.length) :
    DhT xs (Q.set k ((r * 65536 + xs.getD k 0) / d)) d k ((r * 65536 + xs.getD k 0) % d) := by
  have hl := h.len
  have hr := h.rlt
  have hx := lx k
  have hq : (r * 65536 + xs.getD k 0) / d < B16 := by
    rw [Nat.div_lt_iff_lt_mul (by omega)]
    have : (r + 1) * 65536 ≤ d * 65536 := Nat.mul_le_mul_right _ hr
    unfold B16 at *
    omega
  refine ⟨by rw [List.length_set, hl], lim_set h.lim hq _, Nat.mod_lt _ (by omega), ?_⟩
  have e1 := val_drop B16 xs k hk
  have e2 := val_drop B16 (Q.set k ((r * 65536 + xs.getD k 0) / d)) k (by rw [List.length_set]; omega)
  have e3 : (Q.set k ((r * 65536 + xs.getD k 0) / d)).drop (k + 1) = Q.drop (k + 1) := by
    apply list_congr
    · simp
    · intro j _
      rw [getD_drop, getD_drop, getD_set' _ _ _ _ (by omega), if_neg (by omega)]
  rw [getD_set' _ _ _ _ (by omega), if_pos rfl, e3] at e2
  rw [e1, e2, h.eq]
  have e4 := Nat.mod_add_div (r * 65536 + xs.getD k 0) d
  generalize xs.getD k 0 = x at *
  generalize (r * 65536 + x) / d = q at *
  generalize (r * 65536 + x) % d = m at *
  generalize val B16 (Q.drop (k + 1)) = V at *
  rw [Nat.add_mul, Nat.mul_add, Nat.mul_comm q d]
  have e5 : B16 * (V * d) = B16 * V * d := (Nat.mul_assoc _ _ _).symm
  rw [e5]
  unfold B16 at *
  omega
theorem dhT_end {xs Q : List Nat} {d r : Nat} (h : DhT xs Q d 0 r) : val B16 Q = val B16 xs / d ∧ r = val B16 xs % d := by
  have e := h.eq
  simp only [List.drop_zero] at e
  have hr := h.rlt
  rw [e, Nat.mul_comm, Nat.mul_add_div (by omega), Nat.div_eq_of_lt hr, Nat.mul_add_mod, Nat.mod_eq_of_lt hr]
  exact ⟨by omega, rfl⟩
theorem numeral_lt {b : Nat} (hb : 2 ≤ b) (hb2 : b ≤ 36) (n : Nat) : ∀ x ∈ numeral b n, x < 256 := dgs_lt hb hb2 _ _
end Go.Proofs.YtkbfgbkhhfligaaGreatDoor.Mth

/- Whole numbers by sign and amount, in plain mathematics. -/
namespace Go.Proofs.YtkbfgbkhhfligaaGreatDoor.Mth

/-- is the number below 0; a plain definition, so that no walk takes it apart -/
def sgn (z : Int) : Bool := decide (z < 0)
/-- the number of a sign and an amount -/
def sg (n : Bool) (m : Nat) : Int := if n = true then -(m : Int) else (m : Int)
theorem natAbs_sg (n : Bool) (m : Nat) : (sg n m).natAbs = m := by unfold sg; split <;> omega
theorem sgn_neg {z : Int} (h : z < 0) : sgn z = true := decide_eq_true h
theorem sgn_pos {z : Int} (h : 0 ≤ z) : sgn z = false := decide_eq_false (by omega)
theorem of_sgn_true {z : Int} (h : sgn z = true) : z < 0 := of_decide_eq_true h
theorem of_sgn_false {z : Int} (h : sgn z = false) : 0 ≤ z := by have := of_decide_eq_false h; omega
theorem sg_sgn (z : Int) : sg (sgn z) z.natAbs = z := by
  unfold sg
  by_cases h : z < 0
  · rw [sgn_neg h, if_pos rfl]; omega
  · rw [sgn_pos (by omega), if_neg (by simp)]; omega
theorem sgn_sg {n : Bool} {m : Nat} (h : 0 < m) : sgn (sg n m) = n := by
  cases n
  · exact sgn_pos (by unfold sg; simp)
  · exact sgn_neg (by unfold sg; simp; omega)
theorem sgn_sg0 (n : Bool) : sgn (sg n 0) = false := sgn_pos (by unfold sg; split <;> simp)
theorem sgn_zero : sgn 0 = false := rfl
theorem sg_false (m : Nat) : sg false m = (m : Int) := rfl
theorem sg_true (m : Nat) : sg true m = -(m : Int) := rfl
theorem sg_not (z : Int) : sg (!sgn z) z.natAbs = -z := by
  by_cases h : z < 0
  · rw [sgn_neg h]; show sg false _ = _; rw [sg_false]; omega
  · rw [sgn_pos (by omega)]; show sg true _ = _; rw [sg_true]; omega
theorem sg_abs (z : Int) : sg false z.natAbs = (z.natAbs : Int) := rfl
theorem sgn_nat (m : Nat) : sgn (m : Int) = false := sgn_pos (by omega)

/-- what is answered of a number: nothing, and error 5, if it is too long -/
def zN (z : Int) : Int := if Big ≤ z.natAbs then 0 else z
def zE (z : Int) : Int := if Big ≤ z.natAbs then 5 else 0
theorem z_big {z : Int} (h : Big ≤ z.natAbs) : zN z = 0 ∧ zE z = 5 := ⟨if_pos h, if_pos h⟩
theorem z_fine {z : Int} (h : z.natAbs < Big) : zN z = z ∧ zE z = 0 := ⟨if_neg (by omega), if_neg (by omega)⟩
theorem zE_cut (z : Int) : cutE z.natAbs = zE z := rfl
theorem cutN_zN (z : Int) : cutN z.natAbs = (zN z).natAbs := by unfold cutN zN; split <;> simp
/-- -1, 0, 1 -/
def zcmp (a b : Int) : Int := if a < b then -1 else if b < a then 1 else 0
theorem zcmp_lt {a b : Int} (h : a < b) : zcmp a b = -1 := if_pos h
theorem zcmp_gt {a b : Int} (h : b < a) : zcmp a b = 1 := by unfold zcmp; rw [if_neg (by omega), if_pos h]
theorem zcmp_eq {a b : Int} (h : a = b) : zcmp a b = 0 := by unfold zcmp; rw [if_neg (by omega), if_neg (by omega)]
theorem zcmp_nat (m n : Nat) : zcmp (m : Int) (n : Int) = cmp3 m n := by
  unfold zcmp cmp3
  by_cases h : m < n
  · rw [if_pos (by omega), if_pos h]
  · rw [if_neg (by omega), if_neg h]
    by_cases h2 : n < m
    · rw [if_pos (by omega), if_pos h2]
    · rw [if_neg (by omega), if_neg h2]
theorem zcmp_neg (a b : Int) : zcmp (-a) (-b) = zcmp b a := by
  unfold zcmp
  by_cases h : b < a
  · rw [if_pos (by omega), if_pos h]
  · rw [if_neg (by omega), if_neg h]
    by_cases h2 : a < b
    · rw [if_pos (by omega), if_pos h2]
    · rw [if_neg (by omega), if_neg h2]
theorem zcmp_abs_pos {a b : Int} (ha : 0 ≤ a) (hb : 0 ≤ b) : zcmp a b = cmp3 a.natAbs b.natAbs := by
  rw [← zcmp_nat]; congr 1 <;> omega
theorem zcmp_abs_neg {a b : Int} (ha : a < 0) (hb : b < 0) : zcmp a b = cmp3 b.natAbs a.natAbs := by
  rw [← zcmp_nat, ← zcmp_neg]; congr 1 <;> omega
theorem zcmp_zero (a : Int) : zcmp a 0 = if a < 0 then -1 else if 0 < a then 1 else 0 := rfl

/-- the quotient cut, and what is left -/
def qC (a b : Int) : Int := sg (sgn a != sgn b) (a.natAbs / b.natAbs)
def rC (a b : Int) : Int := sg (sgn a) (a.natAbs % b.natAbs)
/-- SMT-LIB's -/
def qE (a b : Int) : Int := if rC a b < 0 then (if b < 0 then qC a b + 1 else qC a b - 1) else qC a b
def rE (a b : Int) : Int := if rC a b < 0 then rC a b + (b.natAbs : Int) else rC a b
/-- rounded down, up -/
def qF (a b : Int) : Int := if rC a b ≠ 0 ∧ sgn a ≠ sgn b then qC a b - 1 else qC a b
def qU (a b : Int) : Int := if rC a b ≠ 0 ∧ sgn a = sgn b then qC a b + 1 else qC a b
theorem amt_qC (a b : Int) : (qC a b).natAbs = a.natAbs / b.natAbs := natAbs_sg _ _
theorem amt_rC (a b : Int) : (rC a b).natAbs = a.natAbs % b.natAbs := natAbs_sg _ _
theorem sg_mul (m n : Bool) (x y : Nat) : sg m x * sg n y = sg (m != n) (x * y) := by
  cases m <;> cases n <;> simp [sg, Int.neg_mul, Int.mul_neg]
theorem mul_sg (a b : Int) : a * b = sg (sgn a != sgn b) (a.natAbs * b.natAbs) := by
  rw [← sg_mul, sg_sgn, sg_sgn]
theorem cut_again (a b : Int) : qC a b * b + rC a b = a := by
  have e : qC a b * b = sg (sgn a) (a.natAbs / b.natAbs * b.natAbs) := by
    unfold qC
    calc sg (sgn a != sgn b) (a.natAbs / b.natAbs) * b = sg (sgn a != sgn b) (a.natAbs / b.natAbs) * sg (sgn b) b.natAbs := by rw [sg_sgn]
      _ = _ := by rw [sg_mul]; congr 1; cases sgn a <;> cases sgn b <;> rfl
  rw [e]
  unfold rC
  have h := Nat.div_add_mod' a.natAbs b.natAbs
  conv => rhs; rw [← sg_sgn a]
  unfold sg
  split <;> omega
theorem rC_bounds {a b : Int} (hb : b ≠ 0) : (rC a b).natAbs < b.natAbs := by rw [amt_rC]; exact Nat.mod_lt _ (by omega)
theorem rC_neg {a b : Int} (h : rC a b < 0) : a < 0 := by
  unfold rC at h
  cases hs : sgn a
  · rw [hs, sg_false] at h; omega
  · exact of_sgn_true hs
theorem rC_pos {a b : Int} (h : 0 < rC a b) : 0 ≤ a := by
  unfold rC at h
  cases hs : sgn a
  · exact of_sgn_false hs
  · rw [hs, sg_true] at h; omega
theorem sgn_rC {a b : Int} (h : rC a b ≠ 0) : sgn (rC a b) = sgn a := by
  unfold rC at h ⊢
  refine sgn_sg ?_
  rcases Nat.eq_zero_or_pos (a.natAbs % b.natAbs) with h0 | h0
  · rw [h0] at h; exact absurd (by unfold sg; split <;> simp) h
  · exact h0
end Go.Proofs.YtkbfgbkhhfligaaGreatDoor.Mth

/- Euclid's rows, one step or many at once (Lehmer's way), in plain mathematics. -/
namespace Go.Proofs.YtkbfgbkhhfligaaGreatDoor.Mth

/-- two rows of three numbers: the amounts, and the signs, which alternate: (p, sg ng a, sg (!ng) b), (q, sg (!ng) c, sg ng d) -/
structure ESt where
  p : Nat
  q : Nat
  a : Nat
  b : Nat
  c : Nat
  d : Nat
  ng : Bool
/-- Euclid's next rows -/
def eNext (s : ESt) : ESt := ⟨s.q, s.p % s.q, s.c, s.d, s.a + s.p / s.q * s.c, s.b + s.p / s.q * s.d, !s.ng⟩
/-- the rows behind n steps, or where the second row's first number is 0 -/
def eRun : Nat → ESt → ESt
  | 0, s => s
  | n + 1, s => if s.q = 0 then s else eRun n (eNext s)
theorem eRun_end {s : ESt} (h : s.q = 0) : ∀ n, eRun n s = s
  | 0 => rfl
  | _ + 1 => if_pos h
/-- enough steps: one more changes nothing -/
theorem eRun_more : ∀ (n : Nat) (s : ESt), s.q ≤ n → eRun (n + 1) s = eRun n s
  | 0, s, h => by
    have : s.q = 0 := by omega
    rw [eRun_end this, eRun_end this]
  | n + 1, s, h => by
    by_cases e : s.q = 0
    · rw [eRun_end e, eRun_end e]
    · have h2 := Nat.mod_lt s.p (show 0 < s.q by omega)
      have ih := eRun_more n (eNext s) (by show s.p % s.q ≤ n; omega)
      show (if s.q = 0 then s else eRun (n + 1) (eNext s)) = if s.q = 0 then s else eRun n (eNext s)
      rw [if_neg e, if_neg e, ih]
theorem eRun_enough (s : ESt) : ∀ (k n : Nat), s.q ≤ n → eRun (n + k) s = eRun n s
  | 0, _, _ => rfl
  | k + 1, n, h => by rw [← Nat.add_assoc, eRun_more (n + k) s (by omega), eRun_enough s k n h]
/-- where Euclid's steps end -/
def eEnd (s : ESt) : ESt := eRun s.q s
theorem eEnd_zero {s : ESt} (h : s.q = 0) : eEnd s = s := eRun_end h _
theorem eEnd_next {s : ESt} (h : 0 < s.q) : eEnd (eNext s) = eEnd s := by
  have h2 := Nat.mod_lt s.p h
  unfold eEnd
  obtain ⟨n, hn⟩ : ∃ n, s.q = n + 1 := ⟨s.q - 1, by omega⟩
  rw [show (eNext s).q = s.p % s.q from rfl, hn]
  show _ = if s.q = 0 then s else eRun n (eNext s)
  rw [if_neg (by omega)]
  rw [hn] at h2
  obtain ⟨k, hk⟩ : ∃ k, n = s.p % (n + 1) + k := ⟨n - s.p % (n + 1), by omega⟩
  have := eRun_enough (eNext s) k (s.p % (n + 1)) (by show s.p % s.q ≤ _; rw [hn]; exact Nat.le_refl _)
  rw [← hk] at this
  exact this.symm

/-- where it begins -/
def eStart (A B : Nat) : ESt := ⟨A, B, 1, 0, 0, 1, false⟩
/-- what Euclid's rows hold -/
structure EInv (A B : Nat) (s : ESt) : Prop where
  sp : (s.p : Int) = sg s.ng s.a * A + sg (!s.ng) s.b * B
  sq : (s.q : Int) = sg (!s.ng) s.c * A + sg s.ng s.d * B
  eA : A = s.d * s.p + s.b * s.q
  eB : B = s.c * s.p + s.a * s.q
  g : Nat.gcd s.p s.q = Nat.gcd A B
  cd : s.c ≤ max B 1 ∧ s.d ≤ max A 1
  ab : s.a ≤ max B 1 ∧ s.b ≤ max A 1
theorem eInv_start (A B : Nat) : EInv A B (eStart A B) := by
  refine ⟨?_, ?_, ?_, ?_, rfl, ⟨?_, ?_⟩, ⟨?_, ?_⟩⟩ <;> simp [eStart, sg] <;> omega
theorem sg_step (n : Bool) (a c k : Nat) : sg n (a + k * c) = sg n a - (k : Int) * sg (!n) c := by
  cases n <;> simp [sg, Int.natCast_add, Int.natCast_mul, Int.mul_neg, Int.neg_add] <;> omega
theorem eInv_next {A B : Nat} {s : ESt} (h : EInv A B s) (hq : 0 < s.q) : EInv A B (eNext s) := by
  obtain ⟨p, q, a, b, c, d, ng⟩ := s
  obtain ⟨h1, h2, h3, h4, h5, ⟨h6, h7⟩, _⟩ := h
  simp only at h1 h2 h3 h4 h5 h6 h7 hq
  have hm := Nat.mod_add_div p q
  have hl := Nat.mod_lt p hq
  have eA : A = (b + p / q * d) * q + d * (p % q) := by
    rw [h3]
    conv => lhs; rw [← hm]
    rw [Nat.mul_add, Nat.add_mul, Nat.mul_comm (p / q) d, Nat.mul_assoc d, Nat.mul_comm q (p / q)]
    omega
  have eB : B = (a + p / q * c) * q + c * (p % q) := by
    rw [h4]
    conv => lhs; rw [← hm]
    rw [Nat.mul_add, Nat.add_mul, Nat.mul_comm (p / q) c, Nat.mul_assoc c, Nat.mul_comm q (p / q)]
    omega
  refine ⟨by show (q : Int) = sg (!ng) c * A + sg (!!ng) d * B; rw [Bool.not_not]; exact h2, ?_, eA, eB, ?_, ⟨?_, ?_⟩, ⟨h6, h7⟩⟩
  · show ((p % q : Nat) : Int) = sg (!!ng) (a + p / q * c) * A + sg (!ng) (b + p / q * d) * B
    have e : ((p % q : Nat) : Int) = (p : Int) - ((p / q : Nat) : Int) * (q : Int) := by
      have h : ((p % q + q * (p / q) : Nat) : Int) = (p : Int) := by rw [hm]
      rw [Int.natCast_add, Int.natCast_mul, Int.mul_comm (q : Int)] at h
      omega
    rw [e, h1, h2, Bool.not_not, sg_step ng a c, sg_step (!ng) b d, Bool.not_not]
    generalize ((p / q : Nat) : Int) = k
    generalize sg ng a = x1; generalize sg (!ng) b = x2; generalize sg (!ng) c = x3; generalize sg ng d = x4
    generalize (A : Int) = x5; generalize (B : Int) = x6
    grind
  · show Nat.gcd q (p % q) = _
    rw [← h5, Nat.gcd_comm p q, Nat.gcd_rec q p, Nat.gcd_comm]
  · show a + p / q * c ≤ _
    have h8 : (a + p / q * c) * 1 ≤ (a + p / q * c) * q := Nat.mul_le_mul_left _ hq
    omega
  · show b + p / q * d ≤ _
    have h8 : (b + p / q * d) * 1 ≤ (b + p / q * d) * q := Nat.mul_le_mul_left _ hq
    omega

/-- many steps at once: a matrix of amounts, its signs alternate too -/
structure EMat where
  a : Nat
  b : Nat
  c : Nat
  d : Nat
  ng : Bool
def eId : EMat := ⟨1, 0, 0, 1, false⟩
/-- the rows that a matrix makes of others, whose first numbers are P and Q -/
def eMix (m : EMat) (s : ESt) (P Q : Nat) : ESt := ⟨P, Q, m.a * s.a + m.b * s.c, m.a * s.b + m.b * s.d, m.c * s.a + m.d * s.c, m.c * s.b + m.d * s.d, s.ng != m.ng⟩
/-- the next matrix, by the quotient k -/
def mNext (m : EMat) (k : Nat) : EMat := ⟨m.c, m.d, m.a + k * m.c, m.b + k * m.d, !m.ng⟩
theorem eMix_next {m : EMat} {s : ESt} {P Q : Nat} : eNext (eMix m s P Q) = eMix (mNext m (P / Q)) s Q (P % Q) := by
  obtain ⟨a, b, c, d, n⟩ := m
  obtain ⟨p, q, a', b', c', d', n'⟩ := s
  simp only [eNext, eMix, mNext, ESt.mk.injEq, true_and]
  refine ⟨?_, ?_, ?_⟩
  · generalize P / Q = k
    grind
  · generalize P / Q = k
    grind
  · cases n <;> cases n' <;> rfl
theorem eMix_id (s : ESt) : eMix eId s s.p s.q = s := by
  obtain ⟨p, q, a', b', c', d', n'⟩ := s
  cases n' <;> simp [eMix, eId]

/-- how a number lies by its leading digits: x times C, and less than C more (nothing more, where there is no slack) -/
structure Lead (C σ X x r : Nat) : Prop where
  e : X = x * C + r
  l : r < C
  z : σ = 0 → r = 0
  s : σ ≤ 1
/-- what walk's loop holds of the leading digits x0, y0 of two numbers X, Y, of what they are now, and of the steps' matrix -/
structure WInv (C σ X Y x0 y0 r t : Nat) (s : ESt) (m : EMat) (x y P Q : Nat) : Prop where
  lx : Lead C σ X x0 r
  ly : Lead C σ Y y0 t
  ex : x0 = m.d * x + m.b * y
  ey : y0 = m.c * x + m.a * y
  f : m.ng = false → x + m.b * y0 = m.a * x0 ∧ y + m.c * x0 = m.d * y0 ∧ P + m.b * t = C * x + m.a * r ∧ Q + m.c * r = C * y + m.d * t ∧ σ * m.b ≤ x ∧ σ * m.c ≤ y ∧ P + m.b * Y = m.a * X ∧ Q + m.c * X = m.d * Y
  u : m.ng = true → x + m.a * x0 = m.b * y0 ∧ y + m.d * y0 = m.c * x0 ∧ P + m.a * r = C * x + m.b * t ∧ Q + m.d * t = C * y + m.c * r ∧ σ * m.a ≤ x ∧ σ * m.d ≤ y ∧ P + m.a * X = m.b * Y ∧ Q + m.d * Y = m.c * X
  run : eEnd (eMix m s P Q) = eEnd s
  inv : ∀ A B, EInv A B s → EInv A B (eMix m s P Q)
  less : m = eId ∧ P = X ∧ Q = Y ∨ Q < Y
  bd : ∀ M, x0 ≤ M → y0 ≤ M → 1 ≤ M → m.a ≤ M ∧ m.b ≤ M ∧ m.c ≤ M ∧ m.d ≤ M
theorem wInv_start {C σ X Y x0 y0 r t : Nat} {s : ESt} (hx : Lead C σ X x0 r) (hy : Lead C σ Y y0 t) (hp : s.p = X) (hq : s.q = Y) : WInv C σ X Y x0 y0 r t s eId x0 y0 X Y := by
  subst hp hq
  have e := eMix_id s
  refine ⟨hx, hy, by simp [eId], by simp [eId], fun _ => ?_, (fun h => by cases h), by rw [e], (fun A B h => by rw [e]; exact h), .inl ⟨rfl, rfl, rfl⟩, fun M _ _ h => ⟨h, Nat.zero_le _, Nat.zero_le _, h⟩⟩
  simp only [eId]
  have h1 := hx.e; have h2 := hy.e
  refine ⟨by omega, by omega, ?_, ?_, by omega, by omega, by omega, by omega⟩
  · rw [Nat.mul_comm C]; omega
  · rw [Nat.mul_comm C]; omega

/-- where both ends of the ratio have one quotient, it is the ratio's -/
theorem lead_quo {C σ x y P Q r t u v w z k : Nat} (hP : P + v * t = C * x + u * r) (hQ : Q + w * r = C * y + z * t) (hr : r < C) (ht : t < C) (hs : σ ≤ 1) (hr0 : σ = 0 → r = 0) (ht0 : σ = 0 → t = 0)
    (hv : σ * v ≤ x) (hw : σ * w < y) (h1 : (x + σ * u) / (y - σ * w) = k) (h2 : (x - σ * v) / (y + σ * z) = k) : 0 < Q ∧ P / Q = k ∧ k * y + σ * (v + k * z) ≤ x := by
  have hy : 0 < y - σ * w := by omega
  have hk1 : k * (y + σ * z) ≤ x - σ * v := by rw [← h2]; exact Nat.div_mul_le_self _ _
  have hk2 : x + σ * u < (y - σ * w) * (k + 1) := by rw [← h1]; exact Nat.lt_mul_div_succ _ hy
  clear h1 h2
  have hC : 0 < C := by omega
  rcases (show σ = 0 ∨ σ = 1 by omega) with rfl | rfl
  · obtain rfl := hr0 rfl
    obtain rfl := ht0 rfl
    simp only [Nat.zero_mul, Nat.mul_zero, Nat.add_zero, Nat.sub_zero] at *
    have h3 : C * (k * y) ≤ C * x := Nat.mul_le_mul_left _ hk1
    have h4 : C * x < C * (y * (k + 1)) := Nat.mul_lt_mul_of_pos_left hk2 hC
    have h5 : 0 < C * y := Nat.mul_pos hC hw
    subst hP hQ
    refine ⟨h5, Nat.div_eq_of_lt_le ?_ ?_, hk1⟩
    · rw [Nat.mul_left_comm]; exact h3
    · rw [show (k + 1) * (C * y) = C * (y * (k + 1)) by rw [Nat.mul_left_comm, Nat.mul_comm y]]; exact h4
  · simp only [Nat.one_mul] at *
    have h3 : C * (k * (y + z) + v) ≤ C * x := Nat.mul_le_mul_left _ (by omega)
    have h4 : (k * z + v) * t ≤ (k * z + v) * C := Nat.mul_le_mul_left _ (by omega)
    obtain ⟨y', rfl⟩ : ∃ y', y = y' + w := ⟨y - w, by omega⟩
    rw [Nat.add_sub_cancel] at hk2
    have h5 : C * (x + u + 1) ≤ C * (y' * (k + 1)) := Nat.mul_le_mul_left _ (by omega)
    have h6 : (u + (k + 1) * w) * r ≤ (u + (k + 1) * w) * C := Nat.mul_le_mul_left _ (by omega)
    have h7 : w * r ≤ w * C := Nat.mul_le_mul_left _ (by omega)
    have h8 : 0 < C * y' := Nat.mul_pos hC (by omega)
    have hQ0 : 0 < Q := by
      rw [Nat.mul_add, Nat.mul_comm C w] at hQ
      omega
    refine ⟨hQ0, Nat.div_eq_of_lt_le ?_ ?_, ?_⟩
    · have e1 : k * (Q + w * r) = k * (C * (y' + w) + z * t) := by rw [hQ]
      grind
    · have e1 : (k + 1) * (Q + w * r) = (k + 1) * (C * (y' + w) + z * t) := by rw [hQ]
      grind
    · grind

theorem comb1 {k y e a b c d x0 y0 : Nat} (g1 : k * y + e + a * x0 = b * y0) (g2 : y + d * y0 = c * x0) : e + (a + k * c) * x0 = (b + k * d) * y0 := by grind
theorem comb2 {C k y e Q f a b c d r t : Nat} (g3 : k * Q + f + a * r = C * (k * y + e) + b * t) (g4 : Q + d * t = C * y + c * r) : f + (a + k * c) * r = C * e + (b + k * d) * t := by grind
theorem eInv_mono {C σ X Y x0 y0 r t : Nat} {s : ESt} {m : EMat} {x y P Q k e f : Nat} (h : WInv C σ X Y x0 y0 r t s m x y P Q) (hy : 0 < y) (hx : x = k * y + e) (hP : P = k * Q + f) (hf : f < Q) (hs1 : m.ng = false → σ * (m.b + k * m.d) ≤ e) (hs2 : m.ng = true → σ * (m.a + k * m.c) ≤ e)
    (hw1 : m.ng = false → σ * m.c ≤ y) (hw2 : m.ng = true → σ * m.d ≤ y) (hYs : Y = s.q) : WInv C σ X Y x0 y0 r t s (mNext m k) y e Q f := by
  have hdiv : P / Q = k := by rw [hP]; exact Nat.div_eq_of_lt_le (by omega) (by rw [Nat.add_mul]; omega)
  have hmod : P % Q = f := by
    have := Nat.mod_add_div P Q
    rw [hdiv, Nat.mul_comm] at this
    omega
  have hnx := eMix_next (m := m) (s := s) (P := P) (Q := Q)
  rw [hdiv, hmod] at hnx
  obtain ⟨lx, ly, ex, ey, hf1, hu1, hrun, hinv, hless, hbd⟩ := h
  obtain ⟨a, b, c, d, n⟩ := m
  simp only [mNext] at *
  have hex : x0 = (b + k * d) * y + d * e := by rw [ex, hx]; grind
  have hey : y0 = (a + k * c) * y + c * e := by rw [ey, hx]; grind
  refine ⟨lx, ly, hex, hey, ?_, ?_, ?_, ?_, ?_, ?_⟩
  · intro hn
    have hn' : n = true := by cases n <;> simp_all
    obtain ⟨g1, g2, g3, g4, g5, g6, g7, g8⟩ := hu1 hn'
    have g9 := hs2 hn'
    rw [hx] at g1
    rw [hP] at g3 g7
    rw [hx] at g3
    exact ⟨g2, comb1 g1 g2, g4, comb2 g3 g4, hw2 hn', g9, g8, comb1 g7 g8⟩
  · intro hn
    have hn' : n = false := by cases n <;> simp_all
    obtain ⟨g1, g2, g3, g4, g5, g6, g7, g8⟩ := hf1 hn'
    have g9 := hs1 hn'
    rw [hx] at g1
    rw [hP] at g3 g7
    rw [hx] at g3
    exact ⟨g2, comb1 g1 g2, g4, comb2 g3 g4, hw1 hn', g9, g8, comb1 g7 g8⟩
  · rw [← hnx, eEnd_next (by show 0 < Q; omega)]; exact hrun
  · intro A B hAB
    rw [← hnx]
    exact eInv_next (hinv A B hAB) (by show 0 < Q; omega)
  · right
    rcases hless with ⟨_, _, h3⟩ | h3
    · omega
    · omega
  · intro M h1 h2 h3
    obtain ⟨k1, k2, k3, k4⟩ := hbd M h1 h2 h3
    have q1 : (b + k * d) * 1 ≤ (b + k * d) * y := Nat.mul_le_mul_left _ hy
    have q2 : (a + k * c) * 1 ≤ (a + k * c) * y := Nat.mul_le_mul_left _ hy
    exact ⟨k3, k4, (by show a + k * c ≤ M; omega), (by show b + k * d ≤ M; omega)⟩
theorem wInv_step {C σ X Y x0 y0 r t : Nat} {s : ESt} {m : EMat} {x y P Q k : Nat} (h : WInv C σ X Y x0 y0 r t s m x y P Q) (hYs : Y = s.q)
    (hk1 : m.ng = false → σ * m.c < y ∧ (x + σ * m.a) / (y - σ * m.c) = k ∧ (x - σ * m.b) / (y + σ * m.d) = k)
    (hk2 : m.ng = true → σ * m.d < y ∧ (x + σ * m.b) / (y - σ * m.d) = k ∧ (x - σ * m.a) / (y + σ * m.c) = k) :
    k * y ≤ x ∧ WInv C σ X Y x0 y0 r t s (mNext m k) y (x - k * y) Q (P % Q) := by
  have hlx := h.lx; have hly := h.ly
  cases hn : m.ng
  · obtain ⟨c1, c2, c3⟩ := hk1 hn
    obtain ⟨g1, g2, g3, g4, g5, g6, _⟩ := h.f hn
    obtain ⟨q1, q2, q3⟩ := lead_quo g3 g4 hlx.l hly.l hlx.s hlx.z hly.z g5 c1 c2 c3
    have hm := Nat.mod_add_div P Q
    rw [q2, Nat.mul_comm] at hm
    have hl := Nat.mod_lt P q1
    exact ⟨by omega, eInv_mono h (by omega) (by omega) (by omega) hl (fun _ => by omega) (fun h => by rw [hn] at h; cases h) (fun _ => by omega) (fun h => by rw [hn] at h; cases h) hYs⟩
  · obtain ⟨c1, c2, c3⟩ := hk2 hn
    obtain ⟨g1, g2, g3, g4, g5, g6, _⟩ := h.u hn
    obtain ⟨q1, q2, q3⟩ := lead_quo (r := t) (t := r) (u := m.b) (v := m.a) (w := m.d) (z := m.c) g3 g4 hly.l hlx.l hlx.s hly.z hlx.z g5 c1 c2 c3
    have hm := Nat.mod_add_div P Q
    rw [q2, Nat.mul_comm] at hm
    have hl := Nat.mod_lt P q1
    exact ⟨by omega, eInv_mono h (by omega) (by omega) (by omega) hl (fun h => by rw [hn] at h; cases h) (fun _ => by omega) (fun h => by rw [hn] at h; cases h) (fun _ => by omega) hYs⟩
end Go.Proofs.YtkbfgbkhhfligaaGreatDoor.Mth

/- What follows of quotients, rests, divisors, in plain mathematics. -/
namespace Go.Proofs.YtkbfgbkhhfligaaGreatDoor.Mth

theorem e_again (a b : Int) : qE a b * b + rE a b = a := by
  have h := cut_again a b
  unfold qE rE
  by_cases h1 : rC a b < 0
  · rw [if_pos h1, if_pos h1]
    by_cases h2 : b < 0
    · rw [if_pos h2, Int.add_mul]; omega
    · rw [if_neg h2, Int.sub_mul]; omega
  · rw [if_neg h1, if_neg h1]; exact h
theorem rE_bounds {a b : Int} (hb : b ≠ 0) : 0 ≤ rE a b ∧ rE a b < (b.natAbs : Int) := by
  have h := rC_bounds (a := a) hb
  unfold rE
  split <;> omega
theorem qE_near (a b : Int) : (qC a b - qE a b).natAbs ≤ 1 := by
  unfold qE
  split
  · split <;> omega
  · omega
theorem f_cases (a b : Int) : (rC a b = 0 ∧ qF a b = qC a b ∧ qU a b = qC a b) ∨ (rC a b ≠ 0 ∧ sgn a ≠ sgn b ∧ qF a b = qC a b - 1 ∧ qU a b = qC a b) ∨ (rC a b ≠ 0 ∧ sgn a = sgn b ∧ qF a b = qC a b ∧ qU a b = qC a b + 1) := by
  unfold qF qU
  by_cases h : rC a b = 0
  · exact .inl ⟨h, if_neg (fun h2 => h2.1 h), if_neg (fun h2 => h2.1 h)⟩
  · by_cases h2 : sgn a = sgn b
    · exact .inr (.inr ⟨h, h2, if_neg (fun h3 => h3.2 h2), if_pos ⟨h, h2⟩⟩)
    · exact .inr (.inl ⟨h, h2, if_pos ⟨h, h2⟩, if_neg (fun h3 => h2 h3.2)⟩)
theorem near_diff (a b : Int) : qU a b - qF a b = if rC a b = 0 then 0 else 1 := by
  rcases f_cases a b with ⟨h, h1, h2⟩ | ⟨h, _, h1, h2⟩ | ⟨h, _, h1, h2⟩
  · rw [if_pos h, h1, h2]; omega
  · rw [if_neg h, h1, h2]; omega
  · rw [if_neg h, h1, h2]; omega
/-- what is left of a rounding down -/
theorem near_rest {a b : Int} (hb : b ≠ 0) : (a - qF a b * b).natAbs < b.natAbs ∧ (a - qF a b * b = 0 ∨ (0 < a - qF a b * b ∧ 0 < b) ∨ (a - qF a b * b < 0 ∧ b < 0)) := by
  have h := cut_again a b
  have h3 := rC_bounds (a := a) hb
  rcases f_cases a b with ⟨h0, h1, _⟩ | ⟨h0, hs, h1, _⟩ | ⟨h0, hs, h1, _⟩
  · rw [h1]
    have : a - qC a b * b = rC a b := by omega
    rw [this, h0]
    exact ⟨by omega, .inl rfl⟩
  · rw [h1]
    have : a - (qC a b - 1) * b = rC a b + b := by rw [Int.sub_mul]; omega
    rw [this]
    have e := sgn_rC h0
    cases hb2 : sgn b
    · have hbp := of_sgn_false hb2
      have hr : rC a b < 0 := of_sgn_true (by rw [e]; cases h5 : sgn a <;> simp_all)
      exact ⟨by omega, .inr (.inl ⟨by omega, by omega⟩)⟩
    · have hbn := of_sgn_true hb2
      have hr : 0 ≤ rC a b := of_sgn_false (by rw [e]; cases h5 : sgn a <;> simp_all)
      exact ⟨by omega, .inr (.inr ⟨by omega, by omega⟩)⟩
  · rw [h1]
    have : a - qC a b * b = rC a b := by omega
    rw [this]
    have e := sgn_rC h0
    cases hb2 : sgn b
    · have hbp := of_sgn_false hb2
      have hr : 0 ≤ rC a b := of_sgn_false (by rw [e, hs, hb2])
      exact ⟨by omega, .inr (.inl ⟨by omega, by omega⟩)⟩
    · have hbn := of_sgn_true hb2
      have hr : rC a b < 0 := of_sgn_true (by rw [e, hs, hb2])
      exact ⟨by omega, .inr (.inr ⟨by omega, by omega⟩)⟩

/-- the greatest common divisor, and the two factors -/
def xG (a b : Int) : Int := ((eEnd (eStart a.natAbs b.natAbs)).p : Int)
def xX (a b : Int) : Int := let s := eEnd (eStart a.natAbs b.natAbs); if a < 0 then - sg s.ng s.a else sg s.ng s.a
def xY (a b : Int) : Int := let s := eEnd (eStart a.natAbs b.natAbs); if b < 0 then - sg (!s.ng) s.b else sg (!s.ng) s.b
theorem eRun_inv {A B : Nat} : ∀ (n : Nat) (s : ESt), EInv A B s → s.q ≤ n → EInv A B (eRun n s) ∧ (eRun n s).q = 0
  | 0, s, h, hn => ⟨h, by show s.q = 0; omega⟩
  | n + 1, s, h, hn => by
    show EInv A B (if s.q = 0 then s else eRun n (eNext s)) ∧ (if s.q = 0 then s else eRun n (eNext s)).q = 0
    by_cases h0 : s.q = 0
    · rw [if_pos h0]; exact ⟨h, h0⟩
    · rw [if_neg h0]
      have hl := Nat.mod_lt s.p (show 0 < s.q by omega)
      exact eRun_inv n (eNext s) (eInv_next h (by omega)) (by show s.p % s.q ≤ n; omega)
theorem eEnd_inv (A B : Nat) : EInv A B (eEnd (eStart A B)) ∧ (eEnd (eStart A B)).q = 0 := eRun_inv _ _ (eInv_start A B) (Nat.le_refl _)
theorem xG_gcd (a b : Int) : xG a b = (Nat.gcd a.natAbs b.natAbs : Nat) := by
  obtain ⟨h, h0⟩ := eEnd_inv a.natAbs b.natAbs
  have := h.g
  rw [h0, Nat.gcd_zero_right] at this
  unfold xG; rw [this]
theorem xG_sum (a b : Int) : a * xX a b + b * xY a b = xG a b := by
  obtain ⟨h, _⟩ := eEnd_inv a.natAbs b.natAbs
  have e := h.sp
  unfold xG xX xY
  generalize eEnd (eStart a.natAbs b.natAbs) = s at *
  simp only
  rw [e]
  have ea : (a.natAbs : Int) = if a < 0 then -a else a := by split <;> omega
  have eb : (b.natAbs : Int) = if b < 0 then -b else b := by split <;> omega
  rw [ea, eb]
  by_cases h1 : a < 0 <;> by_cases h2 : b < 0 <;> simp only [h1, h2, if_true, if_false] <;> grind
end Go.Proofs.YtkbfgbkhhfligaaGreatDoor.Mth

/- Lehmer's steps on numbers of 62 bits, and what Euclid's rows are bounded by: plain mathematics for package whole's Extended. -/
namespace Go.Proofs.YtkbfgbkhhfligaaGreatDoor.Mth

/-- the next quotient by the leading digits: what walk's loop computes, as naturals -/
theorem walk_nums {C σ X Y x0 y0 r t M : Nat} {s : ESt} {m : EMat} {x y P Q : Nat} (h : WInv C σ X Y x0 y0 r t s m x y P Q) (hx : x0 ≤ M) (hy : y0 ≤ M) (hM : 1 ≤ M) :
    x ≤ M ∧ y ≤ M ∧ m.a ≤ M ∧ m.b ≤ M ∧ m.c ≤ M ∧ m.d ≤ M ∧ ∃ E1 E2 E3 E4 : Nat,
      (y : Int) + (σ : Int) * sg (!m.ng) m.c = E1 ∧ (y : Int) + (σ : Int) * sg m.ng m.d = E2 ∧ (x : Int) + (σ : Int) * sg m.ng m.a = E3 ∧ (x : Int) + (σ : Int) * sg (!m.ng) m.b = E4 ∧
      E1 ≤ M + M ∧ E2 ≤ M + M ∧ E3 ≤ M + M ∧ E4 ≤ M + M ∧
      (∀ k, E1 ≠ 0 → E2 ≠ 0 → E3 / E1 = k → E4 / E2 = k →
        (m.ng = false → σ * m.c < y ∧ (x + σ * m.a) / (y - σ * m.c) = k ∧ (x - σ * m.b) / (y + σ * m.d) = k) ∧
        (m.ng = true → σ * m.d < y ∧ (x + σ * m.b) / (y - σ * m.d) = k ∧ (x - σ * m.a) / (y + σ * m.c) = k) ∧ x < (k + 1) * y ∧ 0 < y) := by
  have hs := h.lx.s
  obtain ⟨ba, bb, bc, bd⟩ := h.bd M hx hy hM
  have hf := h.f
  have hu := h.u
  have ex := h.ex
  have ey := h.ey
  clear h
  obtain ⟨a, b, c, d, n⟩ := m
  simp only at *
  have key : x ≤ M ∧ y ≤ M := by
    by_cases hcd : c = 0 ∧ d = 0
    · obtain ⟨rfl, rfl⟩ := hcd
      have hy0 : y = 0 := by
        cases n
        · obtain ⟨_, h2, _⟩ := hf rfl; omega
        · obtain ⟨_, h2, _⟩ := hu rfl; omega
      subst hy0
      have hx0 : x0 = 0 := by rw [ex]; simp
      have hy0 : y0 = 0 := by rw [ey]; simp
      subst hx0 hy0
      cases n
      · obtain ⟨h1, _⟩ := hf rfl; omega
      · obtain ⟨h1, _⟩ := hu rfl; omega
    · have h1 : x ≤ M := by
        rcases (show 0 < d ∨ 0 < c by omega) with h | h
        · have : 1 * x ≤ d * x := Nat.mul_le_mul_right _ h
          omega
        · have : 1 * x ≤ c * x := Nat.mul_le_mul_right _ h
          omega
      refine ⟨h1, ?_⟩
      by_cases hab : a = 0 ∧ b = 0
      · obtain ⟨rfl, rfl⟩ := hab
        have hx0 : x = 0 := by
          cases n
          · obtain ⟨h2, _⟩ := hf rfl; omega
          · obtain ⟨h2, _⟩ := hu rfl; omega
        subst hx0
        have hx0 : x0 = 0 := by rw [ex]; simp
        have hy0 : y0 = 0 := by rw [ey]; simp
        subst hx0 hy0
        cases n
        · obtain ⟨_, h1, _⟩ := hf rfl; omega
        · obtain ⟨_, h1, _⟩ := hu rfl; omega
      · rcases (show 0 < b ∨ 0 < a by omega) with h | h
        · have : 1 * y ≤ b * y := Nat.mul_le_mul_right _ h
          omega
        · have : 1 * y ≤ a * y := Nat.mul_le_mul_right _ h
          omega
  clear ex ey
  obtain ⟨kx, ky⟩ := key
  refine ⟨kx, ky, ba, bb, bc, bd, ?_⟩
  have s1 : ∀ z : Nat, σ * z ≤ z := fun z => by
    have := Nat.mul_le_mul_right z hs; omega
  have s2 : ∀ z : Nat, (σ : Int) * (z : Int) = ((σ * z : Nat) : Int) := fun z => by rw [Int.natCast_mul]
  have s3 : ∀ z : Nat, (σ : Int) * -(z : Int) = -((σ * z : Nat) : Int) := fun z => by rw [Int.mul_neg, Int.natCast_mul]
  have sa := s1 a; have sb := s1 b; have sc := s1 c; have sd := s1 d
  have fin : ∀ {u v k y1 z : Nat}, (u + v) / y1 = k → 0 < y1 → y1 ≤ z → u < (k + 1) * z := fun {u v k y1 z} h1 h2 h3 => by
    have h4 : u + v < y1 * (k + 1) := by rw [← h1]; exact Nat.lt_mul_div_succ _ h2
    have h5 : y1 * (k + 1) ≤ z * (k + 1) := Nat.mul_le_mul_right _ h3
    rw [Nat.mul_comm (k + 1)]
    omega
  cases n
  · obtain ⟨_, _, _, _, g5, g6, _⟩ := hf rfl
    refine ⟨y - σ * c, y + σ * d, x + σ * a, x - σ * b, ?_, ?_, ?_, ?_, by omega, by omega, by omega, by omega, ?_⟩
    · show (y : Int) + (σ : Int) * -(c : Int) = _; rw [s3]; omega
    · show (y : Int) + (σ : Int) * (d : Int) = _; rw [s2]; omega
    · show (x : Int) + (σ : Int) * (a : Int) = _; rw [s2]; omega
    · show (x : Int) + (σ : Int) * -(b : Int) = _; rw [s3]; omega
    · intro k h1 h2 h3 h4
      exact ⟨fun _ => ⟨by omega, h3, h4⟩, fun h => (by cases h), fin h3 (by omega) (by omega), by omega⟩
  · obtain ⟨_, _, _, _, g5, g6, _⟩ := hu rfl
    refine ⟨y + σ * c, y - σ * d, x - σ * a, x + σ * b, ?_, ?_, ?_, ?_, by omega, by omega, by omega, by omega, ?_⟩
    · show (y : Int) + (σ : Int) * (c : Int) = _; rw [s2]; omega
    · show (y : Int) + (σ : Int) * -(d : Int) = _; rw [s3]; omega
    · show (x : Int) + (σ : Int) * -(a : Int) = _; rw [s3]; omega
    · show (x : Int) + (σ : Int) * (b : Int) = _; rw [s2]; omega
    · intro k h1 h2 h3 h4
      exact ⟨fun h => (by cases h), fun _ => ⟨by omega, h4, h3⟩, fin h4 (by omega) (by omega), by omega⟩

/-- the signed cells of a matrix -/
def mA (m : EMat) : Int := sg m.ng m.a
def mB (m : EMat) : Int := sg (!m.ng) m.b
def mC (m : EMat) : Int := sg (!m.ng) m.c
def mD (m : EMat) : Int := sg m.ng m.d
theorem m_next (m : EMat) (k : Nat) : mA (mNext m k) = mC m ∧ mB (mNext m k) = mD m ∧ mC (mNext m k) = mA m - (k : Int) * mC m ∧ mD (mNext m k) = mB m - (k : Int) * mD m := by
  obtain ⟨a, b, c, d, n⟩ := m
  refine ⟨?_, ?_, ?_, ?_⟩
  · rfl
  · show sg (!!n) d = sg n d; rw [Bool.not_not]
  · show sg (!!n) (a + k * c) = _; rw [Bool.not_not]; exact sg_step n a c k
  · show sg (!n) (b + k * d) = _
    have := sg_step (!n) b d k
    rw [Bool.not_not] at this
    exact this
/-- one step of walk's loop, all that its walk asks -/
structure WStep (C σ X Y x0 y0 r t : Nat) (s : ESt) (x y : Nat) (va vb vc vd : Int) : Prop where
  ex : ∃ m P Q, va = mA m ∧ vb = mB m ∧ vc = mC m ∧ vd = mD m ∧ WInv C σ X Y x0 y0 r t s m x y P Q
theorem wstep_start {C σ X Y x0 y0 r t : Nat} {s : ESt} (hx : Lead C σ X x0 r) (hy : Lead C σ Y y0 t) (hp : s.p = X) (hq : s.q = Y) : WStep C σ X Y x0 y0 r t s x0 y0 1 0 0 1 :=
  ⟨eId, X, Y, rfl, rfl, rfl, rfl, wInv_start hx hy hp hq⟩
theorem natAbs_m (m : EMat) : (mA m).natAbs = m.a ∧ (mB m).natAbs = m.b ∧ (mC m).natAbs = m.c ∧ (mD m).natAbs = m.d := ⟨natAbs_sg _ _, natAbs_sg _ _, natAbs_sg _ _, natAbs_sg _ _⟩
theorem wstep_nums {C σ X Y x0 y0 r t M : Nat} {s : ESt} {x y : Nat} {va vb vc vd : Int} (h : WStep C σ X Y x0 y0 r t s x y va vb vc vd) (hx : x0 ≤ M) (hy : y0 ≤ M) (hM : 1 ≤ M) (hYs : Y = s.q) :
    x ≤ M ∧ y ≤ M ∧ va.natAbs ≤ M ∧ vb.natAbs ≤ M ∧ vc.natAbs ≤ M ∧ vd.natAbs ≤ M ∧ ∃ E1 E2 E3 E4 : Nat,
      (y : Int) + (σ : Int) * vc = E1 ∧ (y : Int) + (σ : Int) * vd = E2 ∧ (x : Int) + (σ : Int) * va = E3 ∧ (x : Int) + (σ : Int) * vb = E4 ∧
      E1 ≤ M + M ∧ E2 ≤ M + M ∧ E3 ≤ M + M ∧ E4 ≤ M + M ∧
      (∀ k, E1 ≠ 0 → E2 ≠ 0 → E3 / E1 = k → E4 / E2 = k → k * y ≤ x ∧ x - k * y < y ∧ ((k : Int) * vc).natAbs ≤ M + M ∧ ((k : Int) * vd).natAbs ≤ M + M ∧ (va - k * vc).natAbs ≤ M ∧ (vb - k * vd).natAbs ≤ M ∧ WStep C σ X Y x0 y0 r t s y (x - k * y) vc vd (va - k * vc) (vb - k * vd)) := by
  obtain ⟨m, P, Q, rfl, rfl, rfl, rfl, h⟩ := h
  obtain ⟨kx, ky, ka, kb, kc, kd, E1, E2, E3, E4, e1, e2, e3, e4, l1, l2, l3, l4, hk⟩ := walk_nums h hx hy hM
  obtain ⟨n1, n2, n3, n4⟩ := natAbs_m m
  refine ⟨kx, ky, by omega, by omega, by omega, by omega, E1, E2, E3, E4, e1, e2, e3, e4, l1, l2, l3, l4, ?_⟩
  intro k h1 h2 h3 h4
  obtain ⟨c1, c2, c3, c4⟩ := hk k h1 h2 h3 h4
  obtain ⟨w1, w2⟩ := wInv_step h hYs c1 c2
  obtain ⟨f1, f2, f3, f4⟩ := m_next m k
  obtain ⟨p1, p2, p3, p4⟩ := natAbs_m (mNext m k)
  obtain ⟨_, _, b3, b4⟩ := w2.bd M hx hy hM
  rw [Nat.add_mul, Nat.one_mul] at c3
  have q1 : (mA m - (k : Int) * mC m).natAbs ≤ M := by rw [← f3, p3]; exact b3
  have q2 : (mB m - (k : Int) * mD m).natAbs ≤ M := by rw [← f4, p4]; exact b4
  exact ⟨w1, by omega, by omega, by omega, q1, q2, mNext m k, Q, P % Q, f1.symm, f2.symm, f3.symm, f4.symm, w2⟩

/-- what three rows' numbers are: Euclid's rows, signed -/
def r1 (s : ESt) : Int := sg s.ng s.a
def r2 (s : ESt) : Int := sg (!s.ng) s.b
def r3 (s : ESt) : Int := sg (!s.ng) s.c
def r4 (s : ESt) : Int := sg s.ng s.d
theorem natAbs_r (s : ESt) : (r1 s).natAbs = s.a ∧ (r2 s).natAbs = s.b ∧ (r3 s).natAbs = s.c ∧ (r4 s).natAbs = s.d := ⟨natAbs_sg _ _, natAbs_sg _ _, natAbs_sg _ _, natAbs_sg _ _⟩
theorem sg_mulm (m n : Bool) (x y : Nat) : sg m x * sg n y = sg (m != n) (x * y) := sg_mul m n x y
theorem mix1 (m n : Bool) (a b c d : Nat) : sg m a * sg n b + sg (!m) c * sg (!n) d = sg (n != m) (a * b + c * d) := by
  cases m <;> cases n <;> simp [sg, Int.natCast_add, Int.natCast_mul, Int.mul_neg, Int.neg_mul, Int.neg_add]
/-- what a matrix makes of rows, cell by cell -/
theorem mix_cells (m : EMat) (s : ESt) (P Q : Nat) : mA m * r1 s + mB m * r3 s = r1 (eMix m s P Q) ∧ mA m * r2 s + mB m * r4 s = r2 (eMix m s P Q) ∧ mC m * r1 s + mD m * r3 s = r3 (eMix m s P Q) ∧ mC m * r2 s + mD m * r4 s = r4 (eMix m s P Q) := by
  obtain ⟨a, b, c, d, n⟩ := m
  obtain ⟨p, q, a', b', c', d', n'⟩ := s
  simp only [mA, mB, mC, mD, r1, r2, r3, r4, eMix]
  refine ⟨?_, ?_, ?_, ?_⟩
  · exact mix1 n n' a a' b c'
  · have := mix1 n (!n') a b' b d'
    rw [Bool.not_not] at this
    rw [this]; cases n <;> cases n' <;> rfl
  · have := mix1 (!n) n' c a' d c'
    rw [Bool.not_not] at this
    rw [this]; cases n <;> cases n' <;> rfl
  · have := mix1 (!n) (!n') c b' d d'
    rw [Bool.not_not, Bool.not_not] at this
    rw [this]; cases n <;> cases n' <;> rfl
/-- a product and a sum of two, all bounded -/
structure Mx (N : Nat) (x y f g z : Int) : Prop where
  up : (x * f).natAbs < N
  dn : (y * g).natAbs < N
  sm : x * f + y * g = z
  sn : z.natAbs < N
theorem mx_of {N A B : Nat} {x y f g z : Int} (e : x * f + y * g = z) (hu : (x * f).natAbs ≤ A) (hd : (y * g).natAbs ≤ B) (hA : A < N) (hB : B < N) (hz : z.natAbs < N) : Mx N x y f g z := ⟨by omega, by omega, e, hz⟩
theorem le_a {m : EMat} {s : ESt} {P Q : Nat} : m.a * s.a ≤ (eMix m s P Q).a ∧ m.b * s.c ≤ (eMix m s P Q).a ∧ m.a * s.b ≤ (eMix m s P Q).b ∧ m.b * s.d ≤ (eMix m s P Q).b ∧ m.c * s.a ≤ (eMix m s P Q).c ∧ m.d * s.c ≤ (eMix m s P Q).c ∧ m.c * s.b ≤ (eMix m s P Q).d ∧ m.d * s.d ≤ (eMix m s P Q).d :=
  ⟨Nat.le_add_right _ _, Nat.le_add_left _ _, Nat.le_add_right _ _, Nat.le_add_left _ _, Nat.le_add_right _ _, Nat.le_add_left _ _, Nat.le_add_right _ _, Nat.le_add_left _ _⟩
theorem p_le {A B : Nat} {s : ESt} (h : EInv A B s) : s.p ≤ max A B := by
  obtain ⟨_, h2, h3, h4, h5, _, _⟩ := h
  obtain ⟨p, q, a, b, c, d, n⟩ := s
  simp only at *
  rcases Nat.eq_zero_or_pos d with hd | hd
  · rcases Nat.eq_zero_or_pos c with hc | hc
    · subst hd hc
      have hq : q = 0 := by
        have : (q : Int) = 0 := by rw [h2]; simp [sg]
        omega
      subst hq
      simp only [Nat.zero_mul, Nat.mul_zero, Nat.add_zero] at h3 h4
      subst h3 h4
      simp at h5
      omega
    · have h6 : 1 * p ≤ c * p := Nat.mul_le_mul_right _ hc
      have h7 : B ≤ max A B := Nat.le_max_right _ _
      omega
  · have h6 : 1 * p ≤ d * p := Nat.mul_le_mul_right _ hd
    have h7 : A ≤ max A B := Nat.le_max_left _ _
    omega
/-- the walk's end, where it has moved: the next rows, with all that the six sums ask -/
theorem wstep_mix {N C σ X Y x0 y0 r t M A B : Nat} {s : ESt} {x y : Nat} {va vb vc vd : Int} (h : WStep C σ X Y x0 y0 r t s x y va vb vc vd) (hx : x0 ≤ M) (hy : y0 ≤ M) (hM : 1 ≤ M) (hX : s.p = X) (hY : s.q = Y) (hi : EInv A B s)
    (hmv : ¬ (va = 1 ∧ vb = 0 ∧ vc = 0 ∧ vd = 1)) (hA : max A 1 < N) (hB : max B 1 < N) (hXM : M * X < N) (hYM : M * Y < N) (hXN : X < N) :
    ∃ s' : ESt, EInv A B s' ∧ eEnd s' = eEnd s ∧ s'.q < s.q ∧
      Mx N va vb s.p s.q s'.p ∧ Mx N va vb (r1 s) (r3 s) (r1 s') ∧ Mx N va vb (r2 s) (r4 s) (r2 s') ∧
      Mx N vc vd s.p s.q s'.q ∧ Mx N vc vd (r1 s) (r3 s) (r3 s') ∧ Mx N vc vd (r2 s) (r4 s) (r4 s') := by
  obtain ⟨m, P, Q, rfl, rfl, rfl, rfl, h⟩ := h
  have hi' := h.inv A B hi
  obtain ⟨c1, c2, c3, c4⟩ := mix_cells m s P Q
  obtain ⟨n1, n2, n3, n4⟩ := natAbs_m m
  obtain ⟨q1, q2, q3, q4⟩ := natAbs_r s
  obtain ⟨p1, p2, p3, p4⟩ := natAbs_r (eMix m s P Q)
  obtain ⟨l1, l2, l3, l4, l5, l6, l7, l8⟩ := @le_a m s P Q
  obtain ⟨b1, b2⟩ := hi'.ab
  obtain ⟨b3, b4⟩ := hi'.cd
  obtain ⟨k1, k2, k3, k4⟩ := h.bd M hx hy hM
  have hlt : Q < Y := by
    rcases h.less with ⟨e, _, _⟩ | h
    · subst e; exact absurd ⟨rfl, rfl, rfl, rfl⟩ hmv
    · exact h
  have ePQ : (P : Int) = mA m * X + mB m * Y ∧ (Q : Int) = mC m * X + mD m * Y := by
    have hf := h.f; have hu := h.u
    obtain ⟨a, b, c, d, n⟩ := m
    cases n
    · obtain ⟨_, _, _, _, _, _, g7, g8⟩ := hf rfl
      simp only [mA, mB, mC, mD, sg, Bool.not_false, if_true, Bool.false_eq_true, if_false, Int.neg_mul]
      have g7' : ((P + b * Y : Nat) : Int) = ((a * X : Nat) : Int) := by rw [g7]
      have g8' : ((Q + c * X : Nat) : Int) = ((d * Y : Nat) : Int) := by rw [g8]
      rw [Int.natCast_add, Int.natCast_mul, Int.natCast_mul] at g7' g8'
      constructor <;> omega
    · obtain ⟨_, _, _, _, _, _, g7, g8⟩ := hu rfl
      simp only [mA, mB, mC, mD, sg, Bool.not_true, if_true, Bool.false_eq_true, if_false, Int.neg_mul]
      have g7' : ((P + a * X : Nat) : Int) = ((b * Y : Nat) : Int) := by rw [g7]
      have g8' : ((Q + d * Y : Nat) : Int) = ((c * X : Nat) : Int) := by rw [g8]
      rw [Int.natCast_add, Int.natCast_mul, Int.natCast_mul] at g7' g8'
      constructor <;> omega
  have hPX : P < N := Nat.lt_of_le_of_lt (p_le hi') (Nat.max_lt.2 ⟨Nat.lt_of_le_of_lt (Nat.le_max_left _ _) hA, Nat.lt_of_le_of_lt (Nat.le_max_left _ _) hB⟩)
  have hYN : Y < N := Nat.lt_of_le_of_lt (Nat.le_mul_of_pos_left _ hM) hYM
  have mul_le : ∀ (u : Int) (z : Nat), u.natAbs ≤ M → (u * (z : Int)).natAbs ≤ M * z := fun u z hu => by rw [Int.natAbs_mul, Int.natAbs_natCast]; exact Nat.mul_le_mul_right _ hu
  refine ⟨eMix m s P Q, hi', h.run, by show Q < s.q; omega, ?_, ?_, ?_, ?_, ?_, ?_⟩
  · rw [hX, hY]
    exact mx_of ePQ.1.symm (mul_le _ X (by omega)) (mul_le _ Y (by omega)) hXM hYM (by rw [Int.natAbs_natCast]; exact hPX)
  · exact mx_of c1 (by rw [Int.natAbs_mul, n1, q1]; exact Nat.le_trans l1 b1) (by rw [Int.natAbs_mul, n2, q3]; exact Nat.le_trans l2 b1) hB hB (by rw [p1]; omega)
  · exact mx_of c2 (by rw [Int.natAbs_mul, n1, q2]; exact Nat.le_trans l3 b2) (by rw [Int.natAbs_mul, n2, q4]; exact Nat.le_trans l4 b2) hA hA (by rw [p2]; omega)
  · rw [hX, hY]
    exact mx_of ePQ.2.symm (mul_le _ X (by omega)) (mul_le _ Y (by omega)) hXM hYM (by rw [Int.natAbs_natCast]; show Q < N; omega)
  · exact mx_of c3 (by rw [Int.natAbs_mul, n3, q1]; exact Nat.le_trans l5 b3) (by rw [Int.natAbs_mul, n4, q3]; exact Nat.le_trans l6 b3) hB hB (by rw [p3]; omega)
  · exact mx_of c4 (by rw [Int.natAbs_mul, n3, q2]; exact Nat.le_trans l7 b4) (by rw [Int.natAbs_mul, n4, q4]; exact Nat.le_trans l8 b4) hA hA (by rw [p4]; omega)
/-- a division step, with all that three sums ask -/
theorem div_mix {N A B : Nat} {s : ESt} (hi : EInv A B s) (hq : 0 < s.q) (hA : max A 1 < N) (hB : max B 1 < N) (hp : s.p < N) (hqN : s.q < N) :
    EInv A B (eNext s) ∧ eEnd (eNext s) = eEnd s ∧ (eNext s).q < s.q ∧ (eNext s).p = s.q ∧ r1 (eNext s) = r3 s ∧ r2 (eNext s) = r4 s ∧ qC s.p s.q = ((s.p / s.q : Nat) : Int) ∧
      Mx N 1 (-((s.p / s.q : Nat) : Int)) s.p s.q (eNext s).q ∧ Mx N 1 (-((s.p / s.q : Nat) : Int)) (r1 s) (r3 s) (r3 (eNext s)) ∧ Mx N 1 (-((s.p / s.q : Nat) : Int)) (r2 s) (r4 s) (r4 (eNext s)) := by
  have hi' := eInv_next hi hq
  obtain ⟨q1, q2, q3, q4⟩ := natAbs_r s
  obtain ⟨p1, p2, p3, p4⟩ := natAbs_r (eNext s)
  obtain ⟨b1, b2⟩ := hi.ab
  obtain ⟨b3, b4⟩ := hi'.cd
  have hm := Nat.mod_add_div s.p s.q
  have hl := Nat.mod_lt s.p hq
  have hc : (eNext s).c = s.a + s.p / s.q * s.c := rfl
  have hd : (eNext s).d = s.b + s.p / s.q * s.d := rfl
  have e3 : 1 * r1 s + -((s.p / s.q : Nat) : Int) * r3 s = r3 (eNext s) := by
    have h := sg_step s.ng s.a s.c (s.p / s.q)
    show _ = sg (!!s.ng) (s.a + s.p / s.q * s.c)
    rw [Bool.not_not, h, Int.one_mul, Int.neg_mul]
    show sg s.ng s.a + _ = _
    unfold r3; omega
  have e4 : 1 * r2 s + -((s.p / s.q : Nat) : Int) * r4 s = r4 (eNext s) := by
    have h := sg_step (!s.ng) s.b s.d (s.p / s.q)
    show _ = sg (!s.ng) (s.b + s.p / s.q * s.d)
    rw [Bool.not_not] at h
    rw [h, Int.one_mul, Int.neg_mul]
    show sg (!s.ng) s.b + _ = _
    unfold r4; omega
  have eq : 1 * (s.p : Int) + -((s.p / s.q : Nat) : Int) * (s.q : Int) = ((eNext s).q : Int) := by
    show _ = ((s.p % s.q : Nat) : Int)
    rw [Int.one_mul, Int.neg_mul]
    have h : ((s.p % s.q + s.q * (s.p / s.q) : Nat) : Int) = (s.p : Int) := by rw [hm]
    rw [Int.natCast_add, Int.natCast_mul, Int.mul_comm (s.q : Int)] at h
    omega
  have na : (-((s.p / s.q : Nat) : Int)).natAbs = s.p / s.q := by rw [Int.natAbs_neg, Int.natAbs_natCast]
  have hdm : s.p / s.q * s.q ≤ s.p := Nat.div_mul_le_self _ _
  refine ⟨hi', eEnd_next hq, hl, rfl, rfl, by show sg (!!s.ng) s.d = sg s.ng s.d; rw [Bool.not_not], ?_, ?_, ?_, ?_⟩
  · unfold qC
    rw [sgn_nat, sgn_nat, Int.natAbs_natCast, Int.natAbs_natCast]; rfl
  · exact mx_of eq (A := s.p) (B := s.p) (by rw [Int.one_mul, Int.natAbs_natCast]; exact Nat.le_refl _) (by rw [Int.natAbs_mul, na, Int.natAbs_natCast]; exact hdm) hp hp (by rw [Int.natAbs_natCast]; show s.p % s.q < N; omega)
  · exact mx_of e3 (by rw [Int.one_mul, q1]; exact b1) (B := max B 1) (by rw [Int.natAbs_mul, na, q3]; omega) hB hB (by rw [p3]; omega)
  · exact mx_of e4 (by rw [Int.one_mul, q2]; exact b2) (B := max A 1) (by rw [Int.natAbs_mul, na, q4]; omega) hA hA (by rw [p4]; omega)
end Go.Proofs.YtkbfgbkhhfligaaGreatDoor.Mth

/- The highest 62 digits of two numbers, and what walk's steps by them are good for: plain mathematics for package whole's Extended. -/
namespace Go.Proofs.YtkbfgbkhhfligaaGreatDoor.Mth

theorem lt_bl (n : Nat) : n < 2 ^ bl n := by
  by_cases h : n = 0
  · subst h; exact Nat.two_pow_pos _
  · obtain ⟨m, e, _, h2⟩ := bl_spec h
    rw [e]; exact h2
theorem lt_of_bl {n L : Nat} (h : bl n ≤ L) : n < 2 ^ L := Nat.lt_of_lt_of_le (lt_bl n) (Nat.pow_le_pow_right (by omega) h)
def Mq : Nat := 4611686018427387903
theorem mq_pow : Mq < 2 ^ 62 := by unfold Mq; omega
/-- how many digits both have, at most; how many of them are left out; whether any is -/
def lnE (s : ESt) : Nat := max (bl s.p) (bl s.q)
def ctE (s : ESt) : Nat := lnE s - 62
theorem lead_of {X c : Nat} (h : bl X ≤ c + 62) : Lead (2 ^ c) (min c 1) X (X / 2 ^ c) (X % 2 ^ c) ∧ X / 2 ^ c ≤ Mq := by
  have hp : 0 < 2 ^ c := Nat.two_pow_pos c
  refine ⟨⟨(Nat.div_add_mod' X (2 ^ c)).symm, Nat.mod_lt _ hp, ?_, Nat.min_le_right _ _⟩, ?_⟩
  · intro h0
    have : c = 0 := by omega
    subst this
    simp [Nat.mod_one]
  · have h1 : X < 2 ^ (c + 62) := lt_of_bl h
    rw [Nat.pow_add, Nat.mul_comm] at h1
    have := Nat.div_lt_of_lt_mul (show X < 2 ^ c * 2 ^ 62 by rw [Nat.mul_comm]; exact h1)
    unfold Mq; omega
theorem mul_big {X L m M : Nat} (h : bl X ≤ L) (hM : M < 2 ^ 62) (hL : L + 62 ≤ 64 * m) : M * X < (2 ^ 64) ^ m := by
  have h1 := lt_of_bl h
  have h2 : M * X < 2 ^ 62 * 2 ^ L := Nat.mul_lt_mul_of_lt_of_le hM (Nat.le_of_lt h1) (Nat.two_pow_pos L)
  rw [← Nat.pow_add] at h2
  rw [← Nat.pow_mul]
  exact Nat.lt_of_lt_of_le h2 (Nat.pow_le_pow_right (by omega) (by omega))
theorem b64_two : B64 = 2 ^ 64 := rfl
theorem mul_bigB {X L M : Nat} (h : bl X ≤ L) (hM : M < 2 ^ 62) (hL : L + 62 ≤ 64 * maxL) : M * X < Big := by
  have := mul_big (m := maxL) h hM hL
  rw [← b64_two] at this
  exact this
/-- what sureSteps answers: factors that are no steps, or steps that many of Euclid's come to -/
structure Sure (s : ESt) (va vb vc vd : Int) : Prop where
  bd : va.natAbs ≤ Mq ∧ vb.natAbs ≤ Mq ∧ vc.natAbs ≤ Mq ∧ vd.natAbs ≤ Mq
  go : ¬ (va = 1 ∧ vb = 0 ∧ vc = 0 ∧ vd = 1) → ∀ A B, EInv A B s → max A 1 < Big → max B 1 < Big → ∃ s' : ESt, EInv A B s' ∧ eEnd s' = eEnd s ∧ s'.q < s.q ∧
      Mx Big va vb s.p s.q s'.p ∧ Mx Big va vb (r1 s) (r3 s) (r1 s') ∧ Mx Big va vb (r2 s) (r4 s) (r2 s') ∧
      Mx Big vc vd s.p s.q s'.q ∧ Mx Big vc vd (r1 s) (r3 s) (r3 s') ∧ Mx Big vc vd (r2 s) (r4 s) (r4 s')
theorem sure_no (s : ESt) : Sure s 1 0 0 1 := ⟨by unfold Mq; omega, fun h => absurd ⟨rfl, rfl, rfl, rfl⟩ h⟩
theorem bl_lnE (s : ESt) : bl s.p ≤ lnE s ∧ bl s.q ≤ lnE s := ⟨Nat.le_max_left _ _, Nat.le_max_right _ _⟩
theorem sure_of {s : ESt} {x y : Nat} {va vb vc vd : Int} (hm : lnE s + 62 ≤ 64 * maxL) (h : WStep (2 ^ ctE s) (min (ctE s) 1) s.p s.q (s.p / 2 ^ ctE s) (s.q / 2 ^ ctE s) (s.p % 2 ^ ctE s) (s.q % 2 ^ ctE s) s x y va vb vc vd) : Sure s va vb vc vd := by
  obtain ⟨b1, b2⟩ := bl_lnE s
  have hc : lnE s ≤ ctE s + 62 := by unfold ctE; omega
  obtain ⟨_, m1⟩ := lead_of (X := s.p) (c := ctE s) (by omega)
  obtain ⟨_, m2⟩ := lead_of (X := s.q) (c := ctE s) (by omega)
  have hM : 1 ≤ Mq := by unfold Mq; omega
  obtain ⟨_, _, k1, k2, k3, k4, _⟩ := wstep_nums h m1 m2 hM rfl
  refine ⟨⟨k1, k2, k3, k4⟩, fun hmv A B hi hA hB => ?_⟩
  have e1 := mul_bigB b1 mq_pow hm
  have e2 := mul_bigB b2 mq_pow hm
  exact wstep_mix h m1 m2 hM rfl rfl hi hmv hA hB e1 e2 (Nat.lt_of_le_of_lt (Nat.le_mul_of_pos_left _ hM) e1)
theorem sure_start (s : ESt) : WStep (2 ^ ctE s) (min (ctE s) 1) s.p s.q (s.p / 2 ^ ctE s) (s.q / 2 ^ ctE s) (s.p % 2 ^ ctE s) (s.q % 2 ^ ctE s) s (s.p / 2 ^ ctE s) (s.q / 2 ^ ctE s) 1 0 0 1 := by
  obtain ⟨b1, b2⟩ := bl_lnE s
  have hc : lnE s ≤ ctE s + 62 := by unfold ctE; omega
  exact wstep_start (lead_of (by omega)).1 (lead_of (by omega)).1 rfl rfl
/-- all that a round of walk's loop asks -/
theorem sure_round {s : ESt} {x y : Nat} {va vb vc vd : Int} (h : WStep (2 ^ ctE s) (min (ctE s) 1) s.p s.q (s.p / 2 ^ ctE s) (s.q / 2 ^ ctE s) (s.p % 2 ^ ctE s) (s.q % 2 ^ ctE s) s x y va vb vc vd) :
    x ≤ Mq ∧ y ≤ Mq ∧ va.natAbs ≤ Mq ∧ vb.natAbs ≤ Mq ∧ vc.natAbs ≤ Mq ∧ vd.natAbs ≤ Mq ∧ ∃ E1 E2 E3 E4 : Nat,
      (y : Int) + ((min (ctE s) 1 : Nat) : Int) * vc = E1 ∧ (y : Int) + ((min (ctE s) 1 : Nat) : Int) * vd = E2 ∧ (x : Int) + ((min (ctE s) 1 : Nat) : Int) * va = E3 ∧ (x : Int) + ((min (ctE s) 1 : Nat) : Int) * vb = E4 ∧
      E1 ≤ Mq + Mq ∧ E2 ≤ Mq + Mq ∧ E3 ≤ Mq + Mq ∧ E4 ≤ Mq + Mq ∧
      (∀ k, E1 ≠ 0 → E2 ≠ 0 → E3 / E1 = k → E4 / E2 = k → k * y ≤ x ∧ x - k * y < y ∧ ((k : Int) * vc).natAbs ≤ Mq + Mq ∧ ((k : Int) * vd).natAbs ≤ Mq + Mq ∧ (va - k * vc).natAbs ≤ Mq ∧ (vb - k * vd).natAbs ≤ Mq ∧
        WStep (2 ^ ctE s) (min (ctE s) 1) s.p s.q (s.p / 2 ^ ctE s) (s.q / 2 ^ ctE s) (s.p % 2 ^ ctE s) (s.q % 2 ^ ctE s) s y (x - k * y) vc vd (va - k * vc) (vb - k * vd)) := by
  obtain ⟨b1, b2⟩ := bl_lnE s
  have hc : lnE s ≤ ctE s + 62 := by unfold ctE; omega
  exact wstep_nums h (lead_of (by omega)).2 (lead_of (by omega)).2 (by unfold Mq; omega) rfl
end Go.Proofs.YtkbfgbkhhfligaaGreatDoor.Mth
