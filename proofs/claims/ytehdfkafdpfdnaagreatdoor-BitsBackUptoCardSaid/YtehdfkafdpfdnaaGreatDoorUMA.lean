/- Math ArithMath AddMath MulMath Digits LenMath ShiftMath DivMath QuoMath QuoHMath TextMath ZMath Euc ZLaws EA EB. -/
import Derived.PlainAid
import Derived.Lib.BitFns
import Derived.Lib.ItoaNum
set_option linter.unusedVariables false
set_option linter.unusedSimpArgs false
/-
  Plain mathematics of numbers as lists of limbs, the lowest first: no program, no memory.
-/
namespace Go.Proofs.YtehdfkafdpfdnaaGreatDoor.Mth

/-- the bases; plain names, so that no walk writes the numerals out -/
def B64 : Nat := 18446744073709551616
def B16 : Nat := 65536
theorem B64_pos : 1 < B64 := by unfold B64; omega
theorem B16_pos : 1 < B16 := by unfold B16; omega

/-- the number of a list of limbs in base B -/
def val (B : Nat) : List Nat → Nat
  | [] => 0
  | x :: r => x + B * val B r

/-- every limb is below B -/
def Lim (B : Nat) (xs : List Nat) : Prop := ∀ j, xs.getD j 0 < B

theorem lim_cons {B x : Nat} {r : List Nat} : Lim B (x :: r) ↔ x < B ∧ Lim B r := by
  constructor
  · intro h
    exact ⟨by simpa using h 0, fun j => by simpa using h (j + 1)⟩
  · rintro ⟨h1, h2⟩ j
    cases j with
    | zero => simpa using h1
    | succ j => simpa using h2 j
theorem lim_nil {B : Nat} (h : 0 < B) : Lim B [] := fun j => by simpa using h
theorem getD_take (xs : List Nat) (n j : Nat) : (xs.take n).getD j 0 = if j < n then xs.getD j 0 else 0 := by
  simp only [List.getD_eq_getElem?_getD, List.getElem?_take]
  split <;> simp
theorem getD_drop (xs : List Nat) (n j : Nat) : (xs.drop n).getD j 0 = xs.getD (n + j) 0 := by
  simp only [List.getD_eq_getElem?_getD, List.getElem?_drop]
theorem getD_ge (xs : List Nat) (j : Nat) (h : xs.length ≤ j) : xs.getD j 0 = 0 := by
  simp [List.getD_eq_getElem?_getD, List.getElem?_eq_none h]
theorem lim_take {B : Nat} {xs : List Nat} (hB : 0 < B) (h : Lim B xs) (n : Nat) : Lim B (xs.take n) := by
  intro j; rw [getD_take]; split
  · exact h j
  · exact hB
theorem val_append (B : Nat) (xs ys : List Nat) : val B (xs ++ ys) = val B xs + B ^ xs.length * val B ys := by
  induction xs with
  | nil => simp [val]
  | cons x r ih => simp only [List.cons_append, val, ih, List.length_cons, Nat.pow_succ, Nat.mul_add]; rw [Nat.mul_comm (B ^ r.length) B, Nat.mul_assoc]; omega
theorem val_split (B : Nat) (xs : List Nat) (n : Nat) (h : n ≤ xs.length) : val B xs = val B (xs.take n) + B ^ n * val B (xs.drop n) := by
  have := val_append B (xs.take n) (xs.drop n)
  rw [List.take_append_drop, List.length_take, Nat.min_eq_left h] at this
  exact this
theorem val_lt {B : Nat} {xs : List Nat} (h : Lim B xs) : val B xs < B ^ xs.length := by
  induction xs with
  | nil => simp [val]
  | cons x r ih =>
    obtain ⟨h1, h2⟩ := lim_cons.1 h
    have := ih h2
    simp only [val, List.length_cons, Nat.pow_succ]
    have h3 : B * (val B r + 1) ≤ B * B ^ r.length := Nat.mul_le_mul_left _ this
    rw [Nat.mul_add, Nat.mul_one] at h3
    rw [Nat.mul_comm (B ^ r.length) B]
    omega
theorem val_take_lt {B : Nat} {xs : List Nat} (hB : 0 < B) (h : Lim B xs) (n : Nat) (hn : n ≤ xs.length) : val B (xs.take n) < B ^ n := by
  have := val_lt (lim_take hB h n)
  rwa [List.length_take, Nat.min_eq_left hn] at this
theorem drop_cons {xs : List Nat} {n : Nat} (h : n < xs.length) : xs.drop n = xs.getD n 0 :: xs.drop (n + 1) := by
  rw [List.drop_eq_getElem_cons h]; simp [List.getD_eq_getElem?_getD, h]
theorem take_snoc {xs : List Nat} {n : Nat} (h : n < xs.length) : xs.take (n + 1) = xs.take n ++ [xs.getD n 0] := by
  rw [List.take_succ_eq_append_getElem h]; simp [List.getD_eq_getElem?_getD, h]
theorem val_take_succ (B : Nat) (xs : List Nat) (n : Nat) (h : n < xs.length) : val B (xs.take (n + 1)) = val B (xs.take n) + B ^ n * xs.getD n 0 := by
  rw [take_snoc h, val_append, List.length_take, Nat.min_eq_left (by omega)]; simp [val]
theorem val_drop (B : Nat) (xs : List Nat) (n : Nat) (h : n < xs.length) : val B (xs.drop n) = xs.getD n 0 + B * val B (xs.drop (n + 1)) := by
  rw [drop_cons h]; rfl

/-- all limbs are 0 from n on -/
theorem val_zero {B : Nat} {xs : List Nat} (h : ∀ j, xs.getD j 0 = 0) : val B xs = 0 := by
  induction xs with
  | nil => rfl
  | cons x r ih =>
    have h0 : x = 0 := by simpa using h 0
    have := ih (fun j => by simpa using h (j + 1))
    simp [val, h0, this]
theorem zero_of_val {B : Nat} (hB : 0 < B) {xs : List Nat} (h : val B xs = 0) : ∀ j, xs.getD j 0 = 0 := by
  induction xs with
  | nil => intro j; simp
  | cons x r ih =>
    simp only [val] at h
    have h2 : val B r = 0 := by
      rcases Nat.eq_zero_or_pos (val B r) with h0 | h0
      · exact h0
      · have := Nat.mul_pos hB h0; omega
    intro j
    cases j with
    | zero => simp; omega
    | succ j => simpa using ih h2 j
theorem val_take_zero {B : Nat} {xs : List Nat} {n : Nat} (h : ∀ j, n ≤ j → xs.getD j 0 = 0) : val B (xs.take n) = val B xs := by
  by_cases hn : n ≤ xs.length
  · rw [val_split B xs n hn, val_zero (xs := xs.drop n) (fun j => by rw [getD_drop]; exact h _ (by omega))]; simp
  · rw [List.take_of_length_le (by omega)]

/-- how many limbs are left when the zeros on top are taken off -/
def tlen : List Nat → Nat
  | [] => 0
  | x :: r => if tlen r = 0 then (if x = 0 then 0 else 1) else tlen r + 1
theorem tlen_le (xs : List Nat) : tlen xs ≤ xs.length := by
  induction xs with
  | nil => simp [tlen]
  | cons x r ih => simp only [tlen, List.length_cons]; split <;> (try split) <;> omega
theorem tlen_zero (xs : List Nat) : ∀ j, tlen xs ≤ j → xs.getD j 0 = 0 := by
  induction xs with
  | nil => intro j _; simp
  | cons x r ih =>
    intro j hj
    simp only [tlen] at hj
    cases j with
    | zero =>
      split at hj
      · split at hj
        · simpa using ‹x = 0›
        · omega
      · omega
    | succ j =>
      have := ih j (by split at hj <;> (try split at hj) <;> omega)
      simpa using this
theorem tlen_top (xs : List Nat) (h : 0 < tlen xs) : xs.getD (tlen xs - 1) 0 ≠ 0 := by
  induction xs with
  | nil => simp [tlen] at h
  | cons x r ih =>
    simp only [tlen] at h ⊢
    split at h
    · rename_i h0
      rw [if_pos h0]
      split at h
      · omega
      · rename_i hx
        rw [if_neg hx]; simpa using hx
    · rename_i h0
      rw [if_neg h0]
      have := ih (by omega)
      have e : tlen r + 1 - 1 = (tlen r - 1) + 1 := by omega
      rw [e]; simpa using this
theorem tlen_eq {xs : List Nat} {n : Nat} (h0 : ∀ j, n ≤ j → xs.getD j 0 = 0) (h1 : n = 0 ∨ xs.getD (n - 1) 0 ≠ 0) : tlen xs = n := by
  rcases Nat.lt_trichotomy (tlen xs) n with h | h | h
  · rcases h1 with h1 | h1
    · omega
    · exact absurd (tlen_zero xs (n - 1) (by omega)) h1
  · exact h
  · exact absurd (h0 (tlen xs - 1) (by omega)) (tlen_top xs (by omega))

/-- no zeros on top -/
def Top (xs : List Nat) : Prop := tlen xs = xs.length
/-- the list without the zeros on top -/
def trimL (xs : List Nat) : List Nat := xs.take (tlen xs)
theorem length_trimL (xs : List Nat) : (trimL xs).length = tlen xs := by
  rw [trimL, List.length_take, Nat.min_eq_left (tlen_le xs)]
theorem getD_trimL (xs : List Nat) (j : Nat) : (trimL xs).getD j 0 = xs.getD j 0 := by
  rw [trimL, getD_take]; split
  · rfl
  · exact (tlen_zero xs j (by omega)).symm
theorem val_trimL (B : Nat) (xs : List Nat) : val B (trimL xs) = val B xs := val_take_zero (tlen_zero xs)
theorem top_trimL (xs : List Nat) : Top (trimL xs) := by
  unfold Top
  rw [length_trimL]
  refine tlen_eq (fun j hj => by rw [getD_trimL]; exact tlen_zero xs j hj) ?_
  rcases Nat.eq_zero_or_pos (tlen xs) with h | h
  · exact .inl h
  · exact .inr (by rw [getD_trimL]; exact tlen_top xs h)
theorem lim_trimL {B : Nat} {xs : List Nat} (h : Lim B xs) : Lim B (trimL xs) := fun j => by rw [getD_trimL]; exact h j
theorem trimL_of_top {xs : List Nat} (h : Top xs) : trimL xs = xs := by
  unfold trimL; rw [h]; simp

theorem val_ge {B : Nat} {xs : List Nat} {n : Nat} (h : xs.getD n 0 ≠ 0) : B ^ n ≤ val B xs := by
  have hn : n < xs.length := by
    rcases Nat.lt_or_ge n xs.length with h1 | h1
    · exact h1
    · exact absurd (getD_ge xs n h1) h
  rw [val_split B xs n (by omega), val_drop B xs n hn]
  have : B ^ n * 1 ≤ B ^ n * (xs.getD n 0 + B * val B (xs.drop (n + 1))) := Nat.mul_le_mul_left _ (by omega)
  omega
theorem val_ge_top {B : Nat} {xs : List Nat} (h : Top xs) (hp : 0 < xs.length) : B ^ (xs.length - 1) ≤ val B xs := by
  refine val_ge ?_
  have := tlen_top xs (by rw [h]; exact hp)
  rwa [h] at this

/-- canonical lists of one number are one list -/
theorem list_uniq {B : Nat} (hB : 0 < B) : ∀ {xs ys : List Nat}, Lim B xs → Lim B ys → xs.length = ys.length → val B xs = val B ys → xs = ys
  | [], [], _, _, _, _ => rfl
  | [], _ :: _, _, _, hl, _ => by simp at hl
  | _ :: _, [], _, _, hl, _ => by simp at hl
  | x :: r, y :: s, hx, hy, hl, hv => by
    obtain ⟨hx1, hx2⟩ := lim_cons.1 hx
    obtain ⟨hy1, hy2⟩ := lim_cons.1 hy
    simp only [val] at hv
    have e1 : (x + B * val B r) % B = x := by rw [Nat.add_mul_mod_self_left, Nat.mod_eq_of_lt hx1]
    have e2 : (y + B * val B s) % B = y := by rw [Nat.add_mul_mod_self_left, Nat.mod_eq_of_lt hy1]
    have exy : x = y := by rw [← e1, hv, e2]
    subst exy
    have : B * val B r = B * val B s := by omega
    have := Nat.eq_of_mul_eq_mul_left hB this
    rw [list_uniq hB hx2 hy2 (by simpa using hl) this]
theorem length_of_val {B : Nat} (hB : 1 < B) {xs : List Nat} (ht : Top xs) (n : Nat) (h : val B xs < B ^ n) : xs.length ≤ n := by
  rcases Nat.lt_or_ge n xs.length with h1 | h1
  · have h2 := val_ge_top (B := B) ht (by omega)
    have h3 : B ^ n ≤ B ^ (xs.length - 1) := Nat.pow_le_pow_right (by omega) (by omega)
    omega
  · exact h1
theorem top_uniq {B : Nat} (hB : 1 < B) {xs ys : List Nat} (hx : Lim B xs) (hy : Lim B ys) (tx : Top xs) (ty : Top ys) (h : val B xs = val B ys) : xs = ys := by
  refine list_uniq (by omega) hx hy ?_ h
  have h1 := length_of_val hB tx ys.length (by rw [h]; exact val_lt hy)
  have h2 := length_of_val hB ty xs.length (by rw [← h]; exact val_lt hx)
  omega

/-- the order of two numbers, by the highest limbs that differ -/
theorem val_lt_of_top {B : Nat} (hB : 0 < B) {xs ys : List Nat} (hx : Lim B xs) {i : Nat} (hxi : i < xs.length) (hyi : i < ys.length)
    (hd : val B (xs.drop (i + 1)) = val B (ys.drop (i + 1))) (h : xs.getD i 0 < ys.getD i 0) : val B xs < val B ys := by
  rw [val_split B xs i (by omega), val_split B ys i (by omega), val_drop B xs i hxi, val_drop B ys i hyi, hd]
  have h1 := val_take_lt hB hx i (by omega)
  have h2 : B ^ i * (xs.getD i 0 + B * val B (ys.drop (i + 1)) + 1) ≤ B ^ i * (ys.getD i 0 + B * val B (ys.drop (i + 1))) := Nat.mul_le_mul_left _ (by omega)
  rw [Nat.mul_add, Nat.mul_one] at h2
  omega
theorem val_lt_of_length {B : Nat} (hB : 1 < B) {xs ys : List Nat} (hx : Lim B xs) (ty : Top ys) (h : xs.length < ys.length) : val B xs < val B ys := by
  have h1 := val_lt hx
  have h2 := val_ge_top (B := B) ty (by omega)
  have h3 : B ^ xs.length ≤ B ^ (ys.length - 1) := Nat.pow_le_pow_right (by omega) (by omega)
  omega

/-- -1, 0, 1 -/
def cmp3 (a b : Nat) : Int := if a < b then -1 else if b < a then 1 else 0

/-- limbs of 16 bits of limbs of 64 -/
def halves : List Nat → List Nat
  | [] => []
  | x :: r => x % 65536 :: x / 65536 % 65536 :: x / 4294967296 % 65536 :: x / 281474976710656 % 65536 :: halves r
theorem length_halves (xs : List Nat) : (halves xs).length = 4 * xs.length := by
  induction xs with
  | nil => rfl
  | cons x r ih => simp only [halves, List.length_cons, ih]; omega
theorem lim_halves (xs : List Nat) : Lim B16 (halves xs) := by
  unfold B16
  induction xs with
  | nil => exact lim_nil (by omega)
  | cons x r ih =>
    simp only [halves, lim_cons]
    exact ⟨by omega, by omega, by omega, by omega, ih⟩
theorem halves_append (xs ys : List Nat) : halves (xs ++ ys) = halves xs ++ halves ys := by
  induction xs with
  | nil => rfl
  | cons x r ih => simp [halves, ih]
theorem val_halves {xs : List Nat} (h : Lim B64 xs) : val B16 (halves xs) = val B64 xs := by
  unfold B16 B64 at *
  induction xs with
  | nil => rfl
  | cons x r ih =>
    obtain ⟨h1, h2⟩ := lim_cons.1 h
    have := ih h2
    simp only [halves, val, this]
    generalize val 18446744073709551616 r = v
    omega

/-- the halves of a product and of a sum; plain names, so that no walk takes them apart -/
def mHi (x y : Nat) : Nat := x * y / B64
def mLo (x y : Nat) : Nat := x * y % B64
def aLo (x y c : Nat) : Nat := (x + y + c) % B64
def aHi (x y c : Nat) : Nat := (x + y + c) / B64
def sLo (x y b : Nat) : Nat := (x + B64 - y - b) % B64
def sHi (x y b : Nat) : Nat := if x < y + b then 1 else 0
/-- x times y, and p -/
def pHi (x y p : Nat) : Nat := (x * y + p) / B64
def pLo (x y p : Nat) : Nat := (x * y + p) % B64
theorem mod64_lt (n : Nat) : n % B64 < B64 := Nat.mod_lt _ (by have := B64_pos; omega)
theorem aLo_lt (x y c : Nat) : aLo x y c < B64 := mod64_lt _
theorem pLo_lt (x y c : Nat) : pLo x y c < B64 := mod64_lt _
theorem sLo_lt (x y c : Nat) : sLo x y c < B64 := mod64_lt _
theorem aHi_le {x y c : Nat} (hx : x < B64) (hy : y < B64) (hc : c ≤ 1) : aHi x y c ≤ 1 := by
  have h : (x + y + c) / B64 < 2 := by rw [Nat.div_lt_iff_lt_mul (by have := B64_pos; omega)]; omega
  unfold aHi; omega
theorem a_eq (x y c : Nat) : aLo x y c + B64 * aHi x y c = x + y + c := Nat.mod_add_div _ _
theorem p_eq (x y p : Nat) : pLo x y p + B64 * pHi x y p = x * y + p := Nat.mod_add_div _ _
theorem m_eq (x y : Nat) : mLo x y + B64 * mHi x y = x * y := Nat.mod_add_div _ _
theorem sHi_le (x y b : Nat) : sHi x y b ≤ 1 := by unfold sHi; split <;> omega
theorem s_eq {x y b : Nat} (hx : x < B64) (hy : y < B64) (hb : b ≤ 1) : sLo x y b + y + b = x + B64 * sHi x y b := by
  unfold sLo sHi
  unfold B64 at *
  split <;> omega
theorem uniq64 {a b c d : Nat} (ha : a < B64) (hc : c < B64) (h : a + B64 * b = c + B64 * d) : a = c ∧ b = d := by
  have h1 : (a + B64 * b) % B64 = a := by rw [Nat.add_mul_mod_self_left, Nat.mod_eq_of_lt ha]
  have h2 : (c + B64 * d) % B64 = c := by rw [Nat.add_mul_mod_self_left, Nat.mod_eq_of_lt hc]
  have e : a = c := by rw [← h1, h, h2]
  subst e
  exact ⟨rfl, Nat.eq_of_mul_eq_mul_left (by have := B64_pos; omega : 0 < B64) (by omega)⟩
theorem pHi_lt {x y p : Nat} (hx : x < B64) (hy : y < B64) (hp : p < B64) : pHi x y p < B64 := by
  have hB : 0 < B64 := by have := B64_pos; omega
  unfold pHi
  rw [Nat.div_lt_iff_lt_mul hB]
  have h2 : x * y ≤ (B64 - 1) * (B64 - 1) := Nat.mul_le_mul (by omega) (by omega)
  have h3 : (B64 - 1) * (B64 - 1) + (B64 - 1) < B64 * B64 := by unfold B64; omega
  omega
/-- mulAdd by its two steps -/
theorem p_steps {x y p : Nat} : aLo (mLo x y) p 0 = pLo x y p ∧ mHi x y + aHi (mLo x y) p 0 = pHi x y p := by
  refine uniq64 (aLo_lt _ _ _) (pLo_lt _ _ _) ?_
  have e1 := a_eq (mLo x y) p 0
  have e2 := m_eq x y
  have e3 := p_eq x y p
  rw [Nat.mul_add]
  omega

theorem lim_set {B : Nat} {xs : List Nat} (h : Lim B xs) {x : Nat} (hx : x < B) (i : Nat) : Lim B (xs.set i x) := by
  intro j
  by_cases hi : i < xs.length
  · simp only [List.getD_eq_getElem?_getD, List.getElem?_set]
    split
    · subst_vars; simpa [hi] using hx
    · have := h j; simpa [List.getD_eq_getElem?_getD] using this
  · rw [List.set_eq_of_length_le (by omega)]; exact h j
theorem getD_set' (xs : List Nat) (i x j : Nat) (hi : i < xs.length) : (xs.set i x).getD j 0 = if j = i then x else xs.getD j 0 := by
  simp only [List.getD_eq_getElem?_getD, List.getElem?_set]
  split
  · subst_vars; simp only [if_true, Option.getD_some]
  · rename_i h; rw [if_neg (fun e => h e.symm)]
/-- lists that agree below n have the same first n limbs -/
theorem take_congr {xs ys : List Nat} {n : Nat} (hx : n ≤ xs.length) (hy : n ≤ ys.length) (h : ∀ j, j < n → xs.getD j 0 = ys.getD j 0) : xs.take n = ys.take n := by
  apply List.ext_getElem?
  intro j
  simp only [List.getElem?_take]
  split
  · rename_i hj
    have := h j hj
    rw [List.getElem?_eq_getElem (by omega), List.getElem?_eq_getElem (by omega)]
    simpa [List.getD_eq_getElem?_getD, show j < xs.length by omega, show j < ys.length by omega] using this
  · rfl
/-- the number of the n limbs from off on -/
def seg (R : List Nat) (off n : Nat) : Nat := val B64 ((R.drop off).take n)
theorem seg_zero (R : List Nat) (off : Nat) : seg R off 0 = 0 := by simp [seg, val]
theorem seg_succ (R : List Nat) (off n : Nat) (h : off + n < R.length) : seg R off (n + 1) = seg R off n + B64 ^ n * R.getD (off + n) 0 := by
  unfold seg
  rw [val_take_succ B64 _ n (by rw [List.length_drop]; omega), getD_drop]
theorem seg_congr {R R' : List Nat} {off n : Nat} (hl : R.length = R'.length) (h : ∀ j, off ≤ j → j < off + n → R.getD j 0 = R'.getD j 0) (hn : off + n ≤ R.length) : seg R off n = seg R' off n := by
  unfold seg
  rw [take_congr (ys := R'.drop off) (by rw [List.length_drop]; omega) (by rw [List.length_drop]; omega)]
  intro j hj
  rw [getD_drop, getD_drop]
  exact h _ (by omega) (by omega)

theorem seg_split (R : List Nat) (i n : Nat) (h : i + n ≤ R.length) : seg R 0 (i + n) = seg R 0 i + B64 ^ i * seg R i n := by
  induction n with
  | zero => simp [seg_zero]
  | succ n ih =>
    have h1 := seg_succ R 0 (i + n) (by omega)
    have h2 := seg_succ R i n (by omega)
    have h3 := ih (by omega)
    rw [Nat.zero_add] at h1
    rw [show i + (n + 1) = i + n + 1 from rfl, h1, h2, h3, Nat.mul_add, Nat.pow_add, Nat.mul_assoc]
    omega
theorem seg_all (R : List Nat) : seg R 0 R.length = val B64 R := by simp [seg]

theorem getD_replicate (n j : Nat) : (List.replicate n 0).getD j 0 = 0 := by
  simp only [List.getD_eq_getElem?_getD, List.getElem?_replicate]
  split <;> rfl
theorem pos_of_top {xs : List Nat} (h : Top xs) (hp : 0 < xs.length) : 0 < val B64 xs :=
  Nat.lt_of_lt_of_le (Nat.pow_pos (by have := B64_pos; omega)) (val_ge_top h hp)
theorem long_gen {m : Nat} {xs : List Nat} (hx : Lim B64 xs) : m < (trimL xs).length ↔ B64 ^ m ≤ val B64 xs := by
  constructor
  · intro h
    have h1 := val_ge_top (B := B64) (top_trimL xs) (by omega)
    rw [val_trimL] at h1
    exact Nat.le_trans (Nat.pow_le_pow_right (by have := B64_pos; omega) (by omega)) h1
  · intro h
    have h1 := val_lt (lim_trimL hx)
    rw [val_trimL] at h1
    rcases Nat.lt_or_ge m (trimL xs).length with h2 | h2
    · exact h2
    · have h3 : B64 ^ (trimL xs).length ≤ B64 ^ m := Nat.pow_le_pow_right (by have := B64_pos; omega) h2
      omega
/-- how many limbs a number may have -/
def maxL : Nat := 4096
/-- 2 to the 64 times 4096: the least number that is long -/
def Big : Nat := B64 ^ maxL
theorem long_iff {xs : List Nat} (hx : Lim B64 xs) : 4096 < (trimL xs).length ↔ Big ≤ val B64 xs := long_gen (m := maxL) hx
/-- what a call answers for the number n: the number and 0, or nothing and 5 -/
def cutN (n : Nat) : Nat := if Big ≤ n then 0 else n
def cutE (n : Nat) : Int := if Big ≤ n then 5 else 0
theorem cut_small {n : Nat} (h : n < Big) : cutN n = n ∧ cutE n = 0 := ⟨if_neg (by omega), if_neg (by omega)⟩
theorem cut_big {n : Nat} (h : Big ≤ n) : cutN n = 0 ∧ cutE n = 5 := ⟨if_pos h, if_pos h⟩
theorem one_lt_big : 1 < Big := by
  have h1 : B64 ^ 1 ≤ B64 ^ maxL := Nat.pow_le_pow_right (by have := B64_pos; omega) (by unfold maxL; omega)
  have h2 := B64_pos
  have h3 : Big = B64 ^ maxL := rfl
  rw [Nat.pow_one] at h1
  omega
/-- the k-th half of a limb -/
def hf (x k : Nat) : Nat := x / 65536 ^ k % 65536
def quad (x : Nat) : List Nat := [hf x 0, hf x 1, hf x 2, hf x 3]
theorem halves_one (x : Nat) : halves [x] = quad x := by
  simp only [halves, quad, hf]
  simp
theorem halves_take_succ {xs : List Nat} {k : Nat} (h : k < xs.length) : halves (xs.take (k + 1)) = halves (xs.take k) ++ quad (xs.getD k 0) := by
  rw [take_snoc h, halves_append, halves_one]
theorem quad_take (x m : Nat) (h : m < 4) : (quad x).take (m + 1) = (quad x).take m ++ [hf x m] := by
  have : m = 0 ∨ m = 1 ∨ m = 2 ∨ m = 3 := by omega
  rcases this with rfl | rfl | rfl | rfl <;> rfl
theorem b16_4 : B16 ^ 4 = B64 := by unfold B16 B64; rfl
theorem nil_iff {xs : List Nat} : (trimL xs).length = 0 ↔ val B64 xs = 0 := by
  rw [length_trimL]
  constructor
  · intro h; rw [← val_trimL]; simp [trimL, h, val]
  · intro h; exact tlen_eq (fun j _ => zero_of_val (by have := B64_pos; omega) h j) (.inl rfl)
end Go.Proofs.YtehdfkafdpfdnaaGreatDoor.Mth

/- Sums and differences limb by limb, in plain mathematics. -/
namespace Go.Proofs.YtehdfkafdpfdnaaGreatDoor.Mth

theorem b16_big : B16 ^ (4 * maxL) = Big := by
  rw [Nat.pow_mul, b16_4]; rfl
/-- is a number of halves long -/
theorem hlong_gen {m : Nat} {xs : List Nat} (hx : Lim B16 xs) (ht : Top xs) : m < xs.length ↔ B16 ^ m ≤ val B16 xs := by
  constructor
  · intro h
    have h1 := val_ge_top (B := B16) ht (by omega)
    exact Nat.le_trans (Nat.pow_le_pow_right (by have := B16_pos; omega) (by omega)) h1
  · intro h
    have h1 := val_lt hx
    rcases Nat.lt_or_ge m xs.length with h2 | h2
    · exact h2
    · have h3 : B16 ^ xs.length ≤ B16 ^ m := Nat.pow_le_pow_right (by have := B16_pos; omega) h2
      omega
theorem hlong_iff {xs : List Nat} (hx : Lim B16 xs) (ht : Top xs) : 16384 < xs.length ↔ Big ≤ val B16 xs := by
  have := hlong_gen (m := 4 * maxL) hx ht
  rw [b16_big] at this
  exact this
/-- the first n limbs of a list, with zeros behind its end -/
theorem val_take_succ' (B : Nat) (xs : List Nat) (n : Nat) : val B (xs.take (n + 1)) = val B (xs.take n) + B ^ n * xs.getD n 0 := by
  rcases Nat.lt_or_ge n xs.length with h | h
  · exact val_take_succ B xs n h
  · rw [List.take_of_length_le (by omega), List.take_of_length_le h, getD_ge xs n h]; simp
theorem val_snoc (B : Nat) (xs : List Nat) (x : Nat) : val B (xs ++ [x]) = val B xs + B ^ xs.length * x := by
  rw [val_append]; simp [val]
theorem lim_snoc {B : Nat} {xs : List Nat} (h : Lim B xs) {x : Nat} (hx : x < B) : Lim B (xs ++ [x]) := by
  intro j
  simp only [List.getD_eq_getElem?_getD, List.getElem?_append]
  split
  · have := h j; rwa [List.getD_eq_getElem?_getD] at this
  · rcases Nat.eq_zero_or_pos (j - xs.length) with h0 | h0
    · rw [h0]; exact hx
    · rw [List.getElem?_eq_none (by simp; omega)]; exact Nat.lt_of_le_of_lt (Nat.zero_le _) hx

theorem length_le_of_val {B : Nat} (hB : 1 < B) {xs ys : List Nat} (hx : Lim B xs) (ty : Top ys) (h : val B ys ≤ val B xs) : ys.length ≤ xs.length := by
  rcases Nat.lt_or_ge xs.length ys.length with h1 | h1
  · have := val_lt_of_length hB hx ty h1; omega
  · exact h1
/-- after k rounds of takeFrom on the row R: c is borrowed -/
structure TakeT (R R' b : List Nat) (k c : Nat) : Prop where
  len : R'.length = R.length
  rest : ∀ j, k ≤ j → R'.getD j 0 = R.getD j 0
  lim : Lim B64 R'
  cle : c ≤ 1
  eq : val B64 (R.take k) + B64 ^ k * c = val B64 (R'.take k) + val B64 (b.take k)
theorem takeT_zero {R : List Nat} (b : List Nat) (h : Lim B64 R) : TakeT R R b 0 0 := ⟨rfl, fun _ _ => rfl, h, by omega, by simp [val]⟩
theorem takeT_step {R R' b : List Nat} {k c : Nat} (h : TakeT R R' b k c) (lb : Lim B64 b) (hk : k < R.length) :
    TakeT R (R'.set k (sLo (R'.getD k 0) (b.getD k 0) c)) b (k + 1) (sHi (R'.getD k 0) (b.getD k 0) c) := by
  have hl := h.len
  have h1 := h.lim k
  have h2 := lb k
  have h3 := h.cle
  have e0 := h.rest k (Nat.le_refl _)
  refine ⟨by rw [List.length_set, hl], fun j hj => by rw [getD_set' _ _ _ _ (by omega), if_neg (by omega)]; exact h.rest j (by omega), lim_set h.lim (sLo_lt _ _ _) _, sHi_le _ _ _, ?_⟩
  rw [val_take_succ B64 R k hk, val_take_succ' B64 b k, val_take_succ B64 _ k (by rw [List.length_set]; omega), getD_set' _ _ _ _ (by omega), if_pos rfl, ← e0]
  have e1 : (R'.set k (sLo (R'.getD k 0) (b.getD k 0) c)).take k = R'.take k :=
    take_congr (by rw [List.length_set]; omega) (by omega) (fun j hj => by rw [getD_set' _ _ _ _ (by omega), if_neg (by omega)])
  rw [e1]
  have e := s_eq (x := R'.getD k 0) (y := b.getD k 0) (b := c) h1 h2 h3
  generalize R'.getD k 0 = x at *
  generalize b.getD k 0 = y at *
  rw [Nat.pow_succ, Nat.mul_assoc]
  have e4 := h.eq
  have e5 : B64 ^ k * x + B64 ^ k * (B64 * sHi x y c) = B64 ^ k * (sLo x y c) + B64 ^ k * y + B64 ^ k * c := by
    rw [← Nat.mul_add, ← e, Nat.mul_add, Nat.mul_add]
  omega
/-- without a borrow the rest stays -/
theorem takeT_more {R R' b : List Nat} {k : Nat} (h : TakeT R R' b k 0) (hb : b.length ≤ k) (_hk : k ≤ R.length) : ∀ n, k + n ≤ R.length → TakeT R R' b (k + n) 0 := by
  intro n hn
  induction n with
  | zero => exact h
  | succ n ih =>
    have h1 := ih (by omega)
    refine ⟨h.len, fun j hj => h1.rest j (by omega), h.lim, by omega, ?_⟩
    have e := h1.eq
    rw [show k + (n + 1) = k + n + 1 from rfl, val_take_succ' B64 R, val_take_succ' B64 b, val_take_succ' B64 R', h1.rest (k + n) (Nat.le_refl _), getD_ge b (k + n) (by omega)]
    omega
theorem takeT_end {R R' b : List Nat} {c : Nat} (h : TakeT R R' b R.length c) (_lR : Lim B64 R) (hb : b.length ≤ R.length) (hle : val B64 b ≤ val B64 R) : c = 0 ∧ val B64 R' = val B64 R - val B64 b := by
  have e := h.eq
  rw [List.take_length, List.take_of_length_le hb, ← h.len, List.take_length] at e
  have h2 := val_lt h.lim
  have h3 := h.cle
  have : c = 0 ∨ c = 1 := by omega
  rcases this with rfl | rfl
  · exact ⟨rfl, by omega⟩
  · rw [Nat.mul_one] at e; omega
end Go.Proofs.YtehdfkafdpfdnaaGreatDoor.Mth

/- Sums limb by limb, and sums of many, in plain mathematics. -/
namespace Go.Proofs.YtehdfkafdpfdnaaGreatDoor.Mth

/-- after k rounds of AddH or addTo on the row R from off on: c is carried -/
structure PutT (R R' : List Nat) (off : Nat) (b : List Nat) (k c : Nat) : Prop where
  len : R'.length = R.length
  rest : ∀ j, j < off ∨ off + k ≤ j → R'.getD j 0 = R.getD j 0
  lim : Lim B64 R'
  cle : c ≤ 1
  eq : seg R' off k + B64 ^ k * c = seg R off k + val B64 (b.take k)
theorem putT_zero {R : List Nat} (off : Nat) (b : List Nat) (h : Lim B64 R) : PutT R R off b 0 0 := ⟨rfl, fun _ _ => rfl, h, by omega, by simp [seg_zero, val]⟩
theorem putT_step {R R' : List Nat} {off : Nat} {b : List Nat} {k c : Nat} (h : PutT R R' off b k c) (lb : Lim B64 b) (hk : off + k < R.length) :
    PutT R (R'.set (off + k) (aLo (R'.getD (off + k) 0) (b.getD k 0) c)) off b (k + 1) (aHi (R'.getD (off + k) 0) (b.getD k 0) c) := by
  have hl := h.len
  have h1 := h.lim (off + k)
  have h2 := lb k
  have h3 := h.cle
  have e0 := h.rest (off + k) (by omega)
  refine ⟨by rw [List.length_set, hl], fun j hj => by rw [getD_set' _ _ _ _ (by omega), if_neg (by omega)]; exact h.rest j (by omega), lim_set h.lim (aLo_lt _ _ _) _, aHi_le h1 h2 h3, ?_⟩
  rw [seg_succ _ _ _ (by rw [List.length_set]; omega), seg_succ R off k hk, val_take_succ' B64 b k, getD_set' _ _ _ _ (by omega), if_pos rfl, ← e0]
  have e1 : seg (R'.set (off + k) (aLo (R'.getD (off + k) 0) (b.getD k 0) c)) off k = seg R' off k :=
    seg_congr (by rw [List.length_set]) (fun j h1 h2 => by rw [getD_set' _ _ _ _ (by omega), if_neg (by omega)]) (by rw [List.length_set]; omega)
  rw [e1]
  have e := a_eq (R'.getD (off + k) 0) (b.getD k 0) c
  generalize R'.getD (off + k) 0 = x at *
  generalize b.getD k 0 = y at *
  rw [Nat.pow_succ, Nat.mul_assoc]
  have e4 := h.eq
  have e5 : B64 ^ k * aLo x y c + B64 ^ k * (B64 * aHi x y c) = B64 ^ k * x + B64 ^ k * y + B64 ^ k * c := by
    rw [← Nat.mul_add, e, Nat.mul_add, Nat.mul_add]
  omega
/-- without a carry the rest stays -/
theorem putT_more {R R' : List Nat} {off : Nat} {b : List Nat} {k : Nat} (h : PutT R R' off b k 0) (hb : b.length ≤ k) : ∀ n, off + (k + n) ≤ R.length → PutT R R' off b (k + n) 0 := by
  intro n hn
  induction n with
  | zero => exact h
  | succ n ih =>
    have h1 := ih (by omega)
    refine ⟨h.len, fun j hj => h.rest j (by omega), h.lim, by omega, ?_⟩
    have e := h1.eq
    have hl := h.len
    rw [show k + (n + 1) = k + n + 1 from rfl, seg_succ R' _ _ (by omega), seg_succ R _ _ (by omega), val_take_succ' B64 b, h1.rest (off + (k + n)) (by omega), getD_ge b (k + n) (by omega)]
    omega
end Go.Proofs.YtehdfkafdpfdnaaGreatDoor.Mth

/- The product of halves, row by row, in plain mathematics. -/
namespace Go.Proofs.YtehdfkafdpfdnaaGreatDoor.Mth

end Go.Proofs.YtehdfkafdpfdnaaGreatDoor.Mth

/- Digits of a limb, in plain mathematics. -/
namespace Go.Proofs.YtehdfkafdpfdnaaGreatDoor.Mth

/-- the letter of a digit -/
def dch (d : Nat) : Nat := if d < 10 then 48 + d else 87 + d
def md (u b : Nat) : Nat := u % b
def dv (u b : Nat) : Nat := u / b
/-- the digits of u in base b, the highest first; no noughts ahead -/
def dgs (b : Nat) : Nat → Nat → List Nat
  | 0, _ => []
  | f + 1, u => if u < b then [dch u] else dgs b f (dv u b) ++ [dch (md u b)]
theorem dgs_low {b f u : Nat} (h : u < b) : dgs b (f + 1) u = [dch u] := by simp [dgs, h]
theorem dgs_step {b f u : Nat} (h : ¬ u < b) : dgs b (f + 1) u = dgs b f (dv u b) ++ [dch (md u b)] := by simp [dgs, h]
theorem dch_lt {d : Nat} (h : d < 36) : dch d < 256 := by unfold dch; split <;> omega
theorem dgs_lt {b : Nat} (h2 : 2 ≤ b) (hb : b ≤ 36) : ∀ f u, ∀ x ∈ dgs b f u, x < 256
  | 0, _, x, hx => by simp [dgs] at hx
  | f + 1, u, x, hx => by
    by_cases h : u < b
    · rw [dgs_low h] at hx
      simp at hx
      subst hx
      exact dch_lt (by omega)
    · rw [dgs_step h] at hx
      rcases List.mem_append.1 hx with h1 | h1
      · exact dgs_lt h2 hb f _ x h1
      · simp at h1
        subst h1
        exact dch_lt (by have := Nat.mod_lt u (show 0 < b by omega); unfold md; omega)
/-- one round of formatBits -/
theorem fmt_step {b f F n0 u i : Nat} {bs : List Nat} (hn : ¬ u < b) (hi : i < bs.length) (h : dgs b (f + 1) u ++ bs.drop (i + 1) = dgs b F n0) :
    dgs b f (dv u b) ++ (bs.set i (dch (md u b))).drop i = dgs b F n0 := by
  rw [dgs_step hn] at h
  rw [← h, List.append_assoc]
  congr 1
  rw [List.drop_set, if_neg (by omega), List.drop_eq_getElem_cons hi, Nat.sub_self, List.set_cons_zero]
  try rfl
theorem fmt_last {b f F n0 u i : Nat} {bs : List Nat} (hn : u < b) (hi : i < bs.length) (h : dgs b (f + 1) u ++ bs.drop (i + 1) = dgs b F n0) :
    (bs.set i (dch u)).drop i = dgs b F n0 := by
  rw [dgs_low hn] at h
  rw [← h]
  rw [List.drop_set, if_neg (by omega), List.drop_eq_getElem_cons hi, Nat.sub_self, List.set_cons_zero]
  try rfl

/-- noughts ahead, up to the width -/
def pad (wd : Nat) (l : List Nat) : List Nat := List.replicate (wd - l.length) 48 ++ l
/-- chunks, the lowest first, written one behind the other, the highest without noughts ahead -/
def jnd (D : Nat → List Nat) (wd : Nat) : List Nat → List Nat
  | [] => []
  | c :: r => jnd D wd r ++ if r = [] then D c else pad wd (D c)
theorem jnd_last {D : Nat → List Nat} {wd : Nat} {cs : List Nat} {m : Nat} (h : m + 1 = cs.length) : jnd D wd (cs.drop m) = jnd D wd (cs.drop (m + 1)) ++ D (cs.getD m 0) := by
  rw [drop_cons (show m < cs.length by omega)]
  simp [jnd, List.drop_of_length_le (show cs.length ≤ m + 1 by omega)]
theorem jnd_more {D : Nat → List Nat} {wd : Nat} {cs : List Nat} {m : Nat} (h : m + 1 < cs.length) : jnd D wd (cs.drop m) = jnd D wd (cs.drop (m + 1)) ++ pad wd (D (cs.getD m 0)) := by
  rw [drop_cons (show m < cs.length by omega)]
  have : cs.drop (m + 1) ≠ [] := fun e => by
    have := congrArg List.length e
    simp at this
    omega
  simp [jnd, this]
theorem length_pad (wd : Nat) (l : List Nat) (h : l.length ≤ wd) : (pad wd l).length = wd := by simp [pad]; omega
theorem length_jnd {D : Nat → List Nat} {wd : Nat} : ∀ {cs : List Nat}, (∀ j, (D (cs.getD j 0)).length ≤ wd) → (jnd D wd cs).length ≤ wd * cs.length
  | [], _ => by simp [jnd]
  | c :: r, h => by
    have h0 : (D c).length ≤ wd := by simpa using h 0
    have := length_jnd (cs := r) (fun j => by simpa using h (j + 1))
    simp only [jnd, List.length_append, List.length_cons, Nat.mul_add, Nat.mul_one]
    split
    · omega
    · rw [length_pad _ _ h0]; omega
theorem length_dgs {b : Nat} (hb : 0 < b) : ∀ f u, (dgs b f u).length ≤ f
  | 0, _ => by simp [dgs]
  | f + 1, u => by
    by_cases h : u < b
    · rw [dgs_low h]; simp
    · rw [dgs_step h, List.length_append]
      have := length_dgs hb f (dv u b)
      simp; omega
end Go.Proofs.YtehdfkafdpfdnaaGreatDoor.Mth

/- How many binary digits a number has; one of them. -/
namespace Go.Proofs.YtehdfkafdpfdnaaGreatDoor.Mth

/-- how many binary digits -/
def bl (n : Nat) : Nat := if n = 0 then 0 else Nat.log2 n + 1
theorem bl_zero : bl 0 = 0 := rfl
theorem bl_uniq {n m : Nat} (h1 : 2 ^ m ≤ n) (h2 : n < 2 ^ (m + 1)) : bl n = m + 1 := by
  have hn : n ≠ 0 := by have := Nat.two_pow_pos m; omega
  unfold bl
  rw [if_neg hn]
  congr 1
  have a1 := Nat.log2_self_le hn
  have a2 : n < 2 ^ (n.log2 + 1) := Nat.lt_log2_self
  have b1 : m < n.log2 + 1 := (Nat.pow_lt_pow_iff_right (by omega : 1 < 2)).1 (Nat.lt_of_le_of_lt h1 a2)
  have b2 : n.log2 < m + 1 := (Nat.pow_lt_pow_iff_right (by omega : 1 < 2)).1 (Nat.lt_of_le_of_lt a1 h2)
  omega
theorem bl_spec {n : Nat} (h : n ≠ 0) : ∃ m, bl n = m + 1 ∧ 2 ^ m ≤ n ∧ n < 2 ^ (m + 1) :=
  ⟨n.log2, if_neg h, Nat.log2_self_le h, Nat.lt_log2_self⟩
theorem bl_le {n k : Nat} (h : n < 2 ^ k) : bl n ≤ k := by
  by_cases h0 : n = 0
  · subst h0; simp [bl]
  · obtain ⟨m, e, h1, h2⟩ := bl_spec h0
    rw [e]
    have : m < k := (Nat.pow_lt_pow_iff_right (by omega : 1 < 2)).1 (Nat.lt_of_le_of_lt h1 h)
    omega
theorem bl_lib {x : Nat} (h : x < B64) : Lib.bitLen x = bl x := by
  by_cases h0 : x = 0
  · subst h0; rfl
  · have h64 : x < 2 ^ 64 := h
    obtain ⟨h1, h2, h3⟩ := Lib.bitLenAux_bounds 64 x h64 h0
    have e : Lib.bitLen x = Lib.bitLenAux 64 x := rfl
    rw [e]
    have := bl_uniq (n := x) (m := Lib.bitLenAux 64 x - 1) h2 (by rw [Nat.sub_add_cancel h1]; exact h3)
    omega
/-- of a list of limbs: by its highest -/
theorem bl_top {s : Nat} {xs : List Nat} (hl : Lim (2 ^ s) xs) (ht : Top xs) (hp : 0 < xs.length) : bl (val (2 ^ s) xs) = (xs.length - 1) * s + bl (xs.getD (xs.length - 1) 0) := by
  have htop := tlen_top xs (by rw [ht]; exact hp)
  rw [ht] at htop
  obtain ⟨m, e, h1, h2⟩ := bl_spec htop
  rw [e]
  have hs := val_split (2 ^ s) xs (xs.length - 1) (by omega)
  have hd := val_drop (2 ^ s) xs (xs.length - 1) (by omega)
  have hz : val (2 ^ s) (xs.drop (xs.length - 1 + 1)) = 0 := by
    rw [List.drop_of_length_le (by omega)]; rfl
  rw [hz, Nat.mul_zero, Nat.add_zero] at hd
  rw [hd] at hs
  have hlow := val_take_lt (Nat.two_pow_pos s) hl (xs.length - 1) (by omega)
  have hpow : (2 ^ s) ^ (xs.length - 1) = 2 ^ ((xs.length - 1) * s) := by rw [← Nat.pow_mul, Nat.mul_comm]
  rw [hpow] at hs hlow
  generalize xs.getD (xs.length - 1) 0 = x at *
  rw [show (xs.length - 1) * s + (m + 1) = (xs.length - 1) * s + m + 1 by omega]
  refine bl_uniq ?_ ?_
  · rw [hs, Nat.pow_add]
    have := Nat.mul_le_mul_left (2 ^ ((xs.length - 1) * s)) h1
    omega
  · rw [hs, Nat.add_assoc, Nat.pow_add]
    have := Nat.mul_le_mul_left (2 ^ ((xs.length - 1) * s)) (show x + 1 ≤ 2 ^ (m + 1) from h2)
    rw [Nat.mul_add, Nat.mul_one] at this
    omega

/-- the binary digit of 2 to the i -/
def bitN (n i : Nat) : Bool := decide (n / 2 ^ i % 2 = 1)
theorem bit_limb {xs : List Nat} (hl : Lim B64 xs) {q r : Nat} (hr : r < 64) (hq : q < xs.length) : bitN (val B64 xs) (64 * q + r) = decide (xs.getD q 0 / 2 ^ r % 2 = 1) := by
  unfold bitN
  have hs := val_split B64 xs q (by omega)
  have hd := val_drop B64 xs q hq
  have hlow := val_take_lt (by have := B64_pos; omega) hl q (by omega)
  have hpow : 2 ^ (64 * q + r) = B64 ^ q * 2 ^ r := by rw [Nat.pow_add, Nat.pow_mul]; rfl
  rw [hpow, ← Nat.div_div_eq_div_mul, hs, Nat.add_mul_div_left _ _ (Nat.lt_of_le_of_lt (Nat.zero_le _) hlow), Nat.div_eq_of_lt hlow, Nat.zero_add, hd]
  have h64 : B64 = 2 ^ r * (2 * 2 ^ (63 - r)) := by
    rw [← Nat.mul_assoc, Nat.mul_comm (2 ^ r) 2, Nat.mul_assoc, ← Nat.pow_add, show r + (63 - r) = 63 by omega]; rfl
  rw [h64, Nat.mul_assoc, Nat.add_mul_div_left _ _ (Nat.two_pow_pos r), Nat.mul_assoc, Nat.add_mul_mod_self_left]
theorem bit_far {xs : List Nat} (hl : Lim B64 xs) {i : Nat} (h : 64 * xs.length ≤ i) : bitN (val B64 xs) i = false := by
  unfold bitN
  have h1 := val_lt hl
  have h2 : B64 ^ xs.length ≤ 2 ^ i := by
    rw [show B64 = 2 ^ 64 from rfl, ← Nat.pow_mul]
    exact Nat.pow_le_pow_right (by omega) h
  rw [Nat.div_eq_of_lt (by omega)]
  rfl
end Go.Proofs.YtehdfkafdpfdnaaGreatDoor.Mth

/- Shifts limb by limb, in plain mathematics. -/
namespace Go.Proofs.YtehdfkafdpfdnaaGreatDoor.Mth

theorem b64_split {n m : Nat} (h : n + m = 64) : B64 = 2 ^ n * 2 ^ m := by
  rw [← Nat.pow_add, h]; rfl
/-- one limb of a number shifted up, with what was carried; what is carried on -/
def upLo (x n c : Nat) : Nat := x * 2 ^ n % B64 + c
def upHi (x n : Nat) : Nat := x * 2 ^ n / B64
theorem up_eq (x n c : Nat) : upLo x n c + B64 * upHi x n = x * 2 ^ n + c := by
  have := Nat.mod_add_div (x * 2 ^ n) B64
  unfold upLo upHi; omega
theorem up_part {x n m : Nat} (h : n + m = 64) : x * 2 ^ n % B64 = 2 ^ n * (x % 2 ^ m) := by
  rw [b64_split h, Nat.mul_comm x, Nat.mul_mod_mul_left]
theorem up_lt {x n m c : Nat} (h : n + m = 64) (hc : c < 2 ^ n) : upLo x n c < B64 := by
  unfold upLo
  rw [up_part h, b64_split h]
  have h1 : x % 2 ^ m < 2 ^ m := Nat.mod_lt _ (Nat.pow_pos (by omega))
  have h2 : 2 ^ n * (x % 2 ^ m + 1) ≤ 2 ^ n * 2 ^ m := Nat.mul_le_mul_left _ h1
  rw [Nat.mul_add, Nat.mul_one] at h2
  omega
theorem upHi_lt {x n : Nat} (hx : x < B64) : upHi x n < 2 ^ n := by
  unfold upHi
  rw [Nat.div_lt_iff_lt_mul (by have := B64_pos; omega), Nat.mul_comm]
  exact Nat.mul_lt_mul_of_pos_left hx (Nat.pow_pos (by omega))
theorem upHi_div {x n m : Nat} (h : n + m = 64) : upHi x n = x / 2 ^ m := by
  unfold upHi
  rw [b64_split h, Nat.mul_comm x, Nat.mul_div_mul_left _ _ (Nat.pow_pos (by omega))]
theorem up_or {x n m c : Nat} (h : n + m = 64) (hc : c < 2 ^ n) : x * 2 ^ n % B64 ||| c = upLo x n c := by
  unfold upLo
  rw [up_part h, ← Nat.two_pow_add_eq_or_of_lt hc]

/-- after k rounds of shiftUp into R from off on -/
structure UpT (R R' : List Nat) (off : Nat) (xs : List Nat) (n k c : Nat) : Prop where
  len : R'.length = R.length
  rest : ∀ j, j < off ∨ off + k ≤ j → R'.getD j 0 = R.getD j 0
  lim : Lim B64 R'
  clt : c < 2 ^ n
  eq : seg R' off k + B64 ^ k * c = 2 ^ n * val B64 (xs.take k)
theorem upT_zero {R : List Nat} (off : Nat) (xs : List Nat) (n : Nat) (h : Lim B64 R) : UpT R R off xs n 0 0 := ⟨rfl, fun _ _ => rfl, h, Nat.pow_pos (by omega), by simp [seg_zero, val]⟩
theorem upT_step {R R' : List Nat} {off : Nat} {xs : List Nat} {n m k c : Nat} (h : UpT R R' off xs n k c) (hnm : n + m = 64) (lx : Lim B64 xs) (hk : off + k < R.length) :
    UpT R (R'.set (off + k) (upLo (xs.getD k 0) n c)) off xs n (k + 1) (upHi (xs.getD k 0) n) := by
  have hl := h.len
  refine ⟨by rw [List.length_set, hl], fun j hj => by rw [getD_set' _ _ _ _ (by omega), if_neg (by omega)]; exact h.rest j (by omega), lim_set h.lim (up_lt hnm h.clt) _, upHi_lt (lx k), ?_⟩
  rw [seg_succ _ _ _ (by rw [List.length_set]; omega), val_take_succ' B64 xs k, getD_set' _ _ _ _ (by omega), if_pos rfl]
  have e1 : seg (R'.set (off + k) (upLo (xs.getD k 0) n c)) off k = seg R' off k :=
    seg_congr (by rw [List.length_set]) (fun j h1 h2 => by rw [getD_set' _ _ _ _ (by omega), if_neg (by omega)]) (by rw [List.length_set]; omega)
  rw [e1]
  have e := up_eq (xs.getD k 0) n c
  generalize xs.getD k 0 = x at *
  have e4 := h.eq
  have e5 : B64 ^ k * upLo x n c + B64 ^ k * (B64 * upHi x n) = B64 ^ k * (x * 2 ^ n) + B64 ^ k * c := by
    rw [← Nat.mul_add, e, Nat.mul_add]
  rw [Nat.pow_succ, Nat.mul_assoc, Nat.mul_add]
  have e6 : 2 ^ n * (B64 ^ k * x) = B64 ^ k * (x * 2 ^ n) := by
    rw [Nat.mul_comm x, Nat.mul_left_comm]
  omega
/-- the whole: the last limb takes what is carried -/
structure UpAll (R R' : List Nat) (off : Nat) (xs : List Nat) (n : Nat) : Prop where
  len : R'.length = R.length
  rest : ∀ j, j < off ∨ off + xs.length + 1 ≤ j → R'.getD j 0 = R.getD j 0
  lim : Lim B64 R'
  eq : seg R' off (xs.length + 1) = 2 ^ n * val B64 xs
theorem upT_end {R R' : List Nat} {off : Nat} {xs : List Nat} {n c : Nat} (h : UpT R R' off xs n xs.length c) (hn : n ≤ 63) (hk : off + xs.length < R.length) : UpAll R (R'.set (off + xs.length) c) off xs n := by
  have hl := h.len
  have hc : c < B64 := Nat.lt_of_lt_of_le h.clt (by have : B64 = 2 ^ 64 := rfl; rw [this]; exact Nat.pow_le_pow_right (by omega) (by omega))
  refine ⟨by rw [List.length_set, hl], fun j hj => by rw [getD_set' _ _ _ _ (by omega), if_neg (by omega)]; exact h.rest j (by omega), lim_set h.lim hc _, ?_⟩
  rw [seg_succ _ _ _ (by rw [List.length_set]; omega), getD_set' _ _ _ _ (by omega), if_pos rfl]
  have e1 : seg (R'.set (off + xs.length) c) off xs.length = seg R' off xs.length :=
    seg_congr (by rw [List.length_set]) (fun j h1 h2 => by rw [getD_set' _ _ _ _ (by omega), if_neg (by omega)]) (by rw [List.length_set]; omega)
  have e := h.eq
  rw [List.take_length] at e
  rw [e1]; exact e
/-- zeros below: the whole row's number -/
theorem upAll_val {R' xs : List Nat} {off n : Nat} (h : UpAll (List.replicate (off + xs.length + 1) 0) R' off xs n) : val B64 R' = 2 ^ (64 * off + n) * val B64 xs := by
  have hl := h.len
  rw [List.length_replicate] at hl
  have e1 := seg_split R' off (xs.length + 1) (by omega)
  have e2 : seg R' 0 off = 0 := by
    have : seg R' 0 off = seg (List.replicate (off + xs.length + 1) 0) 0 off :=
      seg_congr (by rw [hl, List.length_replicate]) (fun j h1 h2 => h.rest j (by omega)) (by omega)
    rw [this]
    unfold seg
    refine val_zero fun j => ?_
    rw [getD_take]
    split
    · rw [getD_drop, getD_replicate]
    · rfl
  rw [show off + (xs.length + 1) = R'.length by omega, seg_all, e2, h.eq] at e1
  rw [e1, Nat.zero_add, ← Nat.mul_assoc]
  congr 1
  rw [Nat.pow_add, Nat.pow_mul]; rfl

end Go.Proofs.YtehdfkafdpfdnaaGreatDoor.Mth

/- Division of two limbs by one, by halves (math/bits's Div64), in plain mathematics. W is the base of the halves. -/
namespace Go.Proofs.YtehdfkafdpfdnaaGreatDoor.Mth

/-- what a half step divides, and by what -/
def hT (W u v : Nat) : Nat := u * W + v
end Go.Proofs.YtehdfkafdpfdnaaGreatDoor.Mth

/- Long division by hand, in plain mathematics. -/
namespace Go.Proofs.YtehdfkafdpfdnaaGreatDoor.Mth

end Go.Proofs.YtehdfkafdpfdnaaGreatDoor.Mth

/- Long division bit by bit over halves, in plain mathematics. -/
namespace Go.Proofs.YtehdfkafdpfdnaaGreatDoor.Mth

end Go.Proofs.YtehdfkafdpfdnaaGreatDoor.Mth

/- Numerals, in plain mathematics. -/
namespace Go.Proofs.YtehdfkafdpfdnaaGreatDoor.Mth

/-- the numeral of n in base b: no noughts ahead -/
def numeral (b n : Nat) : List Nat := dgs b (n + 1) n
theorem dgs_more {b : Nat} (hb : 2 ≤ b) : ∀ (f g n : Nat), n < b ^ f → n < b ^ g → 0 < f → 0 < g → dgs b f n = dgs b g n
  | 0, _, _, _, _, h, _ => by omega
  | _ + 1, 0, _, _, _, _, h => by omega
  | f + 1, g + 1, n, h1, h2, _, _ => by
    by_cases h : n < b
    · rw [dgs_low h, dgs_low h]
    · rw [dgs_step h, dgs_step h]
      have e1 : dv n b < b ^ f := by
        unfold dv
        rw [Nat.div_lt_iff_lt_mul (by omega), ← Nat.pow_succ]; exact h1
      have e2 : dv n b < b ^ g := by
        unfold dv
        rw [Nat.div_lt_iff_lt_mul (by omega), ← Nat.pow_succ]; exact h2
      have e3 : 0 < dv n b := by unfold dv; exact Nat.div_pos (by omega) (by omega)
      have f0 : 0 < f := by
        rcases Nat.eq_zero_or_pos f with h0 | h0
        · rw [h0] at e1; simp at e1; omega
        · exact h0
      have g0 : 0 < g := by
        rcases Nat.eq_zero_or_pos g with h0 | h0
        · rw [h0] at e2; simp at e2; omega
        · exact h0
      rw [dgs_more hb f g _ e1 e2 f0 g0]
theorem lt_pow_self {b n : Nat} (hb : 2 ≤ b) : n < b ^ (n + 1) := Nat.lt_of_lt_of_le (Nat.lt_two_pow_self (n := n)) (Nat.le_trans (Nat.pow_le_pow_right (by omega) (Nat.le_succ n)) (Nat.pow_le_pow_left hb _))
theorem dgs_numeral {b f n : Nat} (hb : 2 ≤ b) (h : n < b ^ f) (hf : 0 < f) : dgs b f n = numeral b n := dgs_more hb _ _ _ h (lt_pow_self hb) hf (by omega)
theorem numeral_low {b n : Nat} (h : n < b) : numeral b n = [dch n] := dgs_low h
theorem numeral_step {b n : Nat} (hb : 2 ≤ b) (h : ¬ n < b) : numeral b n = numeral b (n / b) ++ [dch (n % b)] := by
  unfold numeral
  rw [dgs_step h]
  congr 1
  have h1 : n / b < n := Nat.div_lt_self (by omega) hb
  have h2 : n / b < b ^ n := Nat.lt_of_lt_of_le (lt_pow_self hb (n := n / b)) (Nat.pow_le_pow_right (by omega) h1)
  exact dgs_more hb n (n / b + 1) (n / b) h2 (lt_pow_self hb) (by omega) (Nat.succ_pos _)
theorem numeral_len {b f n : Nat} (hb : 2 ≤ b) (h : n < b ^ f) (hf : 0 < f) : (numeral b n).length ≤ f := by
  rw [← dgs_numeral hb h hf]; exact length_dgs (by omega) f n
/-- wd digits, noughts ahead -/
def digs (b : Nat) : Nat → Nat → List Nat
  | 0, _ => []
  | w + 1, c => digs b w (c / b) ++ [dch (c % b)]
theorem dch_zero : dch 0 = 48 := rfl
theorem digs_zero {b : Nat} (hb : 2 ≤ b) : ∀ w, digs b w 0 = List.replicate w 48
  | 0 => rfl
  | w + 1 => by
    simp only [digs, Nat.zero_div, Nat.zero_mod, dch_zero, digs_zero hb w]
    rw [List.replicate_succ', ]
theorem pad_snoc {w x : Nat} {l : List Nat} : pad (w + 1) (l ++ [x]) = pad w l ++ [x] := by
  simp [pad, Nat.add_sub_add_right]
theorem pad_numeral {b : Nat} (hb : 2 ≤ b) : ∀ (w c : Nat), 0 < w → c < b ^ w → pad w (numeral b c) = digs b w c
  | 0, _, h, _ => by omega
  | w + 1, c, _, hc => by
    by_cases h : c < b
    · rw [numeral_low h]
      have e : pad (w + 1) [dch c] = pad w [] ++ [dch c] := pad_snoc (l := [])
      rw [e]
      simp only [digs, Nat.div_eq_of_lt h, Nat.mod_eq_of_lt h, digs_zero hb]
      simp [pad]
    · rw [numeral_step hb h, pad_snoc]
      have e1 : c / b < b ^ w := by rw [Nat.div_lt_iff_lt_mul (by omega), ← Nat.pow_succ]; exact hc
      have w0 : 0 < w := by
        rcases Nat.eq_zero_or_pos w with h0 | h0
        · rw [h0] at hc; simp at hc; omega
        · exact h0
      rw [pad_numeral hb w _ w0 e1]
      rfl
theorem numeral_split {b : Nat} (hb : 2 ≤ b) : ∀ (w c v : Nat), 0 < v → c < b ^ w → numeral b (c + b ^ w * v) = numeral b v ++ digs b w c
  | 0, c, v, hv, hc => by
    have : c = 0 := by simpa using hc
    subst this
    simp [digs]
  | w + 1, c, v, hv, hc => by
    have hp : b ≤ b ^ (w + 1) := by
      rw [Nat.pow_succ]
      exact Nat.le_mul_of_pos_left b (Nat.pow_pos (by omega))
    have hge : ¬ c + b ^ (w + 1) * v < b := by
      have : b ^ (w + 1) * 1 ≤ b ^ (w + 1) * v := Nat.mul_le_mul_left _ hv
      omega
    have e0 : c + b ^ (w + 1) * v = c + b * (b ^ w * v) := by rw [Nat.pow_succ, Nat.mul_comm (b ^ w) b, Nat.mul_assoc]
    rw [numeral_step hb hge, e0, Nat.add_mul_div_left _ _ (by omega), Nat.add_mul_mod_self_left]
    have e1 : c / b < b ^ w := by rw [Nat.div_lt_iff_lt_mul (by omega), ← Nat.pow_succ]; exact hc
    rw [numeral_split hb w (c / b) v hv e1, List.append_assoc]
    rfl
/-- chunks, one behind the other -/
theorem jnd_numeral {b w : Nat} (hb : 2 ≤ b) (hw : 0 < w) {D : Nat → List Nat} (hD : ∀ c, c < b ^ w → D c = numeral b c) : ∀ (cs : List Nat), Lim (b ^ w) cs → Top cs → 0 < cs.length → jnd D w cs = numeral b (val (b ^ w) cs)
  | [], _, _, h => by simp at h
  | c :: r, hl, ht, _ => by
    obtain ⟨h1, h2⟩ := lim_cons.1 hl
    simp only [jnd, val]
    by_cases hr : r = []
    · subst hr
      simp only [if_true, jnd, val, Nat.mul_zero, Nat.add_zero, List.nil_append]
      exact hD c h1
    · rw [if_neg hr]
      have hrp : 0 < r.length := List.length_pos_iff.2 hr
      have ht2 : Top r := by
        unfold Top at ht ⊢
        simp only [tlen, List.length_cons] at ht
        split at ht
        · split at ht <;> omega
        · omega
      have hv : 0 < val (b ^ w) r := Nat.lt_of_lt_of_le (Nat.pow_pos (Nat.pow_pos (by omega))) (val_ge_top ht2 hrp)
      rw [jnd_numeral hb hw hD r h2 ht2 hrp, hD c h1, pad_numeral hb w c hw h1, numeral_split hb w c _ hv h1]

end Go.Proofs.YtehdfkafdpfdnaaGreatDoor.Mth

/- Whole numbers by sign and amount, in plain mathematics. -/
namespace Go.Proofs.YtehdfkafdpfdnaaGreatDoor.Mth

/-- is the number below 0; a plain definition, so that no walk takes it apart -/
def sgn (z : Int) : Bool := decide (z < 0)
/-- the number of a sign and an amount -/
def sg (n : Bool) (m : Nat) : Int := if n = true then -(m : Int) else (m : Int)
theorem natAbs_sg (n : Bool) (m : Nat) : (sg n m).natAbs = m := by unfold sg; split <;> omega
theorem sgn_neg {z : Int} (h : z < 0) : sgn z = true := decide_eq_true h
theorem sgn_pos {z : Int} (h : 0 ≤ z) : sgn z = false := decide_eq_false (by omega)
theorem of_sgn_true {z : Int} (h : sgn z = true) : z < 0 := of_decide_eq_true h
theorem of_sgn_false {z : Int} (h : sgn z = false) : 0 ≤ z := by have := of_decide_eq_false h; omega
theorem sg_sgn (z : Int) : sg (sgn z) z.natAbs = z := by
  unfold sg
  by_cases h : z < 0
  · rw [sgn_neg h, if_pos rfl]; omega
  · rw [sgn_pos (by omega), if_neg (by simp)]; omega
theorem sgn_sg {n : Bool} {m : Nat} (h : 0 < m) : sgn (sg n m) = n := by
  cases n
  · exact sgn_pos (by unfold sg; simp)
  · exact sgn_neg (by unfold sg; simp; omega)
theorem sgn_sg0 (n : Bool) : sgn (sg n 0) = false := sgn_pos (by unfold sg; split <;> simp)
theorem sg_false (m : Nat) : sg false m = (m : Int) := rfl
theorem sgn_nat (m : Nat) : sgn (m : Int) = false := sgn_pos (by omega)

/-- what is answered of a number: nothing, and error 5, if it is too long -/
def zN (z : Int) : Int := if Big ≤ z.natAbs then 0 else z
def zE (z : Int) : Int := if Big ≤ z.natAbs then 5 else 0
theorem z_big {z : Int} (h : Big ≤ z.natAbs) : zN z = 0 ∧ zE z = 5 := ⟨if_pos h, if_pos h⟩
theorem z_fine {z : Int} (h : z.natAbs < Big) : zN z = z ∧ zE z = 0 := ⟨if_neg (by omega), if_neg (by omega)⟩
/-- -1, 0, 1 -/
def zcmp (a b : Int) : Int := if a < b then -1 else if b < a then 1 else 0
theorem zcmp_lt {a b : Int} (h : a < b) : zcmp a b = -1 := if_pos h
theorem zcmp_gt {a b : Int} (h : b < a) : zcmp a b = 1 := by unfold zcmp; rw [if_neg (by omega), if_pos h]
theorem zcmp_nat (m n : Nat) : zcmp (m : Int) (n : Int) = cmp3 m n := by
  unfold zcmp cmp3
  by_cases h : m < n
  · rw [if_pos (by omega), if_pos h]
  · rw [if_neg (by omega), if_neg h]
    by_cases h2 : n < m
    · rw [if_pos (by omega), if_pos h2]
    · rw [if_neg (by omega), if_neg h2]
theorem zcmp_neg (a b : Int) : zcmp (-a) (-b) = zcmp b a := by
  unfold zcmp
  by_cases h : b < a
  · rw [if_pos (by omega), if_pos h]
  · rw [if_neg (by omega), if_neg h]
    by_cases h2 : a < b
    · rw [if_pos (by omega), if_pos h2]
    · rw [if_neg (by omega), if_neg h2]
theorem zcmp_abs_pos {a b : Int} (ha : 0 ≤ a) (hb : 0 ≤ b) : zcmp a b = cmp3 a.natAbs b.natAbs := by
  rw [← zcmp_nat]; congr 1 <;> omega
theorem zcmp_abs_neg {a b : Int} (ha : a < 0) (hb : b < 0) : zcmp a b = cmp3 b.natAbs a.natAbs := by
  rw [← zcmp_nat, ← zcmp_neg]; congr 1 <;> omega
end Go.Proofs.YtehdfkafdpfdnaaGreatDoor.Mth

/- Euclid's rows, one step or many at once (Lehmer's way), in plain mathematics. -/
namespace Go.Proofs.YtehdfkafdpfdnaaGreatDoor.Mth

/-- two rows of three numbers: the amounts, and the signs, which alternate: (p, sg ng a, sg (!ng) b), (q, sg (!ng) c, sg ng d) -/
structure ESt where
  p : Nat
  q : Nat
  a : Nat
  b : Nat
  c : Nat
  d : Nat
  ng : Bool
end Go.Proofs.YtehdfkafdpfdnaaGreatDoor.Mth

/- What follows of quotients, rests, divisors, in plain mathematics. -/
namespace Go.Proofs.YtehdfkafdpfdnaaGreatDoor.Mth

end Go.Proofs.YtehdfkafdpfdnaaGreatDoor.Mth

/- Lehmer's steps on numbers of 62 bits, and what Euclid's rows are bounded by: plain mathematics for package whole's Extended. -/
namespace Go.Proofs.YtehdfkafdpfdnaaGreatDoor.Mth

/-- what three rows' numbers are: Euclid's rows, signed -/
def r1 (s : ESt) : Int := sg s.ng s.a
def r2 (s : ESt) : Int := sg (!s.ng) s.b
def r3 (s : ESt) : Int := sg (!s.ng) s.c
def r4 (s : ESt) : Int := sg s.ng s.d
end Go.Proofs.YtehdfkafdpfdnaaGreatDoor.Mth

/- The highest 62 digits of two numbers, and what walk's steps by them are good for: plain mathematics for package whole's Extended. -/
namespace Go.Proofs.YtehdfkafdpfdnaaGreatDoor.Mth

theorem lt_bl (n : Nat) : n < 2 ^ bl n := by
  by_cases h : n = 0
  · subst h; exact Nat.two_pow_pos _
  · obtain ⟨m, e, _, h2⟩ := bl_spec h
    rw [e]; exact h2
theorem b64_two : B64 = 2 ^ 64 := rfl
end Go.Proofs.YtehdfkafdpfdnaaGreatDoor.Mth
