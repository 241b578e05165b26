/- TiMath YK YM. -/
import Derived.Test.YtkccjddmmjdceaaDoorMA
import Derived.Test.YtkccjddmmjdceaaDoorY2
set_option linter.unusedVariables false
set_option linter.unusedSimpArgs false
/- The product of digits of base 2^16 where a row's last carry goes into the place above; a division digit by digit from the top; plain mathematics. -/
namespace Go.Proofs.YtkccjddmmjdceaaDoor.Mth

theorem getD_zero_of_lt {B : Nat} {xs : List Nat} {n j : Nat} (hB : 0 < B) (h : val B xs < B ^ n) (hj : n ≤ j) : xs.getD j 0 = 0 := by
  rcases Nat.eq_zero_or_pos (xs.getD j 0) with h0 | h0
  · exact h0
  · have h1 := val_ge (B := B) (xs := xs) (n := j) (by omega)
    have h2 : B ^ n ≤ B ^ j := Nat.pow_le_pow_right hB hj
    omega
/-- the places above a row are empty ahead of it -/
theorem prodT_empty {R xs ys : List Nat} {i j : Nat} (hP : ProdT R xs ys i) (lx : Lim B16 xs) (ly : Lim B16 ys) (hi : i < xs.length) (hj : i + ys.length ≤ j) : R.getD j 0 = 0 := by
  have h1 : val B16 (xs.take i) < B16 ^ i := val_take_lt (by unfold B16; omega) lx i (by omega)
  have h2 : val B16 ys < B16 ^ ys.length := val_lt ly
  refine getD_zero_of_lt (B := B16) (n := i + ys.length) (by unfold B16; omega) ?_ hj
  rw [hP.eq, Nat.pow_add]
  exact Nat.mul_lt_mul'' h1 h2
/-- after j digits of the row of x at place i: what lies above is as it was -/
structure RowU (R R' ys : List Nat) (x i j c : Nat) : Prop where
  row : RowT R R' ys x i j c
  far : ∀ m, i + j ≤ m → R'.getD m 0 = R.getD m 0
theorem rowU_zero {R : List Nat} (ys : List Nat) (x i : Nat) (h : Lim B16 R) : RowU R R ys x i 0 0 := ⟨rowT_zero ys x i h, fun _ _ => rfl⟩
theorem rowU_step {R R' ys : List Nat} {x i j c : Nat} (h : RowU R R' ys x i j c) (hx : x < B16) (ly : Lim B16 ys) (hij : i + j < R.length) :
    RowU R (R'.set (i + j) (mhS (R'.getD (i + j) 0) x (ys.getD j 0) c)) ys x i (j + 1) (mhC (R'.getD (i + j) 0) x (ys.getD j 0) c) := by
  refine ⟨rowT_step h.row hx ly hij, fun m hm => ?_⟩
  rw [getD_set' _ _ _ _ (by rw [h.row.len]; exact hij), if_neg (by omega)]
  exact h.far m (by omega)
theorem rowU_end {R R' xs ys : List Nat} {i c : Nat} (hP : ProdT R xs ys i) (h : RowU R R' ys (xs.getD i 0) i ys.length c) (lx : Lim B16 xs) (ly : Lim B16 ys) (hi : i < xs.length) : ProdT (R'.set (i + ys.length) c) xs ys (i + 1) := by
  have hl := h.row.len
  have hpl := hP.len
  have h0 : R'.getD (i + ys.length) 0 = 0 := by rw [h.far _ (Nat.le_refl _)]; exact prodT_empty hP lx ly hi (Nat.le_refl _)
  refine ⟨by rw [List.length_set, hl, hpl], lim_set h.row.lim h.row.clt _, ?_⟩
  have e1 := val_set B16 R' (i + ys.length) (by omega) c
  have e2 := h.row.eq
  rw [h0, Nat.mul_zero, Nat.add_zero] at e1
  rw [List.take_length, hP.eq] at e2
  rw [val_take_succ' B16 xs i, Nat.add_mul, Nat.mul_assoc, e1, e2]

/-- after k digits of an amount times a digit n: what is carried -/
structure TdT (xs os : List Nat) (n k c : Nat) : Prop where
  len : os.length = k
  lim : Lim B16 os
  clt : c < B16
  eq : val B16 os + B16 ^ k * c = val B16 (xs.take k) * n
def tdS (x n c : Nat) : Nat := (c + x * n) % 65536
def tdC (x n c : Nat) : Nat := (c + x * n) / 65536
theorem td_le {x n c : Nat} (hx : x < B16) (hn : n < B16) (hc : c < B16) : c + x * n ≤ 4294967295 := by
  unfold B16 at *
  have : x * n ≤ 65535 * 65535 := Nat.mul_le_mul (by omega) (by omega)
  omega
theorem tdT_zero (xs : List Nat) (n : Nat) : TdT xs [] n 0 0 := ⟨rfl, lim_nil (by unfold B16; omega), by unfold B16; omega, by simp [val]⟩
theorem tdT_step {xs os : List Nat} {n k c : Nat} (h : TdT xs os n k c) (lx : Lim B16 xs) (hn : n < B16) : TdT xs (os ++ [tdS (xs.getD k 0) n c]) n (k + 1) (tdC (xs.getD k 0) n c) := by
  have hx := lx k
  have hc := h.clt
  have hle := td_le hx hn hc
  refine ⟨by rw [List.length_append, h.len]; rfl, lim_snoc h.lim (by unfold tdS B16; omega), by unfold tdC B16; omega, ?_⟩
  rw [val_snoc, h.len, val_take_succ' B16 xs k]
  have e := h.eq
  generalize xs.getD k 0 = x at *
  have e4 : tdS x n c + B16 * tdC x n c = c + x * n := by unfold tdS tdC B16; omega
  have e5 : B16 ^ k * tdS x n c + B16 ^ k * (B16 * tdC x n c) = B16 ^ k * c + B16 ^ k * (x * n) := by rw [← Nat.mul_add, e4, Nat.mul_add]
  have e6 : B16 ^ (k + 1) * tdC x n c = B16 ^ k * (B16 * tdC x n c) := by rw [Nat.pow_succ, Nat.mul_assoc]
  rw [e6, Nat.add_mul, Nat.mul_assoc]
  omega
theorem tdT_end {xs os : List Nat} {n c : Nat} (h : TdT xs os n xs.length c) : val B16 (os ++ [c]) = val B16 xs * n ∧ Lim B16 (os ++ [c]) := by
  have e := h.eq
  rw [List.take_length] at e
  exact ⟨by rw [val_snoc, h.len]; exact e, lim_snoc h.lim h.clt⟩

/-- a digit found by halving: D goes low times into A, and not high + 1 times -/
theorem dig_start {A D : Nat} (h : A < D * 65536) : D * 0 ≤ A ∧ A < D * (65535 + 1) := ⟨by omega, by omega⟩
theorem dig_end {A D q : Nat} (h1 : D * q ≤ A) (h2 : A < D * (q + 1)) : q = A / D ∧ A - D * q = A % D := by
  have hD : 0 < D := by
    rcases Nat.eq_zero_or_pos D with h | h
    · subst h; omega
    · exact h
  have e : q = A / D := by
    refine (Nat.div_eq_of_lt_le ?_ ?_).symm
    · rw [Nat.mul_comm]; exact h1
    · rw [Nat.mul_comm]; exact h2
  subst e
  have := Nat.div_add_mod A D
  exact ⟨rfl, by omega⟩

/-- after the digits from k on -/
structure DvT (xs Q : List Nat) (D k r : Nat) : Prop where
  len : Q.length = xs.length
  lim : Lim B16 Q
  eq : val B16 (xs.drop k) = val B16 (Q.drop k) * D + r
  lt : r < D
theorem dvT_zero {xs : List Nat} {D : Nat} (hD : 0 < D) : DvT xs (List.replicate xs.length 0) D xs.length 0 :=
  ⟨by simp, fun j => by rw [getD_replicate]; unfold B16; omega, by simp [val], hD⟩
theorem dvT_room {xs Q : List Nat} {D k r : Nat} (h : DvT xs Q D (k + 1) r) (lx : Lim B16 xs) : xs.getD k 0 + B16 * r < D * 65536 := by
  have hx := lx k
  have hr := h.lt
  have h1 : B16 * (r + 1) ≤ B16 * D := Nat.mul_le_mul_left _ hr
  unfold B16 at *
  omega
theorem dvT_step {xs Q : List Nat} {D k r : Nat} (h : DvT xs Q D (k + 1) r) (lx : Lim B16 xs) (hk : k < xs.length) :
    DvT xs (Q.set k ((xs.getD k 0 + B16 * r) / D)) D k ((xs.getD k 0 + B16 * r) % D) := by
  have hroom := dvT_room h lx
  have hD : 0 < D := by have := h.lt; omega
  have hql := h.len
  have hq : (xs.getD k 0 + B16 * r) / D < B16 := by rw [Nat.div_lt_iff_lt_mul hD, Nat.mul_comm B16 D]; exact hroom
  refine ⟨by rw [List.length_set, hql], lim_set h.lim hq _, ?_, Nat.mod_lt _ hD⟩
  have e := h.eq
  rw [val_drop B16 xs k hk, val_drop B16 (Q.set k _) k (by rw [List.length_set]; omega), getD_set' _ _ _ _ (by omega), if_pos rfl]
  have e2 : (Q.set k ((xs.getD k 0 + B16 * r) / D)).drop (k + 1) = Q.drop (k + 1) := by
    rw [List.drop_set_of_lt (by omega)]
  rw [e2, e]
  generalize val B16 (Q.drop (k + 1)) = V at *
  generalize xs.getD k 0 = x at *
  have e3 := Nat.div_add_mod (x + B16 * r) D
  generalize (x + B16 * r) / D = q at *
  generalize (x + B16 * r) % D = m at *
  rw [Nat.add_mul, Nat.mul_add, ← Nat.mul_assoc]
  rw [Nat.mul_comm D q] at e3
  omega
theorem dvT_end {xs Q : List Nat} {D r : Nat} (h : DvT xs Q D 0 r) : val B16 Q = val B16 xs / D ∧ r = val B16 xs % D := by
  have hD : 0 < D := by have := h.lt; omega
  have e := h.eq
  have hlt := h.lt
  simp only [List.drop_zero] at e
  rw [e]
  constructor
  · rw [Nat.mul_comm, Nat.mul_add_div hD, Nat.div_eq_of_lt hlt, Nat.add_zero]
  · rw [Nat.mul_comm, Nat.mul_add_mod, Nat.mod_eq_of_lt hlt]
end Go.Proofs.YtkccjddmmjdceaaDoor.Mth

/- tribunalref02: Times. -/
namespace Go.Proofs.YtkccjddmmjdceaaDoor
open Go.RowKit Mth

/-- make([]uint16, n) -/
theorem make_dig {w : World} {ops : Array Oper} {rest : List Oper} {o : Oper} {a : Act} {Q : Exit → Act → World → Prop}
    (hg : o.guard = none) (l c : Operand) (hop : o.op = Op.makeSlice 49 l c) (L C : Int) (n : Nat) (hl : a.eval l = .int .i64 L) (hc : a.eval c = .int .i64 C) (hL : L = (n : Int)) (hC : C = (n : Int))
    (hn : n ≤ 16777217)
    (hK : ∀ w', Row w' 73 .u16 w.heap.size (List.replicate n 0) → Below w.heap.size w w' → wpList Tryd.prog ops Q rest (a.put o.dst (.slice (some ⟨w.heap.size, 0, none⟩) n n)) w') :
    wpList Tryd.prog ops Q (o :: rest) a w := by
  obtain ⟨i0, hi, hz0, hz1, hz2⟩ := info_parts info_u16
  refine wpList_make_full w hg l c 49 hop w.heap.size 73 i0 _ 1 Tryd.underlying49 hi hz0 hz1 .i64 .i64 L C n hl hc hL hC (by rw [hz2]; omega) (by unfold maxLen; omega) (Nat.le_refl _) ?_
  intro w' hown hgrow
  rw [zeros_own] at hown
  exact hK w' (row_of_own hown).1 ((Below.refl _ _).grown hgrow (Nat.le_refl _) (fun k e => by simp at e))
theorem grown_drawn {a w : World} {row : Option Nat} (h : a.grownBy w row) (n : Nat) : a.grownBy (w.drewN n) row := grown_trans' h ⟨rfl, rfl, rfl, Nat.le_refl _, fun _ _ _ => rfl⟩
theorem times_sg (x y : Int) : sg (!(sgn x == sgn y)) (x.natAbs * y.natAbs) = x * y := by
  have hx := sg_sgn x
  have hy := sg_sgn y
  generalize x.natAbs = m at *
  generalize y.natAbs = n at *
  generalize sgn x = b at *
  generalize sgn y = c at *
  subst hx hy
  cases b <;> cases c <;> simp [sg, Int.neg_mul, Int.mul_neg]

/-- what the loops of Times hold -/
def TimO (w1 wr : World) (g : Nat) (xs ys : List Nat) (i : Value) : Prop := ∃ (k : Nat) (R : List Nat), k ≤ xs.length ∧ i = .int .i64 k ∧ ProdT R xs ys k ∧ Row wr 73 .u16 g R ∧ w1.grownBy wr (some g)
def TimI (w1 wr : World) (g : Nat) (R ys : List Nat) (x i : Nat) (c j : Value) : Prop := ∃ (k cc : Nat) (R' : List Nat), j = .int .i64 k ∧ c = .int .u32 (cc : Int) ∧ k ≤ ys.length ∧ RowU R R' ys x i k cc ∧ Row wr 73 .u16 g R' ∧ w1.grownBy wr (some g)

end Go.Proofs.YtkccjddmmjdceaaDoor

/- tribunalref02: Mul. -/
namespace Go.Proofs.YtkccjddmmjdceaaDoor
open Go.RowKit Mth

/-- a bound of all that the row lets in: numbers of bulk at most 1048576 -/
def Bk : Nat := 1048576
def BkN : Nat := B64 ^ Bk
theorem bkn_b16 {n : Nat} (h : n < BkN) : n < B16 ^ (4 * Bk) := by rw [← b64_b16]; exact h

end Go.Proofs.YtkccjddmmjdceaaDoor
