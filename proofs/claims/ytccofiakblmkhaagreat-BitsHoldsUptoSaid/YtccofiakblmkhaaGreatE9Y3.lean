/- TiMath YK YM. -/
import Derived.Test.YtccofiakblmkhaaGreatE9MA
import Derived.Test.YtccofiakblmkhaaGreatE9Y2
set_option linter.unusedVariables false
set_option linter.unusedSimpArgs false
/- The product of digits of base 2^16 where a row's last carry goes into the place above; a division digit by digit from the top; plain mathematics. -/
namespace Go.Proofs.YtccofiakblmkhaaGreat.Mth

/-- after k digits of an amount times a digit n: what is carried -/
structure TdT (xs os : List Nat) (n k c : Nat) : Prop where
  len : os.length = k
  lim : Lim B16 os
  clt : c < B16
  eq : val B16 os + B16 ^ k * c = val B16 (xs.take k) * n
def tdS (x n c : Nat) : Nat := (c + x * n) % 65536
def tdC (x n c : Nat) : Nat := (c + x * n) / 65536
theorem td_le {x n c : Nat} (hx : x < B16) (hn : n < B16) (hc : c < B16) : c + x * n ≤ 4294967295 := by
  unfold B16 at *
  have : x * n ≤ 65535 * 65535 := Nat.mul_le_mul (by omega) (by omega)
  omega
theorem tdT_zero (xs : List Nat) (n : Nat) : TdT xs [] n 0 0 := ⟨rfl, lim_nil (by unfold B16; omega), by unfold B16; omega, by simp [val]⟩
theorem tdT_step {xs os : List Nat} {n k c : Nat} (h : TdT xs os n k c) (lx : Lim B16 xs) (hn : n < B16) : TdT xs (os ++ [tdS (xs.getD k 0) n c]) n (k + 1) (tdC (xs.getD k 0) n c) := by
  have hx := lx k
  have hc := h.clt
  have hle := td_le hx hn hc
  refine ⟨by rw [List.length_append, h.len]; rfl, lim_snoc h.lim (by unfold tdS B16; omega), by unfold tdC B16; omega, ?_⟩
  rw [val_snoc, h.len, val_take_succ' B16 xs k]
  have e := h.eq
  generalize xs.getD k 0 = x at *
  have e4 : tdS x n c + B16 * tdC x n c = c + x * n := by unfold tdS tdC B16; omega
  have e5 : B16 ^ k * tdS x n c + B16 ^ k * (B16 * tdC x n c) = B16 ^ k * c + B16 ^ k * (x * n) := by rw [← Nat.mul_add, e4, Nat.mul_add]
  have e6 : B16 ^ (k + 1) * tdC x n c = B16 ^ k * (B16 * tdC x n c) := by rw [Nat.pow_succ, Nat.mul_assoc]
  rw [e6, Nat.add_mul, Nat.mul_assoc]
  omega
theorem tdT_end {xs os : List Nat} {n c : Nat} (h : TdT xs os n xs.length c) : val B16 (os ++ [c]) = val B16 xs * n ∧ Lim B16 (os ++ [c]) := by
  have e := h.eq
  rw [List.take_length] at e
  exact ⟨by rw [val_snoc, h.len]; exact e, lim_snoc h.lim h.clt⟩

/-- a digit found by halving: D goes low times into A, and not high + 1 times -/
theorem dig_start {A D : Nat} (h : A < D * 65536) : D * 0 ≤ A ∧ A < D * (65535 + 1) := ⟨by omega, by omega⟩
theorem dig_end {A D q : Nat} (h1 : D * q ≤ A) (h2 : A < D * (q + 1)) : q = A / D ∧ A - D * q = A % D := by
  have hD : 0 < D := by
    rcases Nat.eq_zero_or_pos D with h | h
    · subst h; omega
    · exact h
  have e : q = A / D := by
    refine (Nat.div_eq_of_lt_le ?_ ?_).symm
    · rw [Nat.mul_comm]; exact h1
    · rw [Nat.mul_comm]; exact h2
  subst e
  have := Nat.div_add_mod A D
  exact ⟨rfl, by omega⟩

/-- after the digits from k on -/
structure DvT (xs Q : List Nat) (D k r : Nat) : Prop where
  len : Q.length = xs.length
  lim : Lim B16 Q
  eq : val B16 (xs.drop k) = val B16 (Q.drop k) * D + r
  lt : r < D
theorem dvT_zero {xs : List Nat} {D : Nat} (hD : 0 < D) : DvT xs (List.replicate xs.length 0) D xs.length 0 :=
  ⟨by simp, fun j => by rw [getD_replicate]; unfold B16; omega, by simp [val], hD⟩
theorem dvT_room {xs Q : List Nat} {D k r : Nat} (h : DvT xs Q D (k + 1) r) (lx : Lim B16 xs) : xs.getD k 0 + B16 * r < D * 65536 := by
  have hx := lx k
  have hr := h.lt
  have h1 : B16 * (r + 1) ≤ B16 * D := Nat.mul_le_mul_left _ hr
  unfold B16 at *
  omega
theorem dvT_step {xs Q : List Nat} {D k r : Nat} (h : DvT xs Q D (k + 1) r) (lx : Lim B16 xs) (hk : k < xs.length) :
    DvT xs (Q.set k ((xs.getD k 0 + B16 * r) / D)) D k ((xs.getD k 0 + B16 * r) % D) := by
  have hroom := dvT_room h lx
  have hD : 0 < D := by have := h.lt; omega
  have hql := h.len
  have hq : (xs.getD k 0 + B16 * r) / D < B16 := by rw [Nat.div_lt_iff_lt_mul hD, Nat.mul_comm B16 D]; exact hroom
  refine ⟨by rw [List.length_set, hql], lim_set h.lim hq _, ?_, Nat.mod_lt _ hD⟩
  have e := h.eq
  rw [val_drop B16 xs k hk, val_drop B16 (Q.set k _) k (by rw [List.length_set]; omega), getD_set' _ _ _ _ (by omega), if_pos rfl]
  have e2 : (Q.set k ((xs.getD k 0 + B16 * r) / D)).drop (k + 1) = Q.drop (k + 1) := by
    rw [List.drop_set_of_lt (by omega)]
  rw [e2, e]
  generalize val B16 (Q.drop (k + 1)) = V at *
  generalize xs.getD k 0 = x at *
  have e3 := Nat.div_add_mod (x + B16 * r) D
  generalize (x + B16 * r) / D = q at *
  generalize (x + B16 * r) % D = m at *
  rw [Nat.add_mul, Nat.mul_add, ← Nat.mul_assoc]
  rw [Nat.mul_comm D q] at e3
  omega
theorem dvT_end {xs Q : List Nat} {D r : Nat} (h : DvT xs Q D 0 r) : val B16 Q = val B16 xs / D ∧ r = val B16 xs % D := by
  have hD : 0 < D := by have := h.lt; omega
  have e := h.eq
  have hlt := h.lt
  simp only [List.drop_zero] at e
  rw [e]
  constructor
  · rw [Nat.mul_comm, Nat.mul_add_div hD, Nat.div_eq_of_lt hlt, Nat.add_zero]
  · rw [Nat.mul_comm, Nat.mul_add_mod, Nat.mod_eq_of_lt hlt]
end Go.Proofs.YtccofiakblmkhaaGreat.Mth

/- tribunalref02: Times. -/
namespace Go.Proofs.YtccofiakblmkhaaGreat
open Go.RowKit Mth

/-- make([]uint16, n) -/
theorem make_dig {w : World} {ops : Array Oper} {rest : List Oper} {o : Oper} {a : Act} {Q : Exit → Act → World → Prop}
    (hg : o.guard = none) (l c : Operand) (hop : o.op = Op.makeSlice 69 l c) (L C : Int) (n : Nat) (hl : a.eval l = .int .i64 L) (hc : a.eval c = .int .i64 C) (hL : L = (n : Int)) (hC : C = (n : Int))
    (hn : n ≤ 16777217)
    (hK : ∀ w', Row w' 117 .u16 w.heap.size (List.replicate n 0) → Below w.heap.size w w' → wpList Tryz.prog ops Q rest (a.put o.dst (.slice (some ⟨w.heap.size, 0, none⟩) n n)) w') :
    wpList Tryz.prog ops Q (o :: rest) a w := by
  obtain ⟨i0, hi, hz0, hz1, hz2⟩ := info_parts info_u16
  refine wpList_make_full w hg l c 69 hop w.heap.size 117 i0 _ 1 Tryz.underlying69 hi hz0 hz1 .i64 .i64 L C n hl hc hL hC (by rw [hz2]; omega) (by unfold maxLen; omega) (Nat.le_refl _) ?_
  intro w' hown hgrow
  rw [zeros_own] at hown
  exact hK w' (row_of_own hown).1 ((Below.refl _ _).grown hgrow (Nat.le_refl _) (fun k e => by simp at e))
end Go.Proofs.YtccofiakblmkhaaGreat

/- tribunalref02: Mul. -/
namespace Go.Proofs.YtccofiakblmkhaaGreat
open Go.RowKit Mth

end Go.Proofs.YtccofiakblmkhaaGreat
