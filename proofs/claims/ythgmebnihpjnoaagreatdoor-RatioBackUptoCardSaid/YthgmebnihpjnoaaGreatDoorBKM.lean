/- Declarations that the slim texts leave out, under new names (written by extract.py). -/
import Derived.Test.YthgmebnihpjnoaaGreatDoorRPA
import Derived.Test.YthgmebnihpjnoaaGreatDoorQB4
set_option linter.unusedVariables false
set_option linter.unusedSimpArgs false
namespace Go.Proofs.YthgmebnihpjnoaaGreatDoor
open Go.RowKit Mth

theorem dch_ltZ {d : Nat} (h : d < 36) : dch d < 256 := by unfold dch; split <;> omega
theorem dgs_ltZ {b : Nat} (h2 : 2 ≤ b) (hb : b ≤ 36) : ∀ f u, ∀ x ∈ dgs b f u, x < 256
  | 0, _, x, hx => by simp [dgs] at hx
  | f + 1, u, x, hx => by
    by_cases h : u < b
    · rw [dgs_low h] at hx
      simp at hx
      subst hx
      exact dch_ltZ (by omega)
    · rw [dgs_step h] at hx
      rcases List.mem_append.1 hx with h1 | h1
      · exact dgs_ltZ h2 hb f _ x h1
      · simp at h1
        subst h1
        exact dch_ltZ (by have := Nat.mod_lt u (show 0 < b by omega); unfold md; omega)
/-- the binary digit of 2 to the i -/
def bitNZ (n i : Nat) : Bool := decide (n / 2 ^ i % 2 = 1)
theorem bit_limbZ {xs : List Nat} (hl : Lim B64 xs) {q r : Nat} (hr : r < 64) (hq : q < xs.length) : bitNZ (val B64 xs) (64 * q + r) = decide (xs.getD q 0 / 2 ^ r % 2 = 1) := by
  unfold bitNZ
  have hs := val_split B64 xs q (by omega)
  have hd := val_drop B64 xs q hq
  have hlow := val_take_lt (by have := B64_pos; omega) hl q (by omega)
  have hpow : 2 ^ (64 * q + r) = B64 ^ q * 2 ^ r := by rw [Nat.pow_add, Nat.pow_mul]; rfl
  rw [hpow, ← Nat.div_div_eq_div_mul, hs, Nat.add_mul_div_left _ _ (Nat.lt_of_le_of_lt (Nat.zero_le _) hlow), Nat.div_eq_of_lt hlow, Nat.zero_add, hd]
  have h64 : B64 = 2 ^ r * (2 * 2 ^ (63 - r)) := by
    rw [← Nat.mul_assoc, Nat.mul_comm (2 ^ r) 2, Nat.mul_assoc, ← Nat.pow_add, show r + (63 - r) = 63 by omega]; rfl
  rw [h64, Nat.mul_assoc, Nat.add_mul_div_left _ _ (Nat.two_pow_pos r), Nat.mul_assoc, Nat.add_mul_mod_self_left]
theorem bit_farZ {xs : List Nat} (hl : Lim B64 xs) {i : Nat} (h : 64 * xs.length ≤ i) : bitNZ (val B64 xs) i = false := by
  unfold bitNZ
  have h1 := val_lt hl
  have h2 : B64 ^ xs.length ≤ 2 ^ i := by
    rw [show B64 = 2 ^ 64 from rfl, ← Nat.pow_mul]
    exact Nat.pow_le_pow_right (by omega) h
  rw [Nat.div_eq_of_lt (by omega)]
  rfl
theorem numeral_ltZ {b : Nat} (hb : 2 ≤ b) (hb2 : b ≤ 36) (n : Nat) : ∀ x ∈ numeral b n, x < 256 := dgs_ltZ hb hb2 _ _
theorem and1Z (u : Nat) (hu : u < B64) : bits BinOp.and IntKind.u64 (u : Int) 1 = ((md u 2 : Nat) : Int) := by
  unfold B64 at hu
  have := u64_and_nat u 1 hu (by omega)
  rw [show ((1 : Nat) : Int) = 1 from rfl] at this
  rw [this, Nat.and_one_is_mod]
  rfl
theorem bytes_listZ {l : List Nat} (h : ∀ x ∈ l, x < 256) (j : Nat) (hj : j < (toBytes l).length) : (((toBytes l)[j]'hj).toNat : Int) = ((l.getD j 0 : Nat) : Int) := by
  have hj' : j < l.length := by simpa [toBytes] using hj
  have := h l[j] (List.getElem_mem hj')
  simp [toBytes, List.getD_eq_getElem?_getD, hj']
  omega
/-- what Bit answers -/
def bitIZ (n : Nat) (i : Int) : Bool := decide (0 ≤ i) && bitNZ n i.toNat
theorem bit_endZ (x r : Nat) (hx : x < B64) : (bits BinOp.and IntKind.u64 ((x : Int) / 2 ^ r) 1 == 1) = decide (x / 2 ^ r % 2 = 1) := by
  have h1 : ((x : Int) / 2 ^ r) = ((x / 2 ^ r : Nat) : Int) := by rw [Int.natCast_ediv, Int.natCast_pow]; rfl
  have h2 := and1Z (x / 2 ^ r) (Nat.lt_of_le_of_lt (Nat.div_le_self _ _) hx)
  rw [h1, h2]
  unfold md
  rw [Bool.eq_iff_iff]
  simp
  omega
set_option maxRecDepth 100000 in
theorem bit_anyZ (v : Value) (xs : List Nat) (i : Int) (w : World) (h : Sl w .u64 v xs) (hl : Lim B64 xs) (h1 : -9223372036854775808 ≤ i) (h2 : i ≤ 9223372036854775807) :
    Calls Tryz.prog 86 #[v, .int .i64 i] w fun e w' => e = .returned (.bool (bitIZ (val B64 xs) i)) ∧ Below w.heap.size w w' := by
  have hlen := h.len
  by_cases hneg : i < 0
  · have E : Hid (bitIZ (val B64 xs) i = false) := Lib.hid (by unfold bitIZ; rw [decide_eq_false (by omega)]; rfl)
    have hd : decide (i < 0) = true := decide_eq_true hneg
    go_enter Tryz.func86, Tryz.ntmps86
    go_wp2
    go_ret
    exact ⟨by rw [E.out]; rfl, Below.refl _ _⟩
  · obtain ⟨n, rfl⟩ : ∃ n : Nat, i = n := ⟨i.toNat, by omega⟩
    obtain ⟨q, r, hqr, hr⟩ : ∃ q r, n = 64 * q + r ∧ r < 64 := ⟨n / 64, n % 64, by omega, by omega⟩
    have hq64 : (n : Int) / 64 = (q : Int) := by omega
    have hr64 : (n : Int) % 64 = (r : Int) := by omega
    have hd : decide ((n : Int) < 0) = false := decide_eq_false hneg
    obtain ⟨ao, cap, rfl, k1, k2, k3, k4, k5⟩ := h
    have hqb : (q : Int) ≤ 9223372036854775807 := by omega
    unfold maxLen at k2
    by_cases hfar : xs.length ≤ q
    · have E : Hid (bitIZ (val B64 xs) (n : Int) = false) := Lib.hid (by unfold bitIZ; rw [Int.toNat_natCast, bit_farZ hl (by omega)]; simp)
      have hd2 : decide ((xs.length : Int) ≤ (q : Int)) = true := decide_eq_true (by omega)
      clear k4 k5 hl hqr hneg
      go_enter Tryz.func86, Tryz.ntmps86
      go_wp2
      go_ret
      exact ⟨by rw [E.out]; rfl, Below.refl _ _⟩
    · obtain ⟨b, off, rfl, hb, hc⟩ := k5 (by omega)
      have E : Hid (bitIZ (val B64 xs) (n : Int) = decide (xs.getD q 0 / 2 ^ r % 2 = 1)) := Lib.hid (by unfold bitIZ; rw [Int.toNat_natCast, hqr, bit_limbZ hl hr (by omega), decide_eq_true (by omega), Bool.true_and])
      have hd2 : decide ((xs.length : Int) ≤ (q : Int)) = false := decide_eq_false (by omega)
      have hcq := hc q (by omega)
      have hx := hl q
      generalize xs.getD q 0 = x at *
      have HX := Lib.hid hx
      have hql : q < xs.length := by omega
      clear k4 k5 hl hc hx hqr hneg hfar
      go_enter Tryz.func86, Tryz.ntmps86
      go_wp2
      go_ret
      refine ⟨?_, Below.refl _ _⟩
      rw [E.out]
      exact ret_bool (bit_endZ x r HX.out)
/-- the value of a list of digits -/
def plvZ (b : Nat) (l : List Nat) : Nat := l.foldl (fun a c => a * b + dgv c) 0
theorem plv_snocZ (b : Nat) (l : List Nat) (c : Nat) : plvZ b (l ++ [c]) = plvZ b l * b + dgv c := by simp [plvZ, List.foldl_append]
theorem bt_bytesZ {l : List Nat} (h : ∀ x ∈ l, x < 256) (j : Nat) : bt ⟨(toBytes l).toArray⟩ j = l.getD j 0 := by
  unfold bt
  by_cases hj : j < l.length
  · have hs : j < (⟨(toBytes l).toArray⟩ : ByteArray).size := by rw [str_len]; exact hj
    rw [dif_pos hs]
    have h1 := bytes_listZ h j (by rw [length_toBytes]; exact hj)
    have h2 : ((⟨(toBytes l).toArray⟩ : ByteArray)[j]'hs) = (toBytes l)[j]'(by rw [length_toBytes]; exact hj) := rfl
    rw [h2]
    exact_mod_cast h1
  · have hs : ¬ j < (⟨(toBytes l).toArray⟩ : ByteArray).size := by rw [str_len]; exact hj
    rw [dif_neg hs, getD_ge l j (by omega)]
theorem pv_listZ {b : Nat} {l : List Nat} (h : ∀ x ∈ l, x < 256) : ∀ k, k ≤ l.length → pv ⟨(toBytes l).toArray⟩ b k = plvZ b (l.take k)
  | 0, _ => by simp [pv, plvZ]
  | k + 1, hk => by
    rw [take_snoc (by omega), plv_snocZ, ← pv_listZ h k (by omega)]
    show pv _ b k * b + dgv (bt _ k) = _
    rw [bt_bytesZ h]
theorem pv_allZ {b : Nat} {l : List Nat} (h : ∀ x ∈ l, x < 256) : pv ⟨(toBytes l).toArray⟩ b (⟨(toBytes l).toArray⟩ : ByteArray).size = plvZ b l := by
  rw [str_len, pv_listZ h _ (Nat.le_refl _), List.take_length]
theorem dgv_dchZ {d : Nat} (h : d < 16) : dgv (dch d) = d := by
  unfold dgv dch
  by_cases h1 : d < 10
  · rw [if_pos h1, if_pos (by omega)]; omega
  · rw [if_neg h1, if_neg (by omega), if_pos (by omega)]; omega
theorem plv_numeralZ {b : Nat} (hb : 2 ≤ b) (hb2 : b ≤ 16) (n : Nat) : plvZ b (numeral b n) = n := by
  induction n using Nat.strongRecOn with
  | _ n ih =>
    by_cases h : n < b
    · rw [numeral_low h]
      simp [plvZ, dgv_dchZ (show n < 16 by omega)]
    · rw [numeral_step hb h, plv_snocZ, ih (n / b) (Nat.div_lt_self (by omega) hb), dgv_dchZ (Nat.lt_of_lt_of_le (Nat.mod_lt _ (by omega)) hb2), Nat.mul_comm]
      exact Nat.div_add_mod _ _
theorem numeral_digitsZ {b : Nat} (hb : 2 ≤ b) (hb2 : b ≤ 16) (n : Nat) : ∀ x ∈ numeral b n, dgv x < b := by
  induction n using Nat.strongRecOn with
  | _ n ih =>
    by_cases h : n < b
    · rw [numeral_low h]
      intro x hx
      simp at hx
      subst hx
      rw [dgv_dchZ (by omega)]; exact h
    · rw [numeral_step hb h]
      intro x hx
      rcases List.mem_append.1 hx with h1 | h1
      · exact ih _ (Nat.div_lt_self (by omega) hb) x h1
      · simp at h1
        subst h1
        have := Nat.mod_lt n (show 0 < b by omega)
        rw [dgv_dchZ (by omega)]; exact this
theorem numeral_neZ {b : Nat} (hb : 2 ≤ b) (n : Nat) : numeral b n ≠ [] := by
  by_cases h : n < b
  · rw [numeral_low h]; simp
  · rw [numeral_step hb h]; simp
theorem okD_listZ {b : Nat} {l : List Nat} (h : ∀ x ∈ l, x < 256) (hd : ∀ x ∈ l, dgv x < b) (hne : l ≠ []) : okD ⟨(toBytes l).toArray⟩ b := by
  refine ⟨?_, fun i hi => ?_⟩
  · rw [str_len]
    have := List.length_pos_iff.2 hne
    omega
  · rw [str_len] at hi
    rw [bt_bytesZ h]
    refine hd _ ?_
    rw [List.getD_eq_getElem?_getD, List.getElem?_eq_getElem hi]
    exact List.getElem_mem hi
theorem fr_ratZ {w : World} {v : Value} {x : Int} {d : Nat} (h : FrV w v x d) (hx : x.natAbs < Big) (hd : d < Big) : RatV w v x d := by
  obtain ⟨a, k, c, a', k', c', e, n1, n2⟩ := h
  have e1 : IntR w (.agg #[.bool (sgn x), .slice a k c]) x := (FrV.two (w := w) (b := sgn x) ⟨a, k, c, a', k', c', rfl, n1, n2⟩ hx hd).2.1
  have e2 : IntR w (.agg #[.bool false, .slice a' k' c']) (d : Int) := (FrV.two (w := w) (b := sgn x) ⟨a, k, c, a', k', c', rfl, n1, n2⟩ hx hd).2.2
  obtain ⟨m1, u1, xs, f1, s1, l1, z1, v1⟩ := e1.2
  obtain ⟨m2, u2, ys, f2, s2, l2, z2, v2⟩ := e2.2
  simp only [Value.agg.injEq, Array.mk.injEq, List.cons.injEq, Value.bool.injEq, and_true] at f1 f2
  obtain ⟨rfl, rfl⟩ := f1
  obtain ⟨rfl, rfl⟩ := f2
  exact ⟨_, a, k, c, a', k', c', xs, ys, e, s1, l1, z1, v1, s2, l2, z2, Int.ofNat.inj v2⟩
theorem zS_ltZ (z : Int) : ∀ x ∈ zS z, x < 256 := by
  intro x hx
  unfold zS at hx
  split at hx
  · cases hx
  · split at hx
    · rcases List.mem_cons.1 hx with rfl | h
      · omega
      · exact numeral_ltZ (by omega) (by omega) _ _ h
    · exact numeral_ltZ (by omega) (by omega) _ _ hx
end Go.Proofs.YthgmebnihpjnoaaGreatDoor
