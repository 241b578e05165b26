/- Shifts limb by limb, in plain mathematics. -/
import Derived.Test.YtafeokkkbiaajabDoorAddMath
namespace Go.Proofs.YtafeokkkbiaajabDoor.Mth

theorem b64_split {n m : Nat} (h : n + m = 64) : B64 = 2 ^ n * 2 ^ m := by
  rw [← Nat.pow_add, h]; rfl
/-- one limb of a number shifted up, with what was carried; what is carried on -/
def upLo (x n c : Nat) : Nat := x * 2 ^ n % B64 + c
def upHi (x n : Nat) : Nat := x * 2 ^ n / B64
theorem up_eq (x n c : Nat) : upLo x n c + B64 * upHi x n = x * 2 ^ n + c := by
  have := Nat.mod_add_div (x * 2 ^ n) B64
  unfold upLo upHi; omega
theorem up_part {x n m : Nat} (h : n + m = 64) : x * 2 ^ n % B64 = 2 ^ n * (x % 2 ^ m) := by
  rw [b64_split h, Nat.mul_comm x, Nat.mul_mod_mul_left]
theorem up_lt {x n m c : Nat} (h : n + m = 64) (hc : c < 2 ^ n) : upLo x n c < B64 := by
  unfold upLo
  rw [up_part h, b64_split h]
  have h1 : x % 2 ^ m < 2 ^ m := Nat.mod_lt _ (Nat.pow_pos (by omega))
  have h2 : 2 ^ n * (x % 2 ^ m + 1) ≤ 2 ^ n * 2 ^ m := Nat.mul_le_mul_left _ h1
  rw [Nat.mul_add, Nat.mul_one] at h2
  omega
theorem upHi_lt {x n : Nat} (hx : x < B64) : upHi x n < 2 ^ n := by
  unfold upHi
  rw [Nat.div_lt_iff_lt_mul (by have := B64_pos; omega), Nat.mul_comm]
  exact Nat.mul_lt_mul_of_pos_left hx (Nat.pow_pos (by omega))
theorem upHi_div {x n m : Nat} (h : n + m = 64) : upHi x n = x / 2 ^ m := by
  unfold upHi
  rw [b64_split h, Nat.mul_comm x, Nat.mul_div_mul_left _ _ (Nat.pow_pos (by omega))]
theorem up_or {x n m c : Nat} (h : n + m = 64) (hc : c < 2 ^ n) : x * 2 ^ n % B64 ||| c = upLo x n c := by
  unfold upLo
  rw [up_part h, ← Nat.two_pow_add_eq_or_of_lt hc]

/-- after k rounds of shiftUp into R from off on -/
structure UpT (R R' : List Nat) (off : Nat) (xs : List Nat) (n k c : Nat) : Prop where
  len : R'.length = R.length
  rest : ∀ j, j < off ∨ off + k ≤ j → R'.getD j 0 = R.getD j 0
  lim : Lim B64 R'
  clt : c < 2 ^ n
  eq : seg R' off k + B64 ^ k * c = 2 ^ n * val B64 (xs.take k)
theorem upT_zero {R : List Nat} (off : Nat) (xs : List Nat) (n : Nat) (h : Lim B64 R) : UpT R R off xs n 0 0 := ⟨rfl, fun _ _ => rfl, h, Nat.pow_pos (by omega), by simp [seg_zero, val]⟩
theorem upT_step {R R' : List Nat} {off : Nat} {xs : List Nat} {n m k c : Nat} (h : UpT R R' off xs n k c) (hnm : n + m = 64) (lx : Lim B64 xs) (hk : off + k < R.length) :
    UpT R (R'.set (off + k) (upLo (xs.getD k 0) n c)) off xs n (k + 1) (upHi (xs.getD k 0) n) := by
  have hl := h.len
  refine ⟨by rw [List.length_set, hl], fun j hj => by rw [getD_set' _ _ _ _ (by omega), if_neg (by omega)]; exact h.rest j (by omega), lim_set h.lim (up_lt hnm h.clt) _, upHi_lt (lx k), ?_⟩
  rw [seg_succ _ _ _ (by rw [List.length_set]; omega), val_take_succ' B64 xs k, getD_set' _ _ _ _ (by omega), if_pos rfl]
  have e1 : seg (R'.set (off + k) (upLo (xs.getD k 0) n c)) off k = seg R' off k :=
    seg_congr (by rw [List.length_set]) (fun j h1 h2 => by rw [getD_set' _ _ _ _ (by omega), if_neg (by omega)]) (by rw [List.length_set]; omega)
  rw [e1]
  have e := up_eq (xs.getD k 0) n c
  generalize xs.getD k 0 = x at *
  have e4 := h.eq
  have e5 : B64 ^ k * upLo x n c + B64 ^ k * (B64 * upHi x n) = B64 ^ k * (x * 2 ^ n) + B64 ^ k * c := by
    rw [← Nat.mul_add, e, Nat.mul_add]
  rw [Nat.pow_succ, Nat.mul_assoc, Nat.mul_add]
  have e6 : 2 ^ n * (B64 ^ k * x) = B64 ^ k * (x * 2 ^ n) := by
    rw [Nat.mul_comm x, Nat.mul_left_comm]
  omega
/-- the whole: the last limb takes what is carried -/
structure UpAll (R R' : List Nat) (off : Nat) (xs : List Nat) (n : Nat) : Prop where
  len : R'.length = R.length
  rest : ∀ j, j < off ∨ off + xs.length + 1 ≤ j → R'.getD j 0 = R.getD j 0
  lim : Lim B64 R'
  eq : seg R' off (xs.length + 1) = 2 ^ n * val B64 xs
theorem upT_end {R R' : List Nat} {off : Nat} {xs : List Nat} {n c : Nat} (h : UpT R R' off xs n xs.length c) (hn : n ≤ 63) (hk : off + xs.length < R.length) : UpAll R (R'.set (off + xs.length) c) off xs n := by
  have hl := h.len
  have hc : c < B64 := Nat.lt_of_lt_of_le h.clt (by have : B64 = 2 ^ 64 := rfl; rw [this]; exact Nat.pow_le_pow_right (by omega) (by omega))
  refine ⟨by rw [List.length_set, hl], fun j hj => by rw [getD_set' _ _ _ _ (by omega), if_neg (by omega)]; exact h.rest j (by omega), lim_set h.lim hc _, ?_⟩
  rw [seg_succ _ _ _ (by rw [List.length_set]; omega), getD_set' _ _ _ _ (by omega), if_pos rfl]
  have e1 : seg (R'.set (off + xs.length) c) off xs.length = seg R' off xs.length :=
    seg_congr (by rw [List.length_set]) (fun j h1 h2 => by rw [getD_set' _ _ _ _ (by omega), if_neg (by omega)]) (by rw [List.length_set]; omega)
  have e := h.eq
  rw [List.take_length] at e
  rw [e1]; exact e
/-- zeros below: the whole row's number -/
theorem upAll_val {R' xs : List Nat} {off n : Nat} (h : UpAll (List.replicate (off + xs.length + 1) 0) R' off xs n) : val B64 R' = 2 ^ (64 * off + n) * val B64 xs := by
  have hl := h.len
  rw [List.length_replicate] at hl
  have e1 := seg_split R' off (xs.length + 1) (by omega)
  have e2 : seg R' 0 off = 0 := by
    have : seg R' 0 off = seg (List.replicate (off + xs.length + 1) 0) 0 off :=
      seg_congr (by rw [hl, List.length_replicate]) (fun j h1 h2 => h.rest j (by omega)) (by omega)
    rw [this]
    unfold seg
    refine val_zero fun j => ?_
    rw [getD_take]
    split
    · rw [getD_drop, getD_replicate]
    · rfl
  rw [show off + (xs.length + 1) = R'.length by omega, seg_all, e2, h.eq] at e1
  rw [e1, Nat.zero_add, ← Nat.mul_assoc]
  congr 1
  rw [Nat.pow_add, Nat.pow_mul]; rfl

/-- one limb of a number shifted down; what is carried on -/
def dnLo (x n c : Nat) : Nat := x / 2 ^ n + c
def dnHi (x m : Nat) : Nat := x * 2 ^ m % B64
/-- after the limbs from k on have been shifted down: c is what hangs over, at the top of a limb -/
structure DnT (R R' xs : List Nat) (n k c : Nat) : Prop where
  len : R'.length = R.length
  rest : ∀ j, j < k ∨ xs.length ≤ j → R'.getD j 0 = R.getD j 0
  lim : Lim B64 R'
  eq : val B64 (R'.take xs.length |>.drop k) = val B64 (xs.drop k) / 2 ^ n
  ceq : ∀ m, n + m = 64 → c = 2 ^ m * (val B64 (xs.drop k) % 2 ^ n)
theorem dnT_zero {R : List Nat} (xs : List Nat) (n : Nat) (h : Lim B64 R) (hx : xs.length ≤ R.length) : DnT R R xs n xs.length 0 := by
  refine ⟨rfl, fun _ _ => rfl, h, ?_, fun m _ => ?_⟩
  · rw [List.drop_of_length_le (by rw [List.length_take]; omega), List.drop_of_length_le (Nat.le_refl _)]; simp [val]
  · rw [List.drop_of_length_le (Nat.le_refl _)]; simp [val]
theorem dnHi_eq {x n m : Nat} (h : n + m = 64) : dnHi x m = 2 ^ m * (x % 2 ^ n) := by
  unfold dnHi
  rw [up_part (n := m) (m := n) (by omega)]
/-- a limb under a shifted number -/
theorem dn_parts {x V n m : Nat} (h : n + m = 64) : (x + B64 * V) / 2 ^ n = (x / 2 ^ n + 2 ^ m * (V % 2 ^ n)) + B64 * (V / 2 ^ n) ∧ (x + B64 * V) % 2 ^ n = x % 2 ^ n := by
  have hp : 0 < 2 ^ n := Nat.pow_pos (by omega)
  have e1 : B64 * V = 2 ^ n * (2 ^ m * V) := by rw [b64_split h, Nat.mul_assoc]
  have e2 : 2 ^ m * V = 2 ^ m * (V % 2 ^ n) + B64 * (V / 2 ^ n) := by
    have := Nat.mod_add_div V (2 ^ n)
    conv => lhs; rw [← this]
    rw [Nat.mul_add, b64_split h, Nat.mul_comm (2 ^ n) (2 ^ m), Nat.mul_assoc]
  constructor
  · rw [e1, Nat.add_mul_div_left _ _ hp, e2]; omega
  · rw [e1, Nat.add_mul_mod_self_left]
theorem dn_lt {x V n m : Nat} (h : n + m = 64) (hx : x < B64) : dnLo x n (2 ^ m * (V % 2 ^ n)) < B64 := by
  unfold dnLo
  have hp : 0 < 2 ^ n := Nat.pow_pos (by omega)
  have h1 : x / 2 ^ n < 2 ^ m := by
    rw [Nat.div_lt_iff_lt_mul hp, Nat.mul_comm, ← b64_split h]; exact hx
  have h2 : V % 2 ^ n < 2 ^ n := Nat.mod_lt _ hp
  have h3 : 2 ^ m * (V % 2 ^ n + 1) ≤ 2 ^ m * 2 ^ n := Nat.mul_le_mul_left _ h2
  rw [Nat.mul_add, Nat.mul_one, Nat.mul_comm (2 ^ m) (2 ^ n), ← b64_split h] at h3
  omega
theorem dn_or {x V n m : Nat} (h : n + m = 64) (hx : x < B64) : x / 2 ^ n ||| 2 ^ m * (V % 2 ^ n) = dnLo x n (2 ^ m * (V % 2 ^ n)) := by
  have hp : 0 < 2 ^ n := Nat.pow_pos (by omega)
  have h1 : x / 2 ^ n < 2 ^ m := by
    rw [Nat.div_lt_iff_lt_mul hp, Nat.mul_comm, ← b64_split h]; exact hx
  unfold dnLo
  rw [Nat.or_comm, ← Nat.two_pow_add_eq_or_of_lt h1]
  omega
theorem dnT_step {R R' xs : List Nat} {n m k c : Nat} (h : DnT R R' xs n (k + 1) c) (hnm : n + m = 64) (lx : Lim B64 xs) (hk : k < xs.length) (hR : xs.length ≤ R.length) :
    DnT R (R'.set k (dnLo (xs.getD k 0) n c)) xs n k (dnHi (xs.getD k 0) m) := by
  have hl := h.len
  have hc := h.ceq m hnm
  have hd := val_drop B64 xs k hk
  have hp := dn_parts (x := xs.getD k 0) (V := val B64 (xs.drop (k + 1))) hnm
  have hlt := dn_lt (x := xs.getD k 0) (V := val B64 (xs.drop (k + 1))) hnm (lx k)
  rw [← hc] at hlt
  refine ⟨by rw [List.length_set, hl], fun j hj => by rw [getD_set' _ _ _ _ (by omega), if_neg (by omega)]; exact h.rest j (by omega), lim_set h.lim hlt _, ?_, fun m' hm' => ?_⟩
  · rw [hd, hp.1, ← hc]
    have e1 : k < ((R'.set k (dnLo (xs.getD k 0) n c)).take xs.length).length := by rw [List.length_take, List.length_set]; omega
    rw [val_drop B64 _ k e1]
    have e2 : ((R'.set k (dnLo (xs.getD k 0) n c)).take xs.length).getD k 0 = dnLo (xs.getD k 0) n c := by
      rw [getD_take, if_pos hk, getD_set' _ _ _ _ (by omega), if_pos rfl]
    have e3 : ((R'.set k (dnLo (xs.getD k 0) n c)).take xs.length).drop (k + 1) = (R'.take xs.length).drop (k + 1) := by
      apply list_congr
      · simp
      · intro j hj
        simp only [List.length_drop, List.length_take, List.length_set] at hj
        rw [getD_drop, getD_drop, getD_take, getD_take]
        split
        · rw [getD_set' _ _ _ _ (by omega), if_neg (by omega)]
        · rfl
    rw [e2, e3, h.eq]
    rfl
  · obtain rfl : m' = m := by omega
    rw [hd, hp.2]
    exact dnHi_eq hnm
theorem dnT_end {R R' xs : List Nat} {n c : Nat} (h : DnT R R' xs n 0 c) : val B64 (R'.take xs.length) = val B64 xs / 2 ^ n := by
  have := h.eq
  simpa using this
end Go.Proofs.YtafeokkkbiaajabDoor.Mth
