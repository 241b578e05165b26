/- Long division by hand, in plain mathematics. -/
import Derived.Test.YtafeokkkbiaajabDoorDivMath
import Derived.Test.YtafeokkkbiaajabDoorLenMath
namespace Go.Proofs.YtafeokkkbiaajabDoor.Mth

/-- after k rounds of takeTimes on the row R from off on: c is borrowed -/
structure TkT (R R' : List Nat) (off : Nat) (b : List Nat) (x k c : Nat) : Prop where
  len : R'.length = R.length
  rest : ∀ j, j < off ∨ off + k ≤ j → R'.getD j 0 = R.getD j 0
  lim : Lim B64 R'
  clt : c < B64
  eq : seg R' off k + x * val B64 (b.take k) = seg R off k + B64 ^ k * c
theorem tkT_zero {R : List Nat} {off : Nat} {b : List Nat} {x : Nat} (h : Lim B64 R) : TkT R R off b x 0 0 :=
  ⟨rfl, fun _ _ => rfl, h, by have := B64_pos; omega, by simp [seg_zero, val]⟩
def borrowT (x y c s : Nat) : Nat := pHi x y c + sHi s (pLo x y c) 0
theorem borrow_eq {x y c s : Nat} (hs : s < B64) : sLo s (pLo x y c) 0 + x * y + c = s + B64 * borrowT x y c s := by
  have e1 := p_eq x y c
  have e2 := s_eq (x := s) (y := pLo x y c) (b := 0) hs (pLo_lt _ _ _) (by omega)
  unfold borrowT
  rw [Nat.mul_add]
  omega
theorem borrowT_lt {x y c s : Nat} (hx : x < B64) (hy : y < B64) (hc : c < B64) (hs : s < B64) : borrowT x y c s < B64 := by
  have e := borrow_eq (x := x) (y := y) (c := c) hs
  have e2 := sLo_lt s (pLo x y c) 0
  have h2 : x * y ≤ (B64 - 1) * (B64 - 1) := Nat.mul_le_mul (by omega) (by omega)
  have h3 : (B64 - 1) * (B64 - 1) + 2 * (B64 - 1) < B64 * B64 := by unfold B64; omega
  have h4 : B64 * borrowT x y c s < B64 * B64 := by omega
  exact Nat.lt_of_mul_lt_mul_left h4
theorem tkT_step {R R' : List Nat} {off : Nat} {b : List Nat} {x k c : Nat} (h : TkT R R' off b x k c) (hx : x < B64) (hb : Lim B64 b) (hk : k < b.length) (hoff : off + b.length ≤ R.length) :
    TkT R (R'.set (off + k) (sLo (R'.getD (off + k) 0) (pLo x (b.getD k 0) c) 0)) off b x (k + 1) (borrowT x (b.getD k 0) c (R'.getD (off + k) 0)) := by
  have hl := h.len
  refine ⟨by rw [List.length_set, hl], ?_, lim_set h.lim (sLo_lt _ _ _) _, borrowT_lt hx (hb k) h.clt (h.lim _), ?_⟩
  · intro j hj
    rw [getD_set' _ _ _ _ (by omega), if_neg (by omega)]
    exact h.rest j (by omega)
  · rw [seg_succ _ _ _ (by rw [List.length_set]; omega), getD_set' _ _ _ _ (by omega), if_pos rfl, seg_succ R off k (by omega), val_take_succ B64 b k hk]
    have e0 : seg (R'.set (off + k) (sLo (R'.getD (off + k) 0) (pLo x (b.getD k 0) c) 0)) off k = seg R' off k :=
      seg_congr (by rw [List.length_set]) (fun j h1 h2 => by rw [getD_set' _ _ _ _ (by omega), if_neg (by omega)]) (by rw [List.length_set]; omega)
    rw [e0]
    have e1 := borrow_eq (x := x) (y := b.getD k 0) (c := c) (h.lim (off + k))
    have e3 := h.eq
    have e4 := h.rest (off + k) (by omega)
    rw [e4] at e1 ⊢
    generalize sLo (R.getD (off + k) 0) (pLo x (b.getD k 0) c) 0 = sl at *
    generalize b.getD k 0 = y at *
    generalize R.getD (off + k) 0 = s at *
    generalize borrowT x y c s = bw at *
    generalize seg R' off k = s1 at *
    generalize seg R off k = s2 at *
    generalize val B64 (b.take k) = vb at *
    have e7 : B64 ^ k * sl + B64 ^ k * (x * y) + B64 ^ k * c = B64 ^ k * s + B64 ^ k * (B64 * bw) := by rw [← Nat.mul_add, ← Nat.mul_add, e1, Nat.mul_add]
    have e8 : x * (B64 ^ k * y) = B64 ^ k * (x * y) := Nat.mul_left_comm _ _ _
    rw [Nat.pow_succ, Nat.mul_assoc, Nat.mul_add x vb, e8]
    omega

/-- a guess of a digit, by the three highest limbs T of P and the two highest, E, of D -/
theorem guess_ok {B M P D T E Pl Dl q : Nat} (hP : P = T * M + Pl) (hPl : Pl < M) (hD : D = E * M + Dl) (hDl : Dl < M) (hE : B ≤ E) (hq : q = T / E) (hqB : q < B) :
    P / D ≤ q ∧ q ≤ P / D + 1 := by
  have hE0 : 0 < E := by omega
  have hM : 0 < M := by omega
  have hEM : 0 < E * M := Nat.mul_pos hE0 hM
  have hD0 : 0 < D := by omega
  constructor
  · rw [hq, Nat.le_div_iff_mul_le hE0]
    have h1 : P / D * D ≤ P := Nat.div_mul_le_self P D
    have h2 : P / D * (E * M) ≤ P / D * D := Nat.mul_le_mul_left _ (by omega)
    have h3 : P / D * E * M < (T + 1) * M := by rw [Nat.mul_assoc, Nat.add_mul, Nat.one_mul]; omega
    have := Nat.lt_of_mul_lt_mul_right h3
    omega
  · rcases Nat.eq_zero_or_pos q with h0 | h0
    · rw [h0]; exact Nat.zero_le _
    · obtain ⟨m, rfl⟩ : ∃ m, q = m + 1 := ⟨q - 1, by omega⟩
      have h1 : (m + 1) * E ≤ T := by rw [hq]; exact Nat.div_mul_le_self T E
      have h2 : (m + 1) * E * M ≤ T * M := Nat.mul_le_mul_right _ h1
      have h3 : (m + 1) * Dl ≤ B * M := Nat.mul_le_mul (by omega) (by omega)
      have h4 : B * M ≤ E * M := Nat.mul_le_mul_right _ hE
      have h5 : (m + 1) * D = (m + 1) * E * M + (m + 1) * Dl := by rw [hD, Nat.mul_add, Nat.mul_assoc]
      have h6 : (m + 1) * D = m * D + D := by rw [Nat.add_mul, Nat.one_mul]
      have h7 : m * D ≤ P := by omega
      have := (Nat.le_div_iff_mul_le hD0).2 h7
      omega
theorem guess_top {B N P D d t : Nat} (hD : D ≤ (d + 1) * N) (hP : t * (B * N) ≤ P) (hd : d ≤ t) (hB : B ≤ 2 * d) (h2 : 2 ≤ B) (hD0 : 0 < D) (hlt : P < B * D) : P / D ≤ B - 1 ∧ B - 1 ≤ P / D + 1 := by
  constructor
  · have := (Nat.div_lt_iff_lt_mul hD0).2 hlt
    omega
  · obtain ⟨m, rfl⟩ : ∃ m, B = m + 2 := ⟨B - 2, by omega⟩
    have h3 : m * D ≤ P := by
      refine Nat.le_trans (Nat.mul_le_mul_left m hD) (Nat.le_trans ?_ hP)
      have h4 : d * ((m + 2) * N) ≤ t * ((m + 2) * N) := Nat.mul_le_mul_right _ hd
      refine Nat.le_trans ?_ h4
      rw [← Nat.mul_assoc, ← Nat.mul_assoc]
      refine Nat.mul_le_mul_right _ ?_
      rw [Nat.mul_add, Nat.mul_add, Nat.mul_one, Nat.mul_comm m d]
      omega
    have := (Nat.le_div_iff_mul_le hD0).2 h3
    omega
theorem seg_lt {R : List Nat} (h : Lim B64 R) (off n : Nat) : seg R off n < B64 ^ n := by
  unfold seg
  have h1 := val_lt (lim_take (by have := B64_pos; omega) (lim_drop h off) n)
  refine Nat.lt_of_lt_of_le h1 (Nat.pow_le_pow_right (by have := B64_pos; omega) ?_)
  rw [List.length_take]; omega
theorem seg_set_top {R : List Nat} {off n x : Nat} (h : off + n < R.length) : seg (R.set (off + n) x) off (n + 1) = seg R off n + B64 ^ n * x := by
  rw [seg_succ _ _ _ (by rw [List.length_set]; omega), getD_set' _ _ _ _ h, if_pos rfl]
  congr 1
  exact seg_congr (by rw [List.length_set]) (fun j h1 h2 => by rw [getD_set' _ _ _ _ h, if_neg (by omega)]) (by rw [List.length_set]; omega)

/-- one digit taken: what is left of the part from off on -/
structure DigT (R R' : List Nat) (off n D : Nat) : Prop where
  len : R'.length = R.length
  rest : ∀ j, j < off ∨ off + n + 1 ≤ j → R'.getD j 0 = R.getD j 0
  lim : Lim B64 R'
  eq : seg R' off (n + 1) = seg R off (n + 1) % D
/-- the guess was the digit -/
theorem dig_fine {R R1 d : List Nat} {off n q c : Nat} (h : TkT R R1 off d q n c) (hn : n = d.length) (hoff : off + n < R.length) (hq : seg R off (n + 1) / val B64 d ≤ q) (hc : c ≤ R1.getD (off + n) 0) (hD : 0 < val B64 d) :
    q = seg R off (n + 1) / val B64 d ∧ DigT R (R1.set (off + n) (R1.getD (off + n) 0 - c)) off n (val B64 d) := by
  have hl := h.len
  have e0 := h.rest (off + n) (by omega)
  have e1 := seg_succ R off n hoff
  have e2 := h.eq
  rw [List.take_of_length_le (by omega)] at e2
  have e3 := seg_set_top (R := R1) (off := off) (n := n) (x := R1.getD (off + n) 0 - c) (by omega)
  have hlm := h.lim (off + n)
  obtain ⟨r, hr⟩ : ∃ r, R1.getD (off + n) 0 = c + r := ⟨R1.getD (off + n) 0 - c, by omega⟩
  rw [← e0, hr, Nat.mul_add] at e1
  have e4 : R1.getD (off + n) 0 - c = r := by omega
  rw [e4] at e3
  have e5 : seg (R1.set (off + n) r) off (n + 1) + q * val B64 d = seg R off (n + 1) := by omega
  have h1 : q ≤ seg R off (n + 1) / val B64 d := (Nat.le_div_iff_mul_le hD).2 (by omega)
  have hqe : q = seg R off (n + 1) / val B64 d := by omega
  refine ⟨hqe, by rw [List.length_set, hl], fun j hj => by rw [getD_set' _ _ _ _ (by omega), if_neg (by omega)]; exact h.rest j (by omega), lim_set h.lim (by omega) _, ?_⟩
  rw [e4]
  have e6 := Nat.mod_add_div (seg R off (n + 1)) (val B64 d)
  rw [← hqe, Nat.mul_comm] at e6
  omega
/-- the guess was one above the digit -/
theorem dig_over_q {R R1 d : List Nat} {off n q c : Nat} (h : TkT R R1 off d q n c) (hn : n = d.length) (hoff : off + n < R.length) (hq : seg R off (n + 1) / val B64 d ≤ q) (hq1 : q ≤ seg R off (n + 1) / val B64 d + 1) (hc : R1.getD (off + n) 0 < c) :
    q = seg R off (n + 1) / val B64 d + 1 ∧ seg R off n + B64 ^ n * c = seg R1 off n + q * val B64 d := by
  have e0 := h.rest (off + n) (by omega)
  have e1 := seg_succ R off n hoff
  have e2 := h.eq
  rw [List.take_of_length_le (by omega)] at e2
  obtain ⟨r, hr⟩ : ∃ r, c = R1.getD (off + n) 0 + r := ⟨c - R1.getD (off + n) 0, by omega⟩
  have hr0 : 0 < r := by omega
  rw [← e0] at e1
  generalize R1.getD (off + n) 0 = p at *
  have e9 : B64 ^ n * c = B64 ^ n * p + B64 ^ n * r := by rw [hr, Nat.mul_add]
  have e11 : B64 ^ n * 1 ≤ B64 ^ n * r := Nat.mul_le_mul_left _ hr0
  have s1 := seg_lt h.lim off n
  have hgt : seg R off (n + 1) < q * val B64 d := by omega
  refine ⟨?_, e2.symm⟩
  rcases Nat.lt_or_ge (seg R off (n + 1) / val B64 d) q with h5 | h5
  · omega
  · have h6 : q = seg R off (n + 1) / val B64 d := by omega
    have := Nat.div_mul_le_self (seg R off (n + 1)) (val B64 d)
    rw [← h6] at this
    omega
theorem dig_over {R R1 R3 d : List Nat} {off n q c c3 : Nat} (h : TkT R R1 off d q n c) (hn : n = d.length) (hd : Lim B64 d) (hoff : off + n < R.length) (hqe : q = seg R off (n + 1) / val B64 d + 1) (e2 : seg R off n + B64 ^ n * c = seg R1 off n + q * val B64 d) (hc : R1.getD (off + n) 0 < c) (hD : 0 < val B64 d)
    (h3 : PutT (R1.set (off + n) (R1.getD (off + n) 0 + B64 - c)) R3 off d (n + 1) c3) : DigT R R3 off n (val B64 d) := by
  have hl := h.len
  have e0 := h.rest (off + n) (by omega)
  have e1 := seg_succ R off n hoff
  have e3 := seg_set_top (R := R1) (off := off) (n := n) (x := R1.getD (off + n) 0 + B64 - c) (by omega)
  have hclt := h.clt
  obtain ⟨r, hr⟩ : ∃ r, c = R1.getD (off + n) 0 + r := ⟨c - R1.getD (off + n) 0, by omega⟩
  have hrB : r ≤ B64 := by omega
  rw [← e0] at e1
  have e4 : R1.getD (off + n) 0 + B64 - c = B64 - r := by omega
  rw [e4] at e3 h3
  generalize R1.getD (off + n) 0 = p at *
  have e9 : B64 ^ n * c = B64 ^ n * p + B64 ^ n * r := by rw [hr, Nat.mul_add]
  have e10 : B64 ^ n * (B64 - r) + B64 ^ n * r = B64 ^ (n + 1) := by rw [← Nat.mul_add, Nat.sub_add_cancel hrB, Nat.pow_succ]
  have f1 := h3.eq
  rw [List.take_of_length_le (by omega), e3] at f1
  have f2 := Nat.mod_add_div (seg R off (n + 1)) (val B64 d)
  have f3 : q * val B64 d = val B64 d * (seg R off (n + 1) / val B64 d) + val B64 d := by rw [hqe, Nat.add_mul, Nat.one_mul, Nat.mul_comm]
  have f4 := Nat.mod_lt (seg R off (n + 1)) hD
  have f5 : val B64 d < B64 ^ (n + 1) := by
    have := val_lt hd
    rw [← hn] at this
    exact Nat.lt_of_lt_of_le this (Nat.pow_le_pow_right (by have := B64_pos; omega) (by omega))
  have f6 := seg_lt h3.lim off (n + 1)
  have f7 : seg R3 off (n + 1) + B64 ^ (n + 1) * c3 = seg R off (n + 1) % val B64 d + B64 ^ (n + 1) := by omega
  have f8 := h3.cle
  refine ⟨by rw [h3.len, List.length_set, hl], fun j hj => ?_, h3.lim, ?_⟩
  · rw [h3.rest j (by omega), getD_set' _ _ _ _ (by omega), if_neg (by omega)]
    exact h.rest j (by omega)
  · have : c3 = 0 ∨ c3 = 1 := by omega
    rcases this with rfl | rfl
    · omega
    · rw [Nat.mul_one] at f7; omega

/-- after the digits from k on have been taken -/
structure LongT (R Q : List Nat) (L m n N D k : Nat) : Prop where
  len : R.length = L
  qlen : Q.length = m
  lim : Lim B64 R
  qlim : Lim B64 Q
  lt : val B64 R < B64 ^ k * D
  eq : val B64 R + B64 ^ k * (val B64 (Q.drop k) * D) = N
theorem val_tail (R : List Nat) (z : Nat) (h : z ≤ R.length) : val B64 R = seg R 0 z + B64 ^ z * val B64 (R.drop z) := by
  have := val_split B64 R z h
  simpa [seg] using this
theorem drop_congr {R R' : List Nat} {z : Nat} (hl : R'.length = R.length) (h : ∀ j, z ≤ j → R'.getD j 0 = R.getD j 0) : R'.drop z = R.drop z :=
  list_congr (by simp [hl]) (fun j _ => by rw [getD_drop, getD_drop]; exact h _ (by omega))
theorem long_part {R Q : List Nat} {L m n N D i : Nat} (h : LongT R Q L m n N D (i + 1)) (hD : D ≤ B64 ^ n) (hi : i + n + 1 ≤ L) :
    val B64 R = seg R 0 i + B64 ^ i * seg R i (n + 1) ∧ val B64 (R.drop (i + n + 1)) = 0 ∧ seg R i (n + 1) < B64 * D := by
  have hl := h.len
  have e1 := val_tail R (i + (n + 1)) (by omega)
  have e2 := seg_split R i (n + 1) (by omega)
  have h1 := h.lt
  have h2 : B64 ^ (i + 1) * D ≤ B64 ^ (i + 1) * B64 ^ n := Nat.mul_le_mul_left _ hD
  rw [← Nat.pow_add, show i + 1 + n = i + (n + 1) by omega] at h2
  have h3 : val B64 (R.drop (i + (n + 1))) = 0 := by
    rcases Nat.eq_zero_or_pos (val B64 (R.drop (i + (n + 1)))) with h0 | h0
    · exact h0
    · have : B64 ^ (i + (n + 1)) * 1 ≤ B64 ^ (i + (n + 1)) * val B64 (R.drop (i + (n + 1))) := Nat.mul_le_mul_left _ h0
      omega
  rw [h3, e2, Nat.mul_zero, Nat.add_zero] at e1
  refine ⟨e1, h3, ?_⟩
  have h4 : B64 ^ i * seg R i (n + 1) < B64 ^ i * (B64 * D) := by
    have e5 : B64 ^ (i + 1) = B64 ^ i * B64 := Nat.pow_succ _ _
    rw [← Nat.mul_assoc, ← e5]; omega
  exact Nat.lt_of_mul_lt_mul_left h4
theorem long_step {R R' Q : List Nat} {L m n N D i : Nat} (h : LongT R Q L m n N D (i + 1)) (hD0 : 0 < D) (hD : D ≤ B64 ^ n) (hi : i + n + 1 ≤ L) (him : i < m) (hd : DigT R R' i n D) :
    LongT R' (Q.set i (seg R i (n + 1) / D)) L m n N D i := by
  obtain ⟨p1, p2, p3⟩ := long_part h hD hi
  have hl := h.len; have hql := h.qlen
  have hl' := hd.len
  have hqB : seg R i (n + 1) / D < B64 := (Nat.div_lt_iff_lt_mul hD0).2 p3
  have e1 := val_tail R' (i + (n + 1)) (by omega)
  have e2 := seg_split R' i (n + 1) (by omega)
  have e3 : seg R' 0 i = seg R 0 i := seg_congr hl' (fun j h1 h2 => hd.rest j (by omega)) (by omega)
  have e4 : R'.drop (i + (n + 1)) = R.drop (i + (n + 1)) := drop_congr hl' (fun j hj => hd.rest j (by omega))
  rw [e4, show i + (n + 1) = i + n + 1 from rfl, p2, Nat.mul_zero, Nat.add_zero, show i + n + 1 = i + (n + 1) from rfl, e2, e3, hd.eq] at e1
  have s1 := seg_lt h.lim 0 i
  have s2 := Nat.mod_lt (seg R i (n + 1)) hD0
  have s3 := Nat.mod_add_div (seg R i (n + 1)) D
  generalize seg R i (n + 1) = P at *
  refine ⟨by rw [hl', hl], by rw [List.length_set, hql], hd.lim, lim_set h.qlim hqB _, ?_, ?_⟩
  · have s4 : B64 ^ i * (P % D + 1) ≤ B64 ^ i * D := Nat.mul_le_mul_left _ s2
    rw [Nat.mul_add, Nat.mul_one] at s4
    omega
  · have f1 := val_drop B64 (Q.set i (P / D)) i (by rw [List.length_set]; omega)
    rw [getD_set' _ _ _ _ (by omega), if_pos rfl] at f1
    have f2 : (Q.set i (P / D)).drop (i + 1) = Q.drop (i + 1) := drop_congr (by rw [List.length_set]) (fun j hj => by rw [getD_set' _ _ _ _ (by omega), if_neg (by omega)])
    rw [f2] at f1
    rw [f1]
    have f3 := h.eq
    rw [p1] at f3
    rw [Nat.add_mul, Nat.mul_add, e1]
    have f4 : B64 ^ i * (B64 * val B64 (Q.drop (i + 1)) * D) = B64 ^ (i + 1) * (val B64 (Q.drop (i + 1)) * D) := by
      rw [Nat.pow_succ, Nat.mul_assoc B64, ← Nat.mul_assoc]
    have f5 : B64 ^ i * (P % D) + B64 ^ i * (P / D * D) = B64 ^ i * P := by rw [← Nat.mul_add, Nat.mul_comm (P / D), s3]
    rw [f4]
    omega
theorem long_end {R Q : List Nat} {L m n N D : Nat} (h : LongT R Q L m n N D 0) : val B64 Q = N / D ∧ val B64 R = N % D := by
  have h1 := h.lt
  have h2 := h.eq
  simp only [Nat.pow_zero, Nat.one_mul, List.drop_zero] at h1 h2
  rw [← h2, Nat.mul_comm, Nat.add_mul_div_left _ _ (by omega), Nat.div_eq_of_lt h1, Nat.add_mul_mod_self_left, Nat.mod_eq_of_lt h1]
  exact ⟨by omega, rfl⟩

/-- the divisor, shifted till its highest bit is set -/
theorem norm_facts {b : List Nat} {n m' s : Nat} (lb : Lim B64 b) (hn : b.length = n + 1) (h1 : 2 ^ m' ≤ b.getD n 0) (h2 : b.getD n 0 < 2 ^ (m' + 1)) (hs : s + (m' + 1) = 64) :
    2 ^ s * val B64 b < B64 ^ (n + 1) ∧ 2 ^ 63 * B64 ^ n ≤ 2 ^ s * val B64 b := by
  have e1 := val_split B64 b n (by omega)
  have e2 := val_drop B64 b n (by omega)
  rw [List.drop_of_length_le (by omega : b.length ≤ n + 1)] at e2
  have e3 : val B64 (b.drop n) = b.getD n 0 := by rw [e2]; simp [val]
  rw [e3] at e1
  have e4 := val_take_lt (by have := B64_pos; omega) lb n (by omega)
  generalize b.getD n 0 = x at *
  constructor
  · have h3 : val B64 b < B64 ^ n * 2 ^ (m' + 1) := by
      have h4 : B64 ^ n * (x + 1) ≤ B64 ^ n * 2 ^ (m' + 1) := Nat.mul_le_mul_left _ h2
      rw [Nat.mul_add, Nat.mul_one] at h4
      omega
    have h5 : 2 ^ s * val B64 b < 2 ^ s * (B64 ^ n * 2 ^ (m' + 1)) := Nat.mul_lt_mul_of_pos_left h3 (Nat.pow_pos (by omega))
    rw [Nat.mul_left_comm, ← Nat.pow_add, hs] at h5
    exact h5
  · have h6 : B64 ^ n * 2 ^ m' ≤ val B64 b := by
      have : B64 ^ n * 2 ^ m' ≤ B64 ^ n * x := Nat.mul_le_mul_left _ h1
      omega
    have h7 : 2 ^ s * (B64 ^ n * 2 ^ m') ≤ 2 ^ s * val B64 b := Nat.mul_le_mul_left _ h6
    rw [Nat.mul_left_comm, ← Nat.pow_add, show s + m' = 63 by omega, Nat.mul_comm] at h7
    exact h7
theorem norm_top {d : List Nat} {n V : Nat} (ld : Lim B64 d) (hn : n + 1 ≤ d.length) (hV : val B64 (d.take (n + 1)) = V) (h : 2 ^ 63 * B64 ^ n ≤ V) : B64 ≤ 2 * d.getD n 0 := by
  have e1 := val_take_succ B64 d n (by omega)
  have e4 := val_take_lt (by have := B64_pos; omega) ld n (by omega)
  have h1 : B64 ^ n * 2 ^ 63 < B64 ^ n * (d.getD n 0 + 1) := by
    rw [Nat.mul_add, Nat.mul_one, Nat.mul_comm _ (2 ^ 63)]; omega
  have h2 := Nat.lt_of_mul_lt_mul_left h1
  have h3 : B64 = 2 * 2 ^ 63 := rfl
  omega
end Go.Proofs.YtafeokkkbiaajabDoor.Mth
