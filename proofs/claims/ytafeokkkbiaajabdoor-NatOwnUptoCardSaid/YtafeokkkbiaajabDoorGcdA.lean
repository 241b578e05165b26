/- Lehmer's way to the greatest common divisor, in plain mathematics. -/
import Derived.Test.YtafeokkkbiaajabDoorDivMath
import Derived.Test.YtafeokkkbiaajabDoorQuoD
namespace Go.Proofs.YtafeokkkbiaajabDoor.Mth

/-- what the loop of simulate holds -/
structure SimI (ah bh a1 a2 u1 v1 u2 v2 : Nat) (ev : Bool) : Prop where
  r1 : ev = false → a1 + v1 * bh = u1 * ah
  r2 : ev = false → a2 + u2 * ah = v2 * bh
  s1 : ev = true → a1 + u1 * ah = v1 * bh
  s2 : ev = true → a2 + v2 * bh = u2 * ah
  rd : ev = false → u1 * v2 = v1 * u2 + 1
  sd : ev = true → v1 * u2 = u1 * v2 + 1
  le : a2 ≤ a1
  uv : u2 ≤ v2
  uvs : u1 + u2 ≤ v1 + v2
  sum : v2 * a1 + v1 * a2 = ah
  pos : v1 = 0 ∨ 1 ≤ u2
  one : 1 ≤ u1 + u2
  vp : 1 ≤ v2
theorem sim_start {ah bh : Nat} (h : bh ≤ ah) : SimI ah bh ah bh 1 0 0 1 false :=
  ⟨fun _ => by simp, fun _ => by simp, fun h => (by cases h), fun h => (by cases h), fun _ => by simp, fun h => (by cases h), h, by omega, by omega, by simp, .inl rfl, by omega, by omega⟩
/-- one step of Euclid's, on the leading bits -/
theorem sim_step {ah bh a1 a2 u1 v1 u2 v2 : Nat} {ev : Bool} (h : SimI ah bh a1 a2 u1 v1 u2 v2 ev) (hp : 0 < a2) :
    SimI ah bh a2 (a1 % a2) u2 v2 (u1 + a1 / a2 * u2) (v1 + a1 / a2 * v2) (!ev) := by
  have hq : 1 ≤ a1 / a2 := Nat.div_pos h.le hp
  have e := Nat.mod_add_div a1 a2
  have hlt := Nat.mod_lt a1 hp
  generalize a1 / a2 = q at *
  generalize a1 % a2 = m at *
  rw [Nat.mul_comm] at e
  have hqu : u2 ≤ q * u2 := Nat.le_mul_of_pos_left u2 hq
  have hqv : v2 ≤ q * v2 := Nat.le_mul_of_pos_left v2 hq
  have key : u1 + q * u2 ≤ v1 + q * v2 := by
    obtain ⟨r, rfl⟩ : ∃ r, q = r + 1 := ⟨q - 1, by omega⟩
    have h1 : r * u2 ≤ r * v2 := Nat.mul_le_mul_left _ h.uv
    have h2 := h.uvs
    rw [Nat.add_mul, Nat.add_mul, Nat.one_mul, Nat.one_mul]
    omega
  have e1 : u2 * (v1 + q * v2) = v1 * u2 + q * (u2 * v2) := by rw [Nat.mul_add, Nat.mul_comm u2 v1, Nat.mul_left_comm]
  have e2 : v2 * (u1 + q * u2) = u1 * v2 + q * (u2 * v2) := by rw [Nat.mul_add, Nat.mul_comm v2 u1, Nat.mul_left_comm, Nat.mul_comm v2 u2]
  refine ⟨fun hh => ?_, fun hh => ?_, fun hh => ?_, fun hh => ?_, fun hh => ?_, fun hh => ?_, by omega, key, ?_, ?_, ?_, ?_, ?_⟩
  · have hev : ev = true := by cases ev <;> simp_all
    exact h.s2 hev
  · have hev : ev = true := by cases ev <;> simp_all
    have f1 := h.s1 hev; have f2 := h.s2 hev
    have f3 : q * (a2 + v2 * bh) = q * (u2 * ah) := by rw [f2]
    rw [Nat.mul_add] at f3
    rw [Nat.add_mul, Nat.add_mul, Nat.mul_assoc, Nat.mul_assoc]
    omega
  · have hev : ev = false := by cases ev <;> simp_all
    exact h.r2 hev
  · have hev : ev = false := by cases ev <;> simp_all
    have f1 := h.r1 hev; have f2 := h.r2 hev
    have f3 : q * (a2 + u2 * ah) = q * (v2 * bh) := by rw [f2]
    rw [Nat.mul_add] at f3
    rw [Nat.add_mul, Nat.add_mul, Nat.mul_assoc, Nat.mul_assoc]
    omega
  · have hev : ev = true := by cases ev <;> simp_all
    have f1 := h.sd hev
    omega
  · have hev : ev = false := by cases ev <;> simp_all
    have f1 := h.rd hev
    omega
  · have h2 := h.uvs
    have h1 := h.uv
    omega
  · have f1 := h.sum
    have f2 : (v1 + q * v2) * a2 = v1 * a2 + v2 * (q * a2) := by rw [Nat.add_mul, Nat.mul_assoc, Nat.mul_left_comm q v2 a2]
    have f3 : v2 * a1 = v2 * m + v2 * (q * a2) := by rw [← e, Nat.mul_add]
    omega
  · right
    have h3 := h.one
    omega
  · have h3 := h.one
    omega
  · have := h.vp
    omega
/-- no factor is too great for a limb -/
theorem sim_small {ah bh a1 a2 u1 v1 u2 v2 : Nat} {ev : Bool} (h : SimI ah bh a1 a2 u1 v1 u2 v2 ev) (hp : 0 < a2) : v1 + v2 ≤ ah ∧ u1 + u2 ≤ ah := by
  have f1 := h.sum
  have h1 : v2 * 1 ≤ v2 * a1 := Nat.mul_le_mul_left _ (by have := h.le; omega)
  have h2 : v1 * 1 ≤ v1 * a2 := Nat.mul_le_mul_left _ hp
  have h3 := h.uvs
  omega

/-- factors that take Euclid's steps on the whole numbers, as they did on the leading bits -/
structure GoodS (ah bh u0 v0 u1 v1 x1 x2 : Nat) (ev : Bool) : Prop where
  e1 : ev = true → x1 + v0 * bh = u0 * ah
  e2 : ev = true → x2 + u1 * ah = v1 * bh
  ed : ev = true → u0 * v1 = v0 * u1 + 1
  o1 : ev = false → x1 + u0 * ah = v0 * bh
  o2 : ev = false → x2 + v1 * bh = u1 * ah
  od : ev = false → v0 * u1 = u0 * v1 + 1
  c1 : v1 ≤ x2
  c2 : v0 + v1 + x2 ≤ x1
  uv : u1 ≤ v1
  uvs : u0 + u1 ≤ v0 + v1
  pos : v0 = 0 ∨ 1 ≤ u1
theorem good_of_sim {ah bh a1 a2 u1 v1 u2 v2 : Nat} {ev : Bool} (h : SimI ah bh a1 a2 u1 v1 u2 v2 ev) (h1 : v2 ≤ a2) (h2 : v1 + v2 + a2 ≤ a1) : GoodS ah bh u1 v1 u2 v2 a1 a2 (!ev) := by
  refine ⟨fun hh => ?_, fun hh => ?_, fun hh => ?_, fun hh => ?_, fun hh => ?_, fun hh => ?_, h1, h2, h.uv, h.uvs, h.pos⟩
  · exact h.r1 (by cases ev <;> simp_all)
  · exact h.r2 (by cases ev <;> simp_all)
  · exact h.rd (by cases ev <;> simp_all)
  · exact h.s1 (by cases ev <;> simp_all)
  · exact h.s2 (by cases ev <;> simp_all)
  · exact h.sd (by cases ev <;> simp_all)

/-- the same steps of the whole numbers, where the first comes out as p times P less q times Q -/
theorem steps_gcd {A B u0 v0 u1 v1 X1 X2 : Nat} (h1 : X1 + v0 * B = u0 * A ∧ X2 + u1 * A = v1 * B ∧ u0 * v1 = v0 * u1 + 1 ∨ X1 + u0 * A = v0 * B ∧ X2 + v1 * B = u1 * A ∧ v0 * u1 = u0 * v1 + 1) :
    Nat.gcd X1 X2 = Nat.gcd A B ∧ B = u1 * X1 + u0 * X2 := by
  have hA : A = v1 * X1 + v0 * X2 := by
    rcases h1 with ⟨a, b, c⟩ | ⟨a, b, c⟩
    · have f1 : v1 * (X1 + v0 * B) = v1 * (u0 * A) := by rw [a]
      have f2 : v0 * (X2 + u1 * A) = v0 * (v1 * B) := by rw [b]
      have f3 : u0 * v1 * A = (v0 * u1 + 1) * A := by rw [c]
      rw [Nat.mul_add] at f1 f2
      rw [Nat.add_mul, Nat.one_mul, Nat.mul_assoc, Nat.mul_assoc, Nat.mul_left_comm u0] at f3
      rw [Nat.mul_left_comm v0 v1 B] at f2
      omega
    · have f1 : v1 * (X1 + u0 * A) = v1 * (v0 * B) := by rw [a]
      have f2 : v0 * (X2 + v1 * B) = v0 * (u1 * A) := by rw [b]
      have f3 : v0 * u1 * A = (u0 * v1 + 1) * A := by rw [c]
      rw [Nat.mul_add] at f1 f2
      rw [Nat.add_mul, Nat.one_mul, Nat.mul_assoc, Nat.mul_assoc, Nat.mul_left_comm u0] at f3
      rw [Nat.mul_left_comm v0 v1 B] at f2
      omega
  have hB : B = u1 * X1 + u0 * X2 := by
    rcases h1 with ⟨a, b, c⟩ | ⟨a, b, c⟩
    · have f1 : u1 * (X1 + v0 * B) = u1 * (u0 * A) := by rw [a]
      have f2 : u0 * (X2 + u1 * A) = u0 * (v1 * B) := by rw [b]
      have f3 : u0 * v1 * B = (v0 * u1 + 1) * B := by rw [c]
      rw [Nat.mul_add] at f1 f2
      rw [Nat.add_mul, Nat.one_mul, Nat.mul_assoc, Nat.mul_assoc, Nat.mul_left_comm v0] at f3
      rw [Nat.mul_left_comm u1 u0 A] at f1
      omega
    · have f1 : u1 * (X1 + u0 * A) = u1 * (v0 * B) := by rw [a]
      have f2 : u0 * (X2 + v1 * B) = u0 * (u1 * A) := by rw [b]
      have f3 : v0 * u1 * B = (u0 * v1 + 1) * B := by rw [c]
      rw [Nat.mul_add] at f1 f2
      rw [Nat.add_mul, Nat.one_mul, Nat.mul_assoc, Nat.mul_assoc, Nat.mul_left_comm v0] at f3
      rw [Nat.mul_left_comm u1 u0 A] at f1
      omega
  refine ⟨Nat.dvd_antisymm (Nat.dvd_gcd ?_ ?_) (Nat.dvd_gcd ?_ ?_), hB⟩
  · have hx := Nat.gcd_dvd_left X1 X2
    have hy := Nat.gcd_dvd_right X1 X2
    conv => rhs; rw [hA]
    exact Nat.dvd_add (Nat.dvd_trans hx (Nat.dvd_mul_left _ _)) (Nat.dvd_trans hy (Nat.dvd_mul_left _ _))
  · have hx := Nat.gcd_dvd_left X1 X2
    have hy := Nat.gcd_dvd_right X1 X2
    conv => rhs; rw [hB]
    exact Nat.dvd_add (Nat.dvd_trans hx (Nat.dvd_mul_left _ _)) (Nat.dvd_trans hy (Nat.dvd_mul_left _ _))
  · have ha : Nat.gcd A B ∣ u0 * A := Nat.dvd_trans (Nat.gcd_dvd_left A B) (Nat.dvd_mul_left _ _)
    have hb : Nat.gcd A B ∣ v0 * B := Nat.dvd_trans (Nat.gcd_dvd_right A B) (Nat.dvd_mul_left _ _)
    rcases h1 with ⟨a, _, _⟩ | ⟨a, _, _⟩
    · rw [← a] at ha
      exact (Nat.dvd_add_left hb).1 ha
    · rw [← a] at hb
      exact (Nat.dvd_add_left ha).1 hb
  · have ha : Nat.gcd A B ∣ u1 * A := Nat.dvd_trans (Nat.gcd_dvd_left A B) (Nat.dvd_mul_left _ _)
    have hb : Nat.gcd A B ∣ v1 * B := Nat.dvd_trans (Nat.gcd_dvd_right A B) (Nat.dvd_mul_left _ _)
    rcases h1 with ⟨_, a, _⟩ | ⟨_, a, _⟩
    · rw [← a] at hb
      exact (Nat.dvd_add_left ha).1 hb
    · rw [← a] at ha
      exact (Nat.dvd_add_left hb).1 ha
/-- Collins's condition: the whole numbers go the same way -/
theorem good_whole {A B M u0 v0 u1 v1 x1 x2 : Nat} {ev : Bool} (hM : 0 < M) (h : GoodS (A / M) (B / M) u0 v0 u1 v1 x1 x2 ev) (hv : v0 ≠ 0) :
    ∃ X1 X2, (ev = true → X1 + v0 * B = u0 * A ∧ X2 + u1 * A = v1 * B) ∧ (ev = false → X1 + u0 * A = v0 * B ∧ X2 + v1 * B = u1 * A) ∧ X2 < X1 ∧ X1 ≤ B ∧ Nat.gcd X1 X2 = Nat.gcd A B := by
  have eA := Nat.mod_add_div A M
  have eB := Nat.mod_add_div B M
  have lA := Nat.mod_lt A hM
  have lB := Nat.mod_lt B hM
  generalize A / M = ah at *
  generalize B / M = bh at *
  generalize A % M = al at *
  generalize B % M = bl at *
  have c1 := h.c1; have c2 := h.c2; have uv := h.uv; have uvs := h.uvs
  -- products of the rests
  have p1 : u1 * al ≤ x2 * M := Nat.le_trans (Nat.mul_le_mul_left _ (Nat.le_of_lt lA)) (Nat.mul_le_mul_right _ (by omega))
  have p2 : v1 * bl ≤ x2 * M := Nat.le_trans (Nat.mul_le_mul_left _ (Nat.le_of_lt lB)) (Nat.mul_le_mul_right _ (by omega))
  have p3 : (v0 + v1) * M + x2 * M ≤ x1 * M := by rw [← Nat.add_mul]; exact Nat.mul_le_mul_right _ c2
  have p4 : (v0 + v1) * bl < (v0 + v1) * M := Nat.mul_lt_mul_of_pos_left lB (by omega)
  have p5 : (u0 + u1) * al < (v0 + v1) * M := Nat.lt_of_le_of_lt (Nat.mul_le_mul_right _ uvs) (Nat.mul_lt_mul_of_pos_left lA (by omega))
  rw [Nat.add_mul] at p4 p5
  have hu1 : 1 ≤ u1 := by rcases h.pos with h0 | h0; exact absurd h0 hv; exact h0
  have exp : ∀ k, k * A = k * al + k * ah * M := fun k => by rw [← eA, Nat.mul_add, Nat.mul_comm M ah, Nat.mul_assoc]
  have exq : ∀ k, k * B = k * bl + k * bh * M := fun k => by rw [← eB, Nat.mul_add, Nat.mul_comm M bh, Nat.mul_assoc]
  have a0 := exp u0; have a1 := exp u1; have b0 := exq v0; have b1 := exq v1
  cases ev with
  | true =>
    have f1 : (x1 + v0 * bh) * M = u0 * ah * M := by rw [h.e1 rfl]
    have f2 : (x2 + u1 * ah) * M = v1 * bh * M := by rw [h.e2 rfl]
    rw [Nat.add_mul] at f1 f2
    obtain ⟨X2, hX2⟩ : ∃ X2, X2 + u1 * A = v1 * B := ⟨v1 * B - u1 * A, by omega⟩
    obtain ⟨X1, hX1⟩ : ∃ X1, X1 + v0 * B = u0 * A := ⟨u0 * A - v0 * B, by omega⟩
    have g := steps_gcd (.inl ⟨hX1, hX2, h.ed rfl⟩)
    refine ⟨X1, X2, fun _ => ⟨hX1, hX2⟩, fun h => (by cases h), by omega, ?_, g.1⟩
    have : 1 * X1 ≤ u1 * X1 := Nat.mul_le_mul_right _ hu1
    rw [g.2]; omega
  | false =>
    have f1 : (x1 + u0 * ah) * M = v0 * bh * M := by rw [h.o1 rfl]
    have f2 : (x2 + v1 * bh) * M = u1 * ah * M := by rw [h.o2 rfl]
    rw [Nat.add_mul] at f1 f2
    obtain ⟨X2, hX2⟩ : ∃ X2, X2 + v1 * B = u1 * A := ⟨u1 * A - v1 * B, by omega⟩
    obtain ⟨X1, hX1⟩ : ∃ X1, X1 + u0 * A = v0 * B := ⟨v0 * B - u0 * A, by omega⟩
    have g := steps_gcd (.inr ⟨hX1, hX2, h.od rfl⟩)
    refine ⟨X1, X2, fun h => (by cases h), fun _ => ⟨hX1, hX2⟩, by omega, ?_, g.1⟩
    have : 1 * X1 ≤ u1 * X1 := Nat.mul_le_mul_right _ hu1
    rw [g.2]; omega

/-- after k limbs of one number times p, less another one times q: what is carried of both, and borrowed -/
structure DfT (p q : Nat) (xs ys R : List Nat) (k c l b : Nat) : Prop where
  clt : c < B64
  llt : l < B64
  ble : b ≤ 1
  eq : val B64 (R.take k) + q * val B64 (ys.take k) + B64 ^ k * c = p * val B64 (xs.take k) + B64 ^ k * (l + b)
theorem dfT_zero (p q : Nat) (xs ys R : List Nat) : DfT p q xs ys R 0 0 0 0 := ⟨by have := B64_pos; omega, by have := B64_pos; omega, by omega, by simp [val]⟩
/-- the limb that comes out -/
def dfO (p q x y c l b : Nat) : Nat := sLo (pLo p x c) (pLo q y l) b
def dfB (p q x y c l b : Nat) : Nat := sHi (pLo p x c) (pLo q y l) b
theorem dfT_step {p q : Nat} {xs ys R R' : List Nat} {k c l b : Nat} (h : DfT p q xs ys R k c l b) (hp : p < B64) (hq : q < B64) (lx : Lim B64 xs) (ly : Lim B64 ys) (hx : k < xs.length) (hy : k < ys.length) (hR : k < R'.length)
    (hsame : R'.take k = R.take k) (hnew : R'.getD k 0 = dfO p q (xs.getD k 0) (ys.getD k 0) c l b) :
    DfT p q xs ys R' (k + 1) (pHi p (xs.getD k 0) c) (pHi q (ys.getD k 0) l) (dfB p q (xs.getD k 0) (ys.getD k 0) c l b) := by
  have hxl := lx k
  have hyl := ly k
  refine ⟨pHi_lt hp hxl h.clt, pHi_lt hq hyl h.llt, sHi_le _ _ _, ?_⟩
  rw [val_take_succ B64 R' k hR, val_take_succ B64 xs k hx, val_take_succ B64 ys k hy, hsame, hnew]
  have e1 := p_eq p (xs.getD k 0) c
  have e2 := p_eq q (ys.getD k 0) l
  have e3 := s_eq (x := pLo p (xs.getD k 0) c) (y := pLo q (ys.getD k 0) l) (b := b) (pLo_lt _ _ _) (pLo_lt _ _ _) h.ble
  have e4 := h.eq
  unfold dfO dfB
  generalize sLo (pLo p (xs.getD k 0) c) (pLo q (ys.getD k 0) l) b = o at *
  generalize sHi (pLo p (xs.getD k 0) c) (pLo q (ys.getD k 0) l) b = b' at *
  generalize pLo p (xs.getD k 0) c = f at *
  generalize pLo q (ys.getD k 0) l = t at *
  generalize pHi p (xs.getD k 0) c = c' at *
  generalize pHi q (ys.getD k 0) l = l' at *
  generalize xs.getD k 0 = x at *
  generalize ys.getD k 0 = y at *
  generalize val B64 (R.take k) = vr at *
  generalize val B64 (xs.take k) = vx at *
  generalize val B64 (ys.take k) = vy at *
  have e5 : o + q * y + l + B64 * c' + b = p * x + c + B64 * (l' + b') := by rw [Nat.mul_add]; omega
  have e6 : B64 ^ k * (o + q * y + l + B64 * c' + b) = B64 ^ k * (p * x + c + B64 * (l' + b')) := by rw [e5]
  simp only [Nat.mul_add] at e6 e4 ⊢
  have e7 : q * (B64 ^ k * y) = B64 ^ k * (q * y) := Nat.mul_left_comm _ _ _
  have e8 : p * (B64 ^ k * x) = B64 ^ k * (p * x) := Nat.mul_left_comm _ _ _
  have e9 : ∀ z, B64 ^ (k + 1) * z = B64 ^ k * (B64 * z) := fun z => by rw [Nat.pow_succ, Nat.mul_assoc]
  rw [e7, e8, e9, e9, e9]
  omega
/-- the whole comes out where it has few enough limbs -/
theorem dfT_end {p q T : Nat} {xs ys R : List Nat} {n c l b : Nat} (h : DfT p q xs ys R n c l b) (hx : n ≤ xs.length) (hy : n ≤ ys.length) (lR : Lim B64 R) (hR : n ≤ R.length) (hT : T + q * val B64 ys = p * val B64 xs) (hlt : T < B64 ^ n) : val B64 (R.take n) = T := by
  have e := h.eq
  have ex := val_split B64 xs n hx
  have ey := val_split B64 ys n hy
  have hr := val_take_lt (by have := B64_pos; omega) lR n hR
  rw [ex, ey, Nat.mul_add, Nat.mul_add, Nat.mul_left_comm q, Nat.mul_left_comm p] at hT
  generalize val B64 (R.take n) = O at *
  generalize q * val B64 (ys.take n) = K1 at *
  generalize p * val B64 (xs.take n) = K2 at *
  generalize q * val B64 (ys.drop n) = m1 at *
  generalize p * val B64 (xs.drop n) = m2 at *
  have e2 : T + B64 ^ n * (m1 + (l + b)) = O + B64 ^ n * (m2 + c) := by simp only [Nat.mul_add] at e ⊢; omega
  have e3 : (T + B64 ^ n * (m1 + (l + b))) % B64 ^ n = T := by rw [Nat.add_mul_mod_self_left, Nat.mod_eq_of_lt hlt]
  have e4 : (O + B64 ^ n * (m2 + c)) % B64 ^ n = O := by rw [Nat.add_mul_mod_self_left, Nat.mod_eq_of_lt hr]
  rw [← e4, ← e2, e3]
end Go.Proofs.YtafeokkkbiaajabDoor.Mth

/- nat: gcdLimbs, restByLimb, leading. -/
namespace Go.Proofs.YtafeokkkbiaajabDoor
open Go.RowKit Mth

/-- what gcdLimbs's loop holds -/
def GlO (w wr : World) (G : Nat) (av bv : Value) : Prop := ∃ x y : Nat, av = .int .u64 (x : Int) ∧ bv = .int .u64 (y : Int) ∧ Nat.gcd x y = G ∧ y < B64 ∧ Drawn w wr
set_option maxHeartbeats 1000000 in
set_option maxRecDepth 100000 in
theorem gcdLimbs_any (a b : Nat) (hb : b < B64) (w : World) : Calls Tryd.prog 32 #[.int .u64 ((a : Nat) : Int), .int .u64 ((b : Nat) : Int)] w fun e w' => e = .returned (.int .u64 ((Nat.gcd a b : Nat) : Int)) ∧ Drawn w w' := by
  have HB := Lib.hid hb
  clear hb
  go_enter Tryd.func32, Tryd.ntmps32
  go_wp2
  go_loopw [0, 1] (fun av bv wr => GlO w wr (Nat.gcd a b) av bv) (fun _ bv _ => (intOf bv).toNat)
  case atStart => exact ⟨a, b, rfl, rfl, rfl, HB.out, ⟨0, rfl⟩⟩
  case round =>
    obtain ⟨x, y, rfl, rfl, hg, hy, hdr⟩ := hrel
    have HD := Lib.hid hdr
    by_cases h0 : y = 0
    · have hd : ((y : Int) != 0) = false := by rw [h0]; rfl
      have E : Hid (x = Nat.gcd a b) := Lib.hid (by rw [← hg, h0, Nat.gcd_zero_right])
      clear hg hdr h0
      go_wp2
      go_ret
      exact ⟨by rw [← E.out]; rfl, HD.out⟩
    · have hd : ((y : Int) != 0) = true := by rw [bne_iff_ne]; omega
      have hyn : (y : Int) ≠ 0 := by omega
      have hm : (x : Int) % (y : Int) = ((x % y : Nat) : Int) := (Int.natCast_emod x y).symm
      have E : Hid (Nat.gcd y (x % y) = Nat.gcd a b) := Lib.hid (by rw [← hg, Nat.gcd_comm y, ← Nat.gcd_rec, Nat.gcd_comm])
      have hlt := Nat.mod_lt x (show 0 < y by omega)
      have hy64 : y ≤ 18446744073709551615 := by unfold B64 at hy; omega
      generalize x % y = m at *
      have HL := Lib.hid hlt; have HY := Lib.hid hy
      clear hg hdr h0 hlt hy
      go_wp2
      go_quiet (fail)
      go_wp2
      go_roundw
      case rel => exact ⟨y, m, rfl, by rw [hm], E.out, Nat.lt_trans HL.out HY.out, drawn_more HD.out _⟩
      case measure => have := HL.out; simp [intOf]; omega

/-- what restByLimb's loop holds -/
def RcO (w wr : World) (xs : List Nat) (d : Nat) (r i : Value) : Prop := ∃ k rr : Nat, k ≤ xs.length ∧ i = .int .i64 ((k : Int) - 1) ∧ r = .int .u64 (rr : Int) ∧ rr = val B64 (xs.drop k) % d ∧ Drawn w wr
set_option maxHeartbeats 2000000 in
set_option maxRecDepth 100000 in
theorem restByLimb_drawn (v : Value) (xs : List Nat) (d : Nat) (w : World) (h : Sl w .u64 v xs) (lx : Lim B64 xs) (hd : 0 < d) (hdb : d < B64) :
    Calls Tryd.prog 33 #[v, .int .u64 ((d : Nat) : Int)] w fun e w' => e = .returned (.int .u64 ((val B64 xs % d : Nat) : Int)) ∧ Drawn w w' := by
  have hlen := h.len
  obtain ⟨ao, cap, rfl, h1, h2, h3, h4, h5⟩ := h
  have H5 := Lib.hid h5; have LX := Lib.hid lx; have HD := Lib.hid hd; have HDB := Lib.hid hdb
  unfold maxLen at h2
  clear h3 h4 h5 lx hdb
  go_enter Tryd.func33, Tryd.ntmps33
  go_wp2
  go_loopw [5, 6] (fun r i wr => RcO w wr xs d r i) (fun _ i _ => (intOf i + 1).toNat)
  case atStart => exact ⟨xs.length, 0, Nat.le_refl _, rfl, rfl, by rw [List.drop_of_length_le (Nat.le_refl _)]; simp [val], ⟨0, rfl⟩⟩
  case round =>
    obtain ⟨k0, r, hk, rfl, rfl, hr, hdr⟩ := hrel
    have HB := Lib.hid hdr; have HRR := Lib.hid hr
    by_cases hlt : 0 < k0
    · obtain ⟨k, rfl⟩ : ∃ k, k0 = k + 1 := ⟨k0 - 1, by omega⟩
      have hkn : k < xs.length := by omega
      obtain ⟨b, off, rfl, hblt, hc⟩ := H5.out (by omega)
      have hcr : wr.cell? ⟨b, off + k, none⟩ = some (.int .u64 ((xs.getD k 0 : Nat) : Int)) := (hdr.cell _).trans (hc k hkn)
      have hrl : r < d := by rw [hr]; exact Nat.mod_lt _ HD.out
      have DV := fun w => div64_drawn r (xs.getD k 0) d hrl (LX.out k) HDB.out w
      have EN : Hid ((r * B64 + xs.getD k 0) % d = val B64 (xs.drop k) % d) := Lib.hid (by
        rw [val_drop B64 xs k hkn, hr]
        generalize val B64 (xs.drop (k + 1)) = V
        rw [Nat.mul_comm B64 V, Nat.add_comm (xs.getD k 0), Nat.add_mod, Nat.mul_mod, Nat.mod_mod, ← Nat.mul_mod, ← Nat.add_mod])
      generalize xs.getD k 0 = x at *
      have he : ((k + 1 : Nat) : Int) - 1 = (k : Int) := by omega
      have hk16 : k ≤ 16777217 := by omega
      clear hc hdr hrl hr
      rw [he]
      go_wp2_with fail
      refine (DV _).mono ?_
      rintro e w3 ⟨rfl, m3, rfl⟩
      have HB3 := Lib.hid (drawn_more HB.out m3)
      go_wp2
      go_roundw
      case rel => exact ⟨k, _, by omega, by go_num, rfl, EN.out, HB3.out⟩
      case measure => simp [intOf]
    · obtain rfl : k0 = 0 := by omega
      clear hdr hr
      go_wp2
      go_ret
      exact ⟨by rw [HRR.out]; rfl, HB.out⟩

theorem moves_any (u0 v0 u1 v1 : Nat) (ev : Bool) (w : World) : Calls Tryd.prog 49 #[.agg #[.int .u64 (u0 : Int), .int .u64 (v0 : Int), .int .u64 (u1 : Int), .int .u64 (v1 : Int), .bool ev]] w fun e w' => e = .returned (.bool (decide (v0 ≠ 0))) ∧ Below w.heap.size w w' := by
  go_enter Tryd.func49, Tryd.ntmps49
  go_wp2
  go_ret
  refine ⟨ret_bool ?_, (Below.refl _ _).alloc (Nat.le_refl _) _⟩
  by_cases h : v0 = 0
  · subst h; rfl
  · rw [decide_eq_true h, bne_iff_ne]; omega
/-- the 64 bits of a number from its place 64 m + t on -/
theorem lead_val {zs : List Nat} {m s t : Nat} (hz : zs.length ≤ m + 2) (lz : Lim B64 zs) (hst : s + t = 64) : val B64 zs / 2 ^ (64 * m + t) = zs.getD (m + 1) 0 * 2 ^ s + zs.getD m 0 / 2 ^ t := by
  have e : val B64 zs = val B64 (zs.take (m + 2)) := by rw [List.take_of_length_le hz]
  have hlow : val B64 (zs.take m) < B64 ^ m := by
    refine Nat.lt_of_lt_of_le (val_lt (lim_take (by have := B64_pos; omega) lz m)) (Nat.pow_le_pow_right (by have := B64_pos; omega) ?_)
    rw [List.length_take]; omega
  rw [e, show m + 2 = m + 1 + 1 from rfl, val_take_succ' B64 zs (m + 1), val_take_succ' B64 zs m]
  have hp : 2 ^ (64 * m + t) = B64 ^ m * 2 ^ t := by rw [Nat.pow_add, Nat.pow_mul]; rfl
  generalize zs.getD (m + 1) 0 = y1
  generalize zs.getD m 0 = y0
  have e1 : val B64 (zs.take m) + B64 ^ m * y0 + B64 ^ (m + 1) * y1 = val B64 (zs.take m) + B64 ^ m * (y0 + B64 * y1) := by
    rw [Nat.mul_add, Nat.pow_succ, Nat.mul_assoc]; omega
  have e2 : B64 * y1 = 2 ^ t * (y1 * 2 ^ s) := by rw [b64_split hst, Nat.mul_comm (2 ^ s), Nat.mul_assoc, Nat.mul_comm y1]
  rw [e1, hp, ← Nat.div_div_eq_div_mul, Nat.add_mul_div_left _ _ (Nat.lt_of_le_of_lt (Nat.zero_le _) hlow), Nat.div_eq_of_lt hlow, Nat.zero_add, e2, Nat.add_mul_div_left _ _ (Nat.pow_pos (by omega))]
  omega
/-- both parts in one limb -/
theorem lead_or {x1 x0 s t : Nat} (hst : s + t = 64) (h : x1 * 2 ^ s < B64) (h0 : x0 < B64) : bits BinOp.or IntKind.u64 (IntKind.u64.wrap ((x1 : Int) * 2 ^ s)) ((x0 : Int) / 2 ^ t) = ((x1 * 2 ^ s + x0 / 2 ^ t : Nat) : Int) := by
  have h8 : x0 / 2 ^ t < 2 ^ s := by
    rw [Nat.div_lt_iff_lt_mul (Nat.pow_pos (by omega)), ← b64_split hst]; exact h0
  rw [shl_u64, shr_u64, Nat.mod_eq_of_lt h, u64_or_nat _ _ h (Nat.lt_of_le_of_lt (Nat.div_le_self _ _) h0), Nat.mul_comm x1, ← Nat.two_pow_add_eq_or_of_lt h8]
theorem top_le {xs ys : List Nat} {m : Nat} (lx : Lim B64 xs) (hx : xs.length = m + 2) (_hy : ys.length ≤ m + 2) (h : val B64 ys ≤ val B64 xs) : ys.getD (m + 1) 0 ≤ xs.getD (m + 1) 0 := by
  rcases Nat.lt_or_ge (xs.getD (m + 1) 0) (ys.getD (m + 1) 0) with h1 | h1
  · exfalso
    have e1 := val_take_succ' B64 xs (m + 1)
    have e2 := val_take_succ' B64 ys (m + 1)
    rw [List.take_of_length_le (by omega)] at e1 e2
    have hlow := val_take_lt (by have := B64_pos; omega) lx (m + 1) (by omega)
    have h2 : B64 ^ (m + 1) * (xs.getD (m + 1) 0 + 1) ≤ B64 ^ (m + 1) * ys.getD (m + 1) 0 := Nat.mul_le_mul_left _ h1
    rw [Nat.mul_add, Nat.mul_one] at h2
    omega
  · exact h1

set_option maxHeartbeats 2000000 in
set_option maxRecDepth 100000 in
theorem leading_any (va vb : Value) (xs ys : List Nat) (m : Nat) (w : World) (ha : Sl w .u64 va xs) (hb : Sl w .u64 vb ys) (la : Lim B64 xs) (lb : Lim B64 ys) (ta : Top xs) (hx : xs.length = m + 2) (hy : ys.length ≤ m + 2) (hle : val B64 ys ≤ val B64 xs) (hm : m ≤ 1000000) :
    Calls Tryd.prog 48 #[va, vb] w fun e w' => ∃ M, 0 < M ∧ e = .returned (.tuple #[.int .u64 ((val B64 xs / M : Nat) : Int), .int .u64 ((val B64 ys / M : Nat) : Int)]) ∧ val B64 xs / M < B64 ∧ Drawn w w' := by
  have htop := tlen_top xs (by rw [ta]; omega)
  rw [ta, hx, show m + 2 - 1 = m + 1 by omega] at htop
  obtain ⟨m', hbl, g1, g2⟩ := bl_spec htop
  have hm64 : m' + 1 ≤ 64 := by rw [← hbl]; exact bl_le (la _)
  obtain ⟨s, hs⟩ : ∃ s, s + (m' + 1) = 64 := ⟨64 - (m' + 1), by omega⟩
  have LZ := Lib.hid (lz_any (xs.getD (m + 1) 0) (m' + 1) s (la _) hbl hs)
  obtain ⟨t, ht⟩ : ∃ t, t = m' + 1 := ⟨_, rfl⟩
  rw [← ht] at hs g2
  have hx1 : xs.getD (m + 1) 0 * 2 ^ s < B64 := by
    rw [b64_split hs, Nat.mul_comm (2 ^ s)]
    exact Nat.mul_lt_mul_of_pos_right g2 (Nat.pow_pos (by omega))
  have hy1 : ys.getD (m + 1) 0 * 2 ^ s < B64 := Nat.lt_of_le_of_lt (Nat.mul_le_mul_right _ (top_le la hx hy hle)) hx1
  have EX := lead_val (show xs.length ≤ m + 2 by omega) la hs
  have EY := lead_val hy lb hs
  have OX := lead_or hs hx1 (la m)
  have OY := lead_or hs hy1 (lb m)
  have hXb : val B64 xs / 2 ^ (64 * m + t) < B64 := by
    rw [EX]
    have h8 : xs.getD m 0 / 2 ^ t < 2 ^ s := by
      rw [Nat.div_lt_iff_lt_mul (Nat.pow_pos (by omega)), ← b64_split hs]; exact la m
    have h9 : (xs.getD (m + 1) 0 + 1) * 2 ^ s ≤ 2 ^ t * 2 ^ s := Nat.mul_le_mul_right _ g2
    rw [Nat.add_mul, Nat.one_mul, Nat.mul_comm (2 ^ t), ← b64_split hs] at h9
    omega
  have hMp : 0 < 2 ^ (64 * m + t) := Nat.pow_pos (by omega)
  have shY : ((ys.getD m 0 : Nat) : Int) / 2 ^ t = ((ys.getD m 0 / 2 ^ t : Nat) : Int) := shr_u64 _ _
  have Y0 : ys.length ≤ m + 1 → ys.getD (m + 1) 0 = 0 := fun h => getD_ge ys _ h
  have Y1 : ys.length ≤ m → ys.getD m 0 = 0 := fun h => getD_ge ys _ h
  rw [← EX] at OX
  rw [← EY] at OY
  have HMP := Lib.hid hMp; have HXB := Lib.hid hXb; have HEY := Lib.hid EY; have HY0 := Lib.hid Y0; have HY1 := Lib.hid Y1
  clear EX EY hXb Y0 Y1 hx1 hy1 g1 g2 hbl htop hle
  generalize 2 ^ (64 * m + t) = M at *
  generalize hX : val B64 xs / M = X at *
  generalize hY : val B64 ys / M = Y at *
  have HX := Lib.hid hX; have HYY := Lib.hid hY
  clear hX hY
  obtain ⟨ab, aoff, acap, rfl, ha1, ha2, hablt, hac⟩ := ha.pos (by omega)
  have c1 := hac (m + 1) (by omega)
  have c0 := hac m (by omega)
  have hs63 : s ≤ 64 := by omega
  have hsub : IntKind.i64.wrap (64 - (s : Int)) = (t : Int) := by rw [IntKind.wrap_i64]; omega
  have hn1 : IntKind.i64.wrap ((m : Int) + 2 - 1) = (m : Int) + 1 := by rw [IntKind.wrap_i64]; omega
  have hn2 : IntKind.i64.wrap (m : Int) = (m : Int) := by rw [IntKind.wrap_i64]; omega
  have ht64 : t ≤ 64 := by omega
  have hm0 : (0 : Int) ≤ (m : Int) + 1 := by omega
  have hm1 : (m : Int) < (m : Int) + 2 := by omega
  have hm2 : (m : Int) < (m : Int) + 1 := by omega
  have hm3 : (m : Int) + 1 < (m : Int) + 2 := by omega
  unfold maxLen at ha2
  rw [hx] at ha1 ⊢
  obtain ⟨bo, bcap, rfl, hb1, hb2, hb3, hb4, hb5⟩ := hb
  unfold maxLen at hb2
  generalize xs.getD (m + 1) 0 = x1 at *
  generalize xs.getD m 0 = x0 at *
  generalize hy1g : ys.getD (m + 1) 0 = y1 at *
  generalize hy0g : ys.getD m 0 = y0 at *
  have HG1 := Lib.hid hy1g; have HG0 := Lib.hid hy0g
  clear hac la lb ta hy1g hy0g hs ht hx
  have H5 := Lib.hid hb5
  clear hb4 hb5 hb3
  refine (?_ : Calls Tryd.prog 48 _ w fun e w' => e = .returned (.tuple #[.int .u64 (X : Int), .int .u64 (Y : Int)]) ∧ Drawn w w').mono fun e w' ⟨h1, h2⟩ => ⟨M, HMP.out, by rw [HX.out, HYY.out]; exact h1, by rw [HX.out]; exact HXB.out, h2⟩
  have hsl : aoff + m + 1 = aoff + (m + 1) := by omega
  rcases (show ys.length = m + 2 ∨ ys.length = m + 1 ∨ ys.length ≤ m by omega) with hl | hl | hl
  · obtain ⟨bb, boff, rfl, hbblt, hbc⟩ := H5.out (by omega)
    have d1 : w.cell? ⟨bb, boff + (m + 1), none⟩ = some (.int .u64 (y1 : Int)) := by rw [← HG1.out]; exact hbc (m + 1) (by omega)
    have d0 : w.cell? ⟨bb, boff + m, none⟩ = some (.int .u64 (y0 : Int)) := by rw [← HG0.out]; exact hbc m (by omega)
    rw [hl] at hb1 ⊢
    clear hbc hl hy hsl shY
    go_enter Tryd.func48, Tryd.ntmps48
    go_wp2_with fail
    refine (LZ.out _).mono ?_
    rintro e w' ⟨rfl, rfl⟩
    go_wp2
    go_quiet (fail)
    go_wp2
    have HW : Hid (Drawn w (w.drewN nq)) := Lib.hid ⟨nq, rfl⟩
    have d1' : (w.drewN nq).cell? ⟨bb, boff + (m + 1), none⟩ = some (.int .u64 (y1 : Int)) := d1
    have d0' : (w.drewN nq).cell? ⟨bb, boff + m, none⟩ = some (.int .u64 (y0 : Int)) := d0
    clear d0 d1 c0 c1
    generalize w.drewN nq = w1 at *
    go_quiet (fail)
    go_wp2
    go_ret2
    exact ⟨rfl, drawn_more HW.out _⟩
  · obtain ⟨bb, boff, rfl, hbblt, hbc⟩ := H5.out (by omega)
    have d0 : w.cell? ⟨bb, boff + m, none⟩ = some (.int .u64 (y0 : Int)) := by rw [← HG0.out]; exact hbc m (by omega)
    have z1 : y1 = 0 := HY0.out (by omega)
    have hYv : Y = y0 / 2 ^ t := by have := HEY.out; rw [z1] at this; omega
    have hd1 : (((m + 1 : Nat) : Int) == ((m : Int) + 2)) = false := beq_eq_false_iff_ne.2 (by omega)
    have hd2 : ((m : Int) + 1 == (m : Int) + 2) = false := beq_eq_false_iff_ne.2 (by omega)
    rw [← hYv] at shY
    rw [hl] at hb1 ⊢
    clear hbc hl hy hsl z1 hYv OY
    go_enter Tryd.func48, Tryd.ntmps48
    go_wp2_with fail
    refine (LZ.out _).mono ?_
    rintro e w' ⟨rfl, rfl⟩
    go_wp2
    go_quiet (fail)
    go_wp2
    have HW : Hid (Drawn w (w.drewN nq)) := Lib.hid ⟨nq, rfl⟩
    have d0' : (w.drewN nq).cell? ⟨bb, boff + m, none⟩ = some (.int .u64 (y0 : Int)) := d0
    clear d0 c0 c1
    generalize w.drewN nq = w1 at *
    go_quiet (fail)
    go_wp2
    go_ret2
    exact ⟨rfl, drawn_more HW.out _⟩
  · have z1 : y1 = 0 := HY0.out (by omega)
    have z0 : y0 = 0 := HY1.out (by omega)
    have hYv : Y = 0 := by have := HEY.out; rw [z1, z0] at this; simpa using this
    subst hYv
    have hd1 : ((ys.length : Int) == (m : Int) + 2) = false := beq_eq_false_iff_ne.2 (by omega)
    have hd2 : ((ys.length : Int) == (m : Int) + 1) = false := beq_eq_false_iff_ne.2 (by omega)
    have hd3 : ((ys.length : Int) == (m : Int) + 2 - 1) = false := beq_eq_false_iff_ne.2 (by omega)
    clear hl hy hsl z1 z0 OY shY
    go_enter Tryd.func48, Tryd.ntmps48
    go_wp2_with fail
    refine (LZ.out _).mono ?_
    rintro e w' ⟨rfl, rfl⟩
    go_wp2
    go_quiet (fail)
    go_wp2
    go_ret2
    exact ⟨rfl, ⟨_, rfl⟩⟩
end Go.Proofs.YtafeokkkbiaajabDoor
