/- GcdA GcdB GcdD GcdE. -/
import Derived.Test.YthgmebnihpjnoaaGreatDoorMA
import Derived.Test.YthgmebnihpjnoaaGreatDoorQA
import Derived.StillTailTactics
import Derived.Deep.RegionWith
import Derived.Deep.DeepCutAuto
import Derived.Test.YthgmebnihpjnoaaGreatDoorRF
set_option linter.unusedVariables false
set_option linter.unusedSimpArgs false
/- Lehmer's way to the greatest common divisor, in plain mathematics. -/
namespace Go.Proofs.YthgmebnihpjnoaaGreatDoor.Mth

/-- what the loop of simulate holds -/
structure SimI (ah bh a1 a2 u1 v1 u2 v2 : Nat) (ev : Bool) : Prop where
  r1 : ev = false → a1 + v1 * bh = u1 * ah
  r2 : ev = false → a2 + u2 * ah = v2 * bh
  s1 : ev = true → a1 + u1 * ah = v1 * bh
  s2 : ev = true → a2 + v2 * bh = u2 * ah
  rd : ev = false → u1 * v2 = v1 * u2 + 1
  sd : ev = true → v1 * u2 = u1 * v2 + 1
  le : a2 ≤ a1
  uv : u2 ≤ v2
  uvs : u1 + u2 ≤ v1 + v2
  sum : v2 * a1 + v1 * a2 = ah
  pos : v1 = 0 ∨ 1 ≤ u2
  one : 1 ≤ u1 + u2
  vp : 1 ≤ v2
theorem sim_start {ah bh : Nat} (h : bh ≤ ah) : SimI ah bh ah bh 1 0 0 1 false :=
  ⟨fun _ => by simp, fun _ => by simp, fun h => (by cases h), fun h => (by cases h), fun _ => by simp, fun h => (by cases h), h, by omega, by omega, by simp, .inl rfl, by omega, by omega⟩
/-- one step of Euclid's, on the leading bits -/
theorem sim_step {ah bh a1 a2 u1 v1 u2 v2 : Nat} {ev : Bool} (h : SimI ah bh a1 a2 u1 v1 u2 v2 ev) (hp : 0 < a2) :
    SimI ah bh a2 (a1 % a2) u2 v2 (u1 + a1 / a2 * u2) (v1 + a1 / a2 * v2) (!ev) := by
  have hq : 1 ≤ a1 / a2 := Nat.div_pos h.le hp
  have e := Nat.mod_add_div a1 a2
  have hlt := Nat.mod_lt a1 hp
  generalize a1 / a2 = q at *
  generalize a1 % a2 = m at *
  rw [Nat.mul_comm] at e
  have hqu : u2 ≤ q * u2 := Nat.le_mul_of_pos_left u2 hq
  have hqv : v2 ≤ q * v2 := Nat.le_mul_of_pos_left v2 hq
  have key : u1 + q * u2 ≤ v1 + q * v2 := by
    obtain ⟨r, rfl⟩ : ∃ r, q = r + 1 := ⟨q - 1, by omega⟩
    have h1 : r * u2 ≤ r * v2 := Nat.mul_le_mul_left _ h.uv
    have h2 := h.uvs
    rw [Nat.add_mul, Nat.add_mul, Nat.one_mul, Nat.one_mul]
    omega
  have e1 : u2 * (v1 + q * v2) = v1 * u2 + q * (u2 * v2) := by rw [Nat.mul_add, Nat.mul_comm u2 v1, Nat.mul_left_comm]
  have e2 : v2 * (u1 + q * u2) = u1 * v2 + q * (u2 * v2) := by rw [Nat.mul_add, Nat.mul_comm v2 u1, Nat.mul_left_comm, Nat.mul_comm v2 u2]
  refine ⟨fun hh => ?_, fun hh => ?_, fun hh => ?_, fun hh => ?_, fun hh => ?_, fun hh => ?_, by omega, key, ?_, ?_, ?_, ?_, ?_⟩
  · have hev : ev = true := by cases ev <;> simp_all
    exact h.s2 hev
  · have hev : ev = true := by cases ev <;> simp_all
    have f1 := h.s1 hev; have f2 := h.s2 hev
    have f3 : q * (a2 + v2 * bh) = q * (u2 * ah) := by rw [f2]
    rw [Nat.mul_add] at f3
    rw [Nat.add_mul, Nat.add_mul, Nat.mul_assoc, Nat.mul_assoc]
    omega
  · have hev : ev = false := by cases ev <;> simp_all
    exact h.r2 hev
  · have hev : ev = false := by cases ev <;> simp_all
    have f1 := h.r1 hev; have f2 := h.r2 hev
    have f3 : q * (a2 + u2 * ah) = q * (v2 * bh) := by rw [f2]
    rw [Nat.mul_add] at f3
    rw [Nat.add_mul, Nat.add_mul, Nat.mul_assoc, Nat.mul_assoc]
    omega
  · have hev : ev = true := by cases ev <;> simp_all
    have f1 := h.sd hev
    omega
  · have hev : ev = false := by cases ev <;> simp_all
    have f1 := h.rd hev
    omega
  · have h2 := h.uvs
    have h1 := h.uv
    omega
  · have f1 := h.sum
    have f2 : (v1 + q * v2) * a2 = v1 * a2 + v2 * (q * a2) := by rw [Nat.add_mul, Nat.mul_assoc, Nat.mul_left_comm q v2 a2]
    have f3 : v2 * a1 = v2 * m + v2 * (q * a2) := by rw [← e, Nat.mul_add]
    omega
  · right
    have h3 := h.one
    omega
  · have h3 := h.one
    omega
  · have := h.vp
    omega
/-- no factor is too great for a limb -/
theorem sim_small {ah bh a1 a2 u1 v1 u2 v2 : Nat} {ev : Bool} (h : SimI ah bh a1 a2 u1 v1 u2 v2 ev) (hp : 0 < a2) : v1 + v2 ≤ ah ∧ u1 + u2 ≤ ah := by
  have f1 := h.sum
  have h1 : v2 * 1 ≤ v2 * a1 := Nat.mul_le_mul_left _ (by have := h.le; omega)
  have h2 : v1 * 1 ≤ v1 * a2 := Nat.mul_le_mul_left _ hp
  have h3 := h.uvs
  omega

/-- factors that take Euclid's steps on the whole numbers, as they did on the leading bits -/
structure GoodS (ah bh u0 v0 u1 v1 x1 x2 : Nat) (ev : Bool) : Prop where
  e1 : ev = true → x1 + v0 * bh = u0 * ah
  e2 : ev = true → x2 + u1 * ah = v1 * bh
  ed : ev = true → u0 * v1 = v0 * u1 + 1
  o1 : ev = false → x1 + u0 * ah = v0 * bh
  o2 : ev = false → x2 + v1 * bh = u1 * ah
  od : ev = false → v0 * u1 = u0 * v1 + 1
  c1 : v1 ≤ x2
  c2 : v0 + v1 + x2 ≤ x1
  uv : u1 ≤ v1
  uvs : u0 + u1 ≤ v0 + v1
  pos : v0 = 0 ∨ 1 ≤ u1
theorem good_of_sim {ah bh a1 a2 u1 v1 u2 v2 : Nat} {ev : Bool} (h : SimI ah bh a1 a2 u1 v1 u2 v2 ev) (h1 : v2 ≤ a2) (h2 : v1 + v2 + a2 ≤ a1) : GoodS ah bh u1 v1 u2 v2 a1 a2 (!ev) := by
  refine ⟨fun hh => ?_, fun hh => ?_, fun hh => ?_, fun hh => ?_, fun hh => ?_, fun hh => ?_, h1, h2, h.uv, h.uvs, h.pos⟩
  · exact h.r1 (by cases ev <;> simp_all)
  · exact h.r2 (by cases ev <;> simp_all)
  · exact h.rd (by cases ev <;> simp_all)
  · exact h.s1 (by cases ev <;> simp_all)
  · exact h.s2 (by cases ev <;> simp_all)
  · exact h.sd (by cases ev <;> simp_all)

/-- the same steps of the whole numbers, where the first comes out as p times P less q times Q -/
theorem steps_gcd {A B u0 v0 u1 v1 X1 X2 : Nat} (h1 : X1 + v0 * B = u0 * A ∧ X2 + u1 * A = v1 * B ∧ u0 * v1 = v0 * u1 + 1 ∨ X1 + u0 * A = v0 * B ∧ X2 + v1 * B = u1 * A ∧ v0 * u1 = u0 * v1 + 1) :
    Nat.gcd X1 X2 = Nat.gcd A B ∧ B = u1 * X1 + u0 * X2 := by
  have hA : A = v1 * X1 + v0 * X2 := by
    rcases h1 with ⟨a, b, c⟩ | ⟨a, b, c⟩
    · have f1 : v1 * (X1 + v0 * B) = v1 * (u0 * A) := by rw [a]
      have f2 : v0 * (X2 + u1 * A) = v0 * (v1 * B) := by rw [b]
      have f3 : u0 * v1 * A = (v0 * u1 + 1) * A := by rw [c]
      rw [Nat.mul_add] at f1 f2
      rw [Nat.add_mul, Nat.one_mul, Nat.mul_assoc, Nat.mul_assoc, Nat.mul_left_comm u0] at f3
      rw [Nat.mul_left_comm v0 v1 B] at f2
      omega
    · have f1 : v1 * (X1 + u0 * A) = v1 * (v0 * B) := by rw [a]
      have f2 : v0 * (X2 + v1 * B) = v0 * (u1 * A) := by rw [b]
      have f3 : v0 * u1 * A = (u0 * v1 + 1) * A := by rw [c]
      rw [Nat.mul_add] at f1 f2
      rw [Nat.add_mul, Nat.one_mul, Nat.mul_assoc, Nat.mul_assoc, Nat.mul_left_comm u0] at f3
      rw [Nat.mul_left_comm v0 v1 B] at f2
      omega
  have hB : B = u1 * X1 + u0 * X2 := by
    rcases h1 with ⟨a, b, c⟩ | ⟨a, b, c⟩
    · have f1 : u1 * (X1 + v0 * B) = u1 * (u0 * A) := by rw [a]
      have f2 : u0 * (X2 + u1 * A) = u0 * (v1 * B) := by rw [b]
      have f3 : u0 * v1 * B = (v0 * u1 + 1) * B := by rw [c]
      rw [Nat.mul_add] at f1 f2
      rw [Nat.add_mul, Nat.one_mul, Nat.mul_assoc, Nat.mul_assoc, Nat.mul_left_comm v0] at f3
      rw [Nat.mul_left_comm u1 u0 A] at f1
      omega
    · have f1 : u1 * (X1 + u0 * A) = u1 * (v0 * B) := by rw [a]
      have f2 : u0 * (X2 + v1 * B) = u0 * (u1 * A) := by rw [b]
      have f3 : v0 * u1 * B = (u0 * v1 + 1) * B := by rw [c]
      rw [Nat.mul_add] at f1 f2
      rw [Nat.add_mul, Nat.one_mul, Nat.mul_assoc, Nat.mul_assoc, Nat.mul_left_comm v0] at f3
      rw [Nat.mul_left_comm u1 u0 A] at f1
      omega
  refine ⟨Nat.dvd_antisymm (Nat.dvd_gcd ?_ ?_) (Nat.dvd_gcd ?_ ?_), hB⟩
  · have hx := Nat.gcd_dvd_left X1 X2
    have hy := Nat.gcd_dvd_right X1 X2
    conv => rhs; rw [hA]
    exact Nat.dvd_add (Nat.dvd_trans hx (Nat.dvd_mul_left _ _)) (Nat.dvd_trans hy (Nat.dvd_mul_left _ _))
  · have hx := Nat.gcd_dvd_left X1 X2
    have hy := Nat.gcd_dvd_right X1 X2
    conv => rhs; rw [hB]
    exact Nat.dvd_add (Nat.dvd_trans hx (Nat.dvd_mul_left _ _)) (Nat.dvd_trans hy (Nat.dvd_mul_left _ _))
  · have ha : Nat.gcd A B ∣ u0 * A := Nat.dvd_trans (Nat.gcd_dvd_left A B) (Nat.dvd_mul_left _ _)
    have hb : Nat.gcd A B ∣ v0 * B := Nat.dvd_trans (Nat.gcd_dvd_right A B) (Nat.dvd_mul_left _ _)
    rcases h1 with ⟨a, _, _⟩ | ⟨a, _, _⟩
    · rw [← a] at ha
      exact (Nat.dvd_add_left hb).1 ha
    · rw [← a] at hb
      exact (Nat.dvd_add_left ha).1 hb
  · have ha : Nat.gcd A B ∣ u1 * A := Nat.dvd_trans (Nat.gcd_dvd_left A B) (Nat.dvd_mul_left _ _)
    have hb : Nat.gcd A B ∣ v1 * B := Nat.dvd_trans (Nat.gcd_dvd_right A B) (Nat.dvd_mul_left _ _)
    rcases h1 with ⟨_, a, _⟩ | ⟨_, a, _⟩
    · rw [← a] at hb
      exact (Nat.dvd_add_left ha).1 hb
    · rw [← a] at ha
      exact (Nat.dvd_add_left hb).1 ha
/-- Collins's condition: the whole numbers go the same way -/
theorem good_whole {A B M u0 v0 u1 v1 x1 x2 : Nat} {ev : Bool} (hM : 0 < M) (h : GoodS (A / M) (B / M) u0 v0 u1 v1 x1 x2 ev) (hv : v0 ≠ 0) :
    ∃ X1 X2, (ev = true → X1 + v0 * B = u0 * A ∧ X2 + u1 * A = v1 * B) ∧ (ev = false → X1 + u0 * A = v0 * B ∧ X2 + v1 * B = u1 * A) ∧ X2 < X1 ∧ X1 ≤ B ∧ Nat.gcd X1 X2 = Nat.gcd A B := by
  have eA := Nat.mod_add_div A M
  have eB := Nat.mod_add_div B M
  have lA := Nat.mod_lt A hM
  have lB := Nat.mod_lt B hM
  generalize A / M = ah at *
  generalize B / M = bh at *
  generalize A % M = al at *
  generalize B % M = bl at *
  have c1 := h.c1; have c2 := h.c2; have uv := h.uv; have uvs := h.uvs
  -- products of the rests
  have p1 : u1 * al ≤ x2 * M := Nat.le_trans (Nat.mul_le_mul_left _ (Nat.le_of_lt lA)) (Nat.mul_le_mul_right _ (by omega))
  have p2 : v1 * bl ≤ x2 * M := Nat.le_trans (Nat.mul_le_mul_left _ (Nat.le_of_lt lB)) (Nat.mul_le_mul_right _ (by omega))
  have p3 : (v0 + v1) * M + x2 * M ≤ x1 * M := by rw [← Nat.add_mul]; exact Nat.mul_le_mul_right _ c2
  have p4 : (v0 + v1) * bl < (v0 + v1) * M := Nat.mul_lt_mul_of_pos_left lB (by omega)
  have p5 : (u0 + u1) * al < (v0 + v1) * M := Nat.lt_of_le_of_lt (Nat.mul_le_mul_right _ uvs) (Nat.mul_lt_mul_of_pos_left lA (by omega))
  rw [Nat.add_mul] at p4 p5
  have hu1 : 1 ≤ u1 := by rcases h.pos with h0 | h0; exact absurd h0 hv; exact h0
  have exp : ∀ k, k * A = k * al + k * ah * M := fun k => by rw [← eA, Nat.mul_add, Nat.mul_comm M ah, Nat.mul_assoc]
  have exq : ∀ k, k * B = k * bl + k * bh * M := fun k => by rw [← eB, Nat.mul_add, Nat.mul_comm M bh, Nat.mul_assoc]
  have a0 := exp u0; have a1 := exp u1; have b0 := exq v0; have b1 := exq v1
  cases ev with
  | true =>
    have f1 : (x1 + v0 * bh) * M = u0 * ah * M := by rw [h.e1 rfl]
    have f2 : (x2 + u1 * ah) * M = v1 * bh * M := by rw [h.e2 rfl]
    rw [Nat.add_mul] at f1 f2
    obtain ⟨X2, hX2⟩ : ∃ X2, X2 + u1 * A = v1 * B := ⟨v1 * B - u1 * A, by omega⟩
    obtain ⟨X1, hX1⟩ : ∃ X1, X1 + v0 * B = u0 * A := ⟨u0 * A - v0 * B, by omega⟩
    have g := steps_gcd (.inl ⟨hX1, hX2, h.ed rfl⟩)
    refine ⟨X1, X2, fun _ => ⟨hX1, hX2⟩, fun h => (by cases h), by omega, ?_, g.1⟩
    have : 1 * X1 ≤ u1 * X1 := Nat.mul_le_mul_right _ hu1
    rw [g.2]; omega
  | false =>
    have f1 : (x1 + u0 * ah) * M = v0 * bh * M := by rw [h.o1 rfl]
    have f2 : (x2 + v1 * bh) * M = u1 * ah * M := by rw [h.o2 rfl]
    rw [Nat.add_mul] at f1 f2
    obtain ⟨X2, hX2⟩ : ∃ X2, X2 + v1 * B = u1 * A := ⟨u1 * A - v1 * B, by omega⟩
    obtain ⟨X1, hX1⟩ : ∃ X1, X1 + u0 * A = v0 * B := ⟨v0 * B - u0 * A, by omega⟩
    have g := steps_gcd (.inr ⟨hX1, hX2, h.od rfl⟩)
    refine ⟨X1, X2, fun h => (by cases h), fun _ => ⟨hX1, hX2⟩, by omega, ?_, g.1⟩
    have : 1 * X1 ≤ u1 * X1 := Nat.mul_le_mul_right _ hu1
    rw [g.2]; omega

/-- after k limbs of one number times p, less another one times q: what is carried of both, and borrowed -/
structure DfT (p q : Nat) (xs ys R : List Nat) (k c l b : Nat) : Prop where
  clt : c < B64
  llt : l < B64
  ble : b ≤ 1
  eq : val B64 (R.take k) + q * val B64 (ys.take k) + B64 ^ k * c = p * val B64 (xs.take k) + B64 ^ k * (l + b)
theorem dfT_zero (p q : Nat) (xs ys R : List Nat) : DfT p q xs ys R 0 0 0 0 := ⟨by have := B64_pos; omega, by have := B64_pos; omega, by omega, by simp [val]⟩
/-- the limb that comes out -/
def dfO (p q x y c l b : Nat) : Nat := sLo (pLo p x c) (pLo q y l) b
def dfB (p q x y c l b : Nat) : Nat := sHi (pLo p x c) (pLo q y l) b
theorem dfT_step {p q : Nat} {xs ys R R' : List Nat} {k c l b : Nat} (h : DfT p q xs ys R k c l b) (hp : p < B64) (hq : q < B64) (lx : Lim B64 xs) (ly : Lim B64 ys) (hx : k < xs.length) (hy : k < ys.length) (hR : k < R'.length)
    (hsame : R'.take k = R.take k) (hnew : R'.getD k 0 = dfO p q (xs.getD k 0) (ys.getD k 0) c l b) :
    DfT p q xs ys R' (k + 1) (pHi p (xs.getD k 0) c) (pHi q (ys.getD k 0) l) (dfB p q (xs.getD k 0) (ys.getD k 0) c l b) := by
  have hxl := lx k
  have hyl := ly k
  refine ⟨pHi_lt hp hxl h.clt, pHi_lt hq hyl h.llt, sHi_le _ _ _, ?_⟩
  rw [val_take_succ B64 R' k hR, val_take_succ B64 xs k hx, val_take_succ B64 ys k hy, hsame, hnew]
  have e1 := p_eq p (xs.getD k 0) c
  have e2 := p_eq q (ys.getD k 0) l
  have e3 := s_eq (x := pLo p (xs.getD k 0) c) (y := pLo q (ys.getD k 0) l) (b := b) (pLo_lt _ _ _) (pLo_lt _ _ _) h.ble
  have e4 := h.eq
  unfold dfO dfB
  generalize sLo (pLo p (xs.getD k 0) c) (pLo q (ys.getD k 0) l) b = o at *
  generalize sHi (pLo p (xs.getD k 0) c) (pLo q (ys.getD k 0) l) b = b' at *
  generalize pLo p (xs.getD k 0) c = f at *
  generalize pLo q (ys.getD k 0) l = t at *
  generalize pHi p (xs.getD k 0) c = c' at *
  generalize pHi q (ys.getD k 0) l = l' at *
  generalize xs.getD k 0 = x at *
  generalize ys.getD k 0 = y at *
  generalize val B64 (R.take k) = vr at *
  generalize val B64 (xs.take k) = vx at *
  generalize val B64 (ys.take k) = vy at *
  have e5 : o + q * y + l + B64 * c' + b = p * x + c + B64 * (l' + b') := by rw [Nat.mul_add]; omega
  have e6 : B64 ^ k * (o + q * y + l + B64 * c' + b) = B64 ^ k * (p * x + c + B64 * (l' + b')) := by rw [e5]
  simp only [Nat.mul_add] at e6 e4 ⊢
  have e7 : q * (B64 ^ k * y) = B64 ^ k * (q * y) := Nat.mul_left_comm _ _ _
  have e8 : p * (B64 ^ k * x) = B64 ^ k * (p * x) := Nat.mul_left_comm _ _ _
  have e9 : ∀ z, B64 ^ (k + 1) * z = B64 ^ k * (B64 * z) := fun z => by rw [Nat.pow_succ, Nat.mul_assoc]
  rw [e7, e8, e9, e9, e9]
  omega
/-- the whole comes out where it has few enough limbs -/
theorem dfT_end {p q T : Nat} {xs ys R : List Nat} {n c l b : Nat} (h : DfT p q xs ys R n c l b) (hx : n ≤ xs.length) (hy : n ≤ ys.length) (lR : Lim B64 R) (hR : n ≤ R.length) (hT : T + q * val B64 ys = p * val B64 xs) (hlt : T < B64 ^ n) : val B64 (R.take n) = T := by
  have e := h.eq
  have ex := val_split B64 xs n hx
  have ey := val_split B64 ys n hy
  have hr := val_take_lt (by have := B64_pos; omega) lR n hR
  rw [ex, ey, Nat.mul_add, Nat.mul_add, Nat.mul_left_comm q, Nat.mul_left_comm p] at hT
  generalize val B64 (R.take n) = O at *
  generalize q * val B64 (ys.take n) = K1 at *
  generalize p * val B64 (xs.take n) = K2 at *
  generalize q * val B64 (ys.drop n) = m1 at *
  generalize p * val B64 (xs.drop n) = m2 at *
  have e2 : T + B64 ^ n * (m1 + (l + b)) = O + B64 ^ n * (m2 + c) := by simp only [Nat.mul_add] at e ⊢; omega
  have e3 : (T + B64 ^ n * (m1 + (l + b))) % B64 ^ n = T := by rw [Nat.add_mul_mod_self_left, Nat.mod_eq_of_lt hlt]
  have e4 : (O + B64 ^ n * (m2 + c)) % B64 ^ n = O := by rw [Nat.add_mul_mod_self_left, Nat.mod_eq_of_lt hr]
  rw [← e4, ← e2, e3]
end Go.Proofs.YthgmebnihpjnoaaGreatDoor.Mth

/- nat: gcdLimbs, restByLimb, leading. -/
namespace Go.Proofs.YthgmebnihpjnoaaGreatDoor
open Go.RowKit Mth

/-- what gcdLimbs's loop holds -/
def GlO (w wr : World) (G : Nat) (av bv : Value) : Prop := ∃ x y : Nat, av = .int .u64 (x : Int) ∧ bv = .int .u64 (y : Int) ∧ Nat.gcd x y = G ∧ y < B64 ∧ Drawn w wr
set_option maxHeartbeats 1000000 in
set_option maxRecDepth 100000 in
theorem gcdLimbs_any (a b : Nat) (hb : b < B64) (w : World) : Calls Tryz.prog 129 #[.int .u64 ((a : Nat) : Int), .int .u64 ((b : Nat) : Int)] w fun e w' => e = .returned (.int .u64 ((Nat.gcd a b : Nat) : Int)) ∧ Drawn w w' := by
  have HB := Lib.hid hb
  clear hb
  go_enter Tryz.func129, Tryz.ntmps129
  go_wp2
  go_loopw [0, 1] (fun av bv wr => GlO w wr (Nat.gcd a b) av bv) (fun _ bv _ => (intOf bv).toNat)
  case atStart => exact ⟨a, b, rfl, rfl, rfl, HB.out, ⟨0, rfl⟩⟩
  case round =>
    obtain ⟨x, y, rfl, rfl, hg, hy, hdr⟩ := hrel
    have HD := Lib.hid hdr
    by_cases h0 : y = 0
    · have hd : ((y : Int) != 0) = false := by rw [h0]; rfl
      have E : Hid (x = Nat.gcd a b) := Lib.hid (by rw [← hg, h0, Nat.gcd_zero_right])
      clear hg hdr h0
      go_wp2
      go_ret
      exact ⟨by rw [← E.out]; rfl, HD.out⟩
    · have hd : ((y : Int) != 0) = true := by rw [bne_iff_ne]; omega
      have hyn : (y : Int) ≠ 0 := by omega
      have hm : (x : Int) % (y : Int) = ((x % y : Nat) : Int) := (Int.natCast_emod x y).symm
      have E : Hid (Nat.gcd y (x % y) = Nat.gcd a b) := Lib.hid (by rw [← hg, Nat.gcd_comm y, ← Nat.gcd_rec, Nat.gcd_comm])
      have hlt := Nat.mod_lt x (show 0 < y by omega)
      have hy64 : y ≤ 18446744073709551615 := by unfold B64 at hy; omega
      generalize x % y = m at *
      have HL := Lib.hid hlt; have HY := Lib.hid hy
      clear hg hdr h0 hlt hy
      go_wp2
      go_quiet (fail)
      go_wp2
      go_roundw
      case rel => exact ⟨y, m, rfl, by rw [hm], E.out, Nat.lt_trans HL.out HY.out, drawn_more HD.out _⟩
      case measure => have := HL.out; simp [intOf]; omega

/-- what restByLimb's loop holds -/
def RcO (w wr : World) (xs : List Nat) (d : Nat) (r i : Value) : Prop := ∃ k rr : Nat, k ≤ xs.length ∧ i = .int .i64 ((k : Int) - 1) ∧ r = .int .u64 (rr : Int) ∧ rr = val B64 (xs.drop k) % d ∧ Drawn w wr
set_option maxHeartbeats 2000000 in
set_option maxRecDepth 100000 in
theorem restByLimb_drawn (v : Value) (xs : List Nat) (d : Nat) (w : World) (h : Sl w .u64 v xs) (lx : Lim B64 xs) (hd : 0 < d) (hdb : d < B64) :
    Calls Tryz.prog 130 #[v, .int .u64 ((d : Nat) : Int)] w fun e w' => e = .returned (.int .u64 ((val B64 xs % d : Nat) : Int)) ∧ Drawn w w' := by
  have hlen := h.len
  obtain ⟨ao, cap, rfl, h1, h2, h3, h4, h5⟩ := h
  have H5 := Lib.hid h5; have LX := Lib.hid lx; have HD := Lib.hid hd; have HDB := Lib.hid hdb
  unfold maxLen at h2
  clear h3 h4 h5 lx hdb
  go_enter Tryz.func130, Tryz.ntmps130
  go_wp2
  go_loopw [5, 6] (fun r i wr => RcO w wr xs d r i) (fun _ i _ => (intOf i + 1).toNat)
  case atStart => exact ⟨xs.length, 0, Nat.le_refl _, rfl, rfl, by rw [List.drop_of_length_le (Nat.le_refl _)]; simp [val], ⟨0, rfl⟩⟩
  case round =>
    obtain ⟨k0, r, hk, rfl, rfl, hr, hdr⟩ := hrel
    have HB := Lib.hid hdr; have HRR := Lib.hid hr
    by_cases hlt : 0 < k0
    · obtain ⟨k, rfl⟩ : ∃ k, k0 = k + 1 := ⟨k0 - 1, by omega⟩
      have hkn : k < xs.length := by omega
      obtain ⟨b, off, rfl, hblt, hc⟩ := H5.out (by omega)
      have hcr : wr.cell? ⟨b, off + k, none⟩ = some (.int .u64 ((xs.getD k 0 : Nat) : Int)) := (hdr.cell _).trans (hc k hkn)
      have hrl : r < d := by rw [hr]; exact Nat.mod_lt _ HD.out
      have DV := fun w => div64_drawn r (xs.getD k 0) d hrl (LX.out k) HDB.out w
      have EN : Hid ((r * B64 + xs.getD k 0) % d = val B64 (xs.drop k) % d) := Lib.hid (by
        rw [val_drop B64 xs k hkn, hr]
        generalize val B64 (xs.drop (k + 1)) = V
        rw [Nat.mul_comm B64 V, Nat.add_comm (xs.getD k 0), Nat.add_mod, Nat.mul_mod, Nat.mod_mod, ← Nat.mul_mod, ← Nat.add_mod])
      generalize xs.getD k 0 = x at *
      have he : ((k + 1 : Nat) : Int) - 1 = (k : Int) := by omega
      have hk16 : k ≤ 16777217 := by omega
      clear hc hdr hrl hr
      rw [he]
      go_wp2_with fail
      refine (DV _).mono ?_
      rintro e w3 ⟨rfl, m3, rfl⟩
      have HB3 := Lib.hid (drawn_more HB.out m3)
      go_wp2
      go_roundw
      case rel => exact ⟨k, _, by omega, by go_num, rfl, EN.out, HB3.out⟩
      case measure => simp [intOf]
    · obtain rfl : k0 = 0 := by omega
      clear hdr hr
      go_wp2
      go_ret
      exact ⟨by rw [HRR.out]; rfl, HB.out⟩

theorem moves_any (u0 v0 u1 v1 : Nat) (ev : Bool) (w : World) : Calls Tryz.prog 160 #[.agg #[.int .u64 (u0 : Int), .int .u64 (v0 : Int), .int .u64 (u1 : Int), .int .u64 (v1 : Int), .bool ev]] w fun e w' => e = .returned (.bool (decide (v0 ≠ 0))) ∧ Below w.heap.size w w' := by
  go_enter Tryz.func160, Tryz.ntmps160
  go_wp2
  go_ret
  refine ⟨ret_bool ?_, (Below.refl _ _).alloc (Nat.le_refl _) _⟩
  by_cases h : v0 = 0
  · subst h; rfl
  · rw [decide_eq_true h, bne_iff_ne]; omega
/-- the 64 bits of a number from its place 64 m + t on -/
theorem lead_val {zs : List Nat} {m s t : Nat} (hz : zs.length ≤ m + 2) (lz : Lim B64 zs) (hst : s + t = 64) : val B64 zs / 2 ^ (64 * m + t) = zs.getD (m + 1) 0 * 2 ^ s + zs.getD m 0 / 2 ^ t := by
  have e : val B64 zs = val B64 (zs.take (m + 2)) := by rw [List.take_of_length_le hz]
  have hlow : val B64 (zs.take m) < B64 ^ m := by
    refine Nat.lt_of_lt_of_le (val_lt (lim_take (by have := B64_pos; omega) lz m)) (Nat.pow_le_pow_right (by have := B64_pos; omega) ?_)
    rw [List.length_take]; omega
  rw [e, show m + 2 = m + 1 + 1 from rfl, val_take_succ' B64 zs (m + 1), val_take_succ' B64 zs m]
  have hp : 2 ^ (64 * m + t) = B64 ^ m * 2 ^ t := by rw [Nat.pow_add, Nat.pow_mul]; rfl
  generalize zs.getD (m + 1) 0 = y1
  generalize zs.getD m 0 = y0
  have e1 : val B64 (zs.take m) + B64 ^ m * y0 + B64 ^ (m + 1) * y1 = val B64 (zs.take m) + B64 ^ m * (y0 + B64 * y1) := by
    rw [Nat.mul_add, Nat.pow_succ, Nat.mul_assoc]; omega
  have e2 : B64 * y1 = 2 ^ t * (y1 * 2 ^ s) := by rw [b64_split hst, Nat.mul_comm (2 ^ s), Nat.mul_assoc, Nat.mul_comm y1]
  rw [e1, hp, ← Nat.div_div_eq_div_mul, Nat.add_mul_div_left _ _ (Nat.lt_of_le_of_lt (Nat.zero_le _) hlow), Nat.div_eq_of_lt hlow, Nat.zero_add, e2, Nat.add_mul_div_left _ _ (Nat.pow_pos (by omega))]
  omega
/-- both parts in one limb -/
theorem lead_or {x1 x0 s t : Nat} (hst : s + t = 64) (h : x1 * 2 ^ s < B64) (h0 : x0 < B64) : bits BinOp.or IntKind.u64 (IntKind.u64.wrap ((x1 : Int) * 2 ^ s)) ((x0 : Int) / 2 ^ t) = ((x1 * 2 ^ s + x0 / 2 ^ t : Nat) : Int) := by
  have h8 : x0 / 2 ^ t < 2 ^ s := by
    rw [Nat.div_lt_iff_lt_mul (Nat.pow_pos (by omega)), ← b64_split hst]; exact h0
  rw [shl_u64, shr_u64, Nat.mod_eq_of_lt h, u64_or_nat _ _ h (Nat.lt_of_le_of_lt (Nat.div_le_self _ _) h0), Nat.mul_comm x1, ← Nat.two_pow_add_eq_or_of_lt h8]
theorem top_le {xs ys : List Nat} {m : Nat} (lx : Lim B64 xs) (hx : xs.length = m + 2) (_hy : ys.length ≤ m + 2) (h : val B64 ys ≤ val B64 xs) : ys.getD (m + 1) 0 ≤ xs.getD (m + 1) 0 := by
  rcases Nat.lt_or_ge (xs.getD (m + 1) 0) (ys.getD (m + 1) 0) with h1 | h1
  · exfalso
    have e1 := val_take_succ' B64 xs (m + 1)
    have e2 := val_take_succ' B64 ys (m + 1)
    rw [List.take_of_length_le (by omega)] at e1 e2
    have hlow := val_take_lt (by have := B64_pos; omega) lx (m + 1) (by omega)
    have h2 : B64 ^ (m + 1) * (xs.getD (m + 1) 0 + 1) ≤ B64 ^ (m + 1) * ys.getD (m + 1) 0 := Nat.mul_le_mul_left _ h1
    rw [Nat.mul_add, Nat.mul_one] at h2
    omega
  · exact h1

set_option maxHeartbeats 2000000 in
set_option maxRecDepth 100000 in
theorem leading_any (va vb : Value) (xs ys : List Nat) (m : Nat) (w : World) (ha : Sl w .u64 va xs) (hb : Sl w .u64 vb ys) (la : Lim B64 xs) (lb : Lim B64 ys) (ta : Top xs) (hx : xs.length = m + 2) (hy : ys.length ≤ m + 2) (hle : val B64 ys ≤ val B64 xs) (hm : m ≤ 1000000) :
    Calls Tryz.prog 159 #[va, vb] w fun e w' => ∃ M, 0 < M ∧ e = .returned (.tuple #[.int .u64 ((val B64 xs / M : Nat) : Int), .int .u64 ((val B64 ys / M : Nat) : Int)]) ∧ val B64 xs / M < B64 ∧ Drawn w w' := by
  have htop := tlen_top xs (by rw [ta]; omega)
  rw [ta, hx, show m + 2 - 1 = m + 1 by omega] at htop
  obtain ⟨m', hbl, g1, g2⟩ := bl_spec htop
  have hm64 : m' + 1 ≤ 64 := by rw [← hbl]; exact bl_le (la _)
  obtain ⟨s, hs⟩ : ∃ s, s + (m' + 1) = 64 := ⟨64 - (m' + 1), by omega⟩
  have LZ := Lib.hid (lz_any (xs.getD (m + 1) 0) (m' + 1) s (la _) hbl hs)
  obtain ⟨t, ht⟩ : ∃ t, t = m' + 1 := ⟨_, rfl⟩
  rw [← ht] at hs g2
  have hx1 : xs.getD (m + 1) 0 * 2 ^ s < B64 := by
    rw [b64_split hs, Nat.mul_comm (2 ^ s)]
    exact Nat.mul_lt_mul_of_pos_right g2 (Nat.pow_pos (by omega))
  have hy1 : ys.getD (m + 1) 0 * 2 ^ s < B64 := Nat.lt_of_le_of_lt (Nat.mul_le_mul_right _ (top_le la hx hy hle)) hx1
  have EX := lead_val (show xs.length ≤ m + 2 by omega) la hs
  have EY := lead_val hy lb hs
  have OX := lead_or hs hx1 (la m)
  have OY := lead_or hs hy1 (lb m)
  have hXb : val B64 xs / 2 ^ (64 * m + t) < B64 := by
    rw [EX]
    have h8 : xs.getD m 0 / 2 ^ t < 2 ^ s := by
      rw [Nat.div_lt_iff_lt_mul (Nat.pow_pos (by omega)), ← b64_split hs]; exact la m
    have h9 : (xs.getD (m + 1) 0 + 1) * 2 ^ s ≤ 2 ^ t * 2 ^ s := Nat.mul_le_mul_right _ g2
    rw [Nat.add_mul, Nat.one_mul, Nat.mul_comm (2 ^ t), ← b64_split hs] at h9
    omega
  have hMp : 0 < 2 ^ (64 * m + t) := Nat.pow_pos (by omega)
  have shY : ((ys.getD m 0 : Nat) : Int) / 2 ^ t = ((ys.getD m 0 / 2 ^ t : Nat) : Int) := shr_u64 _ _
  have Y0 : ys.length ≤ m + 1 → ys.getD (m + 1) 0 = 0 := fun h => getD_ge ys _ h
  have Y1 : ys.length ≤ m → ys.getD m 0 = 0 := fun h => getD_ge ys _ h
  rw [← EX] at OX
  rw [← EY] at OY
  have HMP := Lib.hid hMp; have HXB := Lib.hid hXb; have HEY := Lib.hid EY; have HY0 := Lib.hid Y0; have HY1 := Lib.hid Y1
  clear EX EY hXb Y0 Y1 hx1 hy1 g1 g2 hbl htop hle
  generalize 2 ^ (64 * m + t) = M at *
  generalize hX : val B64 xs / M = X at *
  generalize hY : val B64 ys / M = Y at *
  have HX := Lib.hid hX; have HYY := Lib.hid hY
  clear hX hY
  obtain ⟨ab, aoff, acap, rfl, ha1, ha2, hablt, hac⟩ := ha.pos (by omega)
  have c1 := hac (m + 1) (by omega)
  have c0 := hac m (by omega)
  have hs63 : s ≤ 64 := by omega
  have hsub : IntKind.i64.wrap (64 - (s : Int)) = (t : Int) := by rw [IntKind.wrap_i64]; omega
  have hn1 : IntKind.i64.wrap ((m : Int) + 2 - 1) = (m : Int) + 1 := by rw [IntKind.wrap_i64]; omega
  have hn2 : IntKind.i64.wrap (m : Int) = (m : Int) := by rw [IntKind.wrap_i64]; omega
  have ht64 : t ≤ 64 := by omega
  have hm0 : (0 : Int) ≤ (m : Int) + 1 := by omega
  have hm1 : (m : Int) < (m : Int) + 2 := by omega
  have hm2 : (m : Int) < (m : Int) + 1 := by omega
  have hm3 : (m : Int) + 1 < (m : Int) + 2 := by omega
  unfold maxLen at ha2
  rw [hx] at ha1 ⊢
  obtain ⟨bo, bcap, rfl, hb1, hb2, hb3, hb4, hb5⟩ := hb
  unfold maxLen at hb2
  generalize xs.getD (m + 1) 0 = x1 at *
  generalize xs.getD m 0 = x0 at *
  generalize hy1g : ys.getD (m + 1) 0 = y1 at *
  generalize hy0g : ys.getD m 0 = y0 at *
  have HG1 := Lib.hid hy1g; have HG0 := Lib.hid hy0g
  clear hac la lb ta hy1g hy0g hs ht hx
  have H5 := Lib.hid hb5
  clear hb4 hb5 hb3
  refine (?_ : Calls Tryz.prog 159 _ w fun e w' => e = .returned (.tuple #[.int .u64 (X : Int), .int .u64 (Y : Int)]) ∧ Drawn w w').mono fun e w' ⟨h1, h2⟩ => ⟨M, HMP.out, by rw [HX.out, HYY.out]; exact h1, by rw [HX.out]; exact HXB.out, h2⟩
  have hsl : aoff + m + 1 = aoff + (m + 1) := by omega
  rcases (show ys.length = m + 2 ∨ ys.length = m + 1 ∨ ys.length ≤ m by omega) with hl | hl | hl
  · obtain ⟨bb, boff, rfl, hbblt, hbc⟩ := H5.out (by omega)
    have d1 : w.cell? ⟨bb, boff + (m + 1), none⟩ = some (.int .u64 (y1 : Int)) := by rw [← HG1.out]; exact hbc (m + 1) (by omega)
    have d0 : w.cell? ⟨bb, boff + m, none⟩ = some (.int .u64 (y0 : Int)) := by rw [← HG0.out]; exact hbc m (by omega)
    rw [hl] at hb1 ⊢
    clear hbc hl hy hsl shY
    go_enter Tryz.func159, Tryz.ntmps159
    go_wp2_with fail
    refine (LZ.out _).mono ?_
    rintro e w' ⟨rfl, rfl⟩
    go_wp2
    go_quiet (fail)
    go_wp2
    have HW : Hid (Drawn w (w.drewN nq)) := Lib.hid ⟨nq, rfl⟩
    have d1' : (w.drewN nq).cell? ⟨bb, boff + (m + 1), none⟩ = some (.int .u64 (y1 : Int)) := d1
    have d0' : (w.drewN nq).cell? ⟨bb, boff + m, none⟩ = some (.int .u64 (y0 : Int)) := d0
    clear d0 d1 c0 c1
    generalize w.drewN nq = w1 at *
    go_quiet (fail)
    go_wp2
    go_ret2
    exact ⟨rfl, drawn_more HW.out _⟩
  · obtain ⟨bb, boff, rfl, hbblt, hbc⟩ := H5.out (by omega)
    have d0 : w.cell? ⟨bb, boff + m, none⟩ = some (.int .u64 (y0 : Int)) := by rw [← HG0.out]; exact hbc m (by omega)
    have z1 : y1 = 0 := HY0.out (by omega)
    have hYv : Y = y0 / 2 ^ t := by have := HEY.out; rw [z1] at this; omega
    have hd1 : (((m + 1 : Nat) : Int) == ((m : Int) + 2)) = false := beq_eq_false_iff_ne.2 (by omega)
    have hd2 : ((m : Int) + 1 == (m : Int) + 2) = false := beq_eq_false_iff_ne.2 (by omega)
    rw [← hYv] at shY
    rw [hl] at hb1 ⊢
    clear hbc hl hy hsl z1 hYv OY
    go_enter Tryz.func159, Tryz.ntmps159
    go_wp2_with fail
    refine (LZ.out _).mono ?_
    rintro e w' ⟨rfl, rfl⟩
    go_wp2
    go_quiet (fail)
    go_wp2
    have HW : Hid (Drawn w (w.drewN nq)) := Lib.hid ⟨nq, rfl⟩
    have d0' : (w.drewN nq).cell? ⟨bb, boff + m, none⟩ = some (.int .u64 (y0 : Int)) := d0
    clear d0 c0 c1
    generalize w.drewN nq = w1 at *
    go_quiet (fail)
    go_wp2
    go_ret2
    exact ⟨rfl, drawn_more HW.out _⟩
  · have z1 : y1 = 0 := HY0.out (by omega)
    have z0 : y0 = 0 := HY1.out (by omega)
    have hYv : Y = 0 := by have := HEY.out; rw [z1, z0] at this; simpa using this
    subst hYv
    have hd1 : ((ys.length : Int) == (m : Int) + 2) = false := beq_eq_false_iff_ne.2 (by omega)
    have hd2 : ((ys.length : Int) == (m : Int) + 1) = false := beq_eq_false_iff_ne.2 (by omega)
    have hd3 : ((ys.length : Int) == (m : Int) + 2 - 1) = false := beq_eq_false_iff_ne.2 (by omega)
    clear hl hy hsl z1 z0 OY shY
    go_enter Tryz.func159, Tryz.ntmps159
    go_wp2_with fail
    refine (LZ.out _).mono ?_
    rintro e w' ⟨rfl, rfl⟩
    go_wp2
    go_quiet (fail)
    go_wp2
    go_ret2
    exact ⟨rfl, ⟨_, rfl⟩⟩
end Go.Proofs.YthgmebnihpjnoaaGreatDoor

/- nat: simulate. -/
namespace Go.Proofs.YthgmebnihpjnoaaGreatDoor
open Go.RowKit Mth

/-- a block that holds strides -/
def Str (w : World) (g u0 v0 u1 v1 : Nat) (ev : Bool) : Prop := w.heap[g]? = some (.cells #[.int .u64 (u0 : Int), .int .u64 (v0 : Int), .int .u64 (u1 : Int), .int .u64 (v1 : Int), .bool ev] 198 (0, 0))
theorem Str.lt {w : World} {g u0 v0 u1 v1 : Nat} {ev : Bool} (h : Str w g u0 v0 u1 v1 ev) : g < w.heap.size := (Array.getElem?_eq_some_iff.1 h).1
theorem Str.cells {w : World} {g u0 v0 u1 v1 : Nat} {ev : Bool} (h : Str w g u0 v0 u1 v1 ev) :
    w.cell? ⟨g, 0, none⟩ = some (.int .u64 (u0 : Int)) ∧ w.cell? ⟨g, 1, none⟩ = some (.int .u64 (v0 : Int)) ∧ w.cell? ⟨g, 2, none⟩ = some (.int .u64 (u1 : Int)) ∧ w.cell? ⟨g, 3, none⟩ = some (.int .u64 (v1 : Int)) ∧ w.cell? ⟨g, 4, none⟩ = some (.bool ev) := by
  refine ⟨?_, ?_, ?_, ?_, ?_⟩ <;> (rw [cell_of_row w g _ _ _ (0, 0) h]; rfl)
theorem Str.free {w : World} {g u0 v0 u1 v1 : Nat} {ev : Bool} (h : Str w g u0 v0 u1 v1 ev) (j : Nat) : w.frozen? ⟨g, j, none⟩ = false := frozen_of_row w g j _ _ h
theorem Str.below {w w' : World} {g u0 v0 u1 v1 : Nat} {ev : Bool} (h : Str w g u0 v0 u1 v1 ev) (hb : Below w.heap.size w w') : Str w' g u0 v0 u1 v1 ev := (hb.block g h.lt).trans h
theorem Str.drawn {w : World} {g u0 v0 u1 v1 : Nat} {ev : Bool} (h : Str w g u0 v0 u1 v1 ev) (n : Nat) : Str (w.drewN n) g u0 v0 u1 v1 ev := h
theorem Str.set0 {w : World} {g u0 v0 u1 v1 : Nat} {ev : Bool} (h : Str w g u0 v0 u1 v1 ev) (x : Nat) : Str (w.setCell ⟨g, 0, none⟩ (.int .u64 (x : Int))) g x v0 u1 v1 ev := by
  unfold Str; rw [heap_setCell_same w g 0 _ _ _ h]; rfl
theorem Str.set1 {w : World} {g u0 v0 u1 v1 : Nat} {ev : Bool} (h : Str w g u0 v0 u1 v1 ev) (x : Nat) : Str (w.setCell ⟨g, 1, none⟩ (.int .u64 (x : Int))) g u0 x u1 v1 ev := by
  unfold Str; rw [heap_setCell_same w g 1 _ _ _ h]; rfl
theorem Str.set2 {w : World} {g u0 v0 u1 v1 : Nat} {ev : Bool} (h : Str w g u0 v0 u1 v1 ev) (x : Nat) : Str (w.setCell ⟨g, 2, none⟩ (.int .u64 (x : Int))) g u0 v0 x v1 ev := by
  unfold Str; rw [heap_setCell_same w g 2 _ _ _ h]; rfl
theorem Str.set3 {w : World} {g u0 v0 u1 v1 : Nat} {ev : Bool} (h : Str w g u0 v0 u1 v1 ev) (x : Nat) : Str (w.setCell ⟨g, 3, none⟩ (.int .u64 (x : Int))) g u0 v0 u1 x ev := by
  unfold Str; rw [heap_setCell_same w g 3 _ _ _ h]; rfl
theorem Str.set4 {w : World} {g u0 v0 u1 v1 : Nat} {ev : Bool} (h : Str w g u0 v0 u1 v1 ev) (x : Bool) : Str (w.setCell ⟨g, 4, none⟩ (.bool x)) g u0 v0 u1 v1 x := by
  unfold Str; rw [heap_setCell_same w g 4 _ _ _ h]; rfl
theorem Str.far {w : World} {g g' i u0 v0 u1 v1 : Nat} {ev : Bool} {x : Value} (h : Str w g u0 v0 u1 v1 ev) (hne : g ≠ g') : Str (w.setCell ⟨g', i, none⟩ x) g u0 v0 u1 v1 ev :=
  (heap_setCell_other w ⟨g', i, none⟩ g x hne).trans h

/-- what simulate answers -/
def SimP (ah bh u0 v0 u1 v1 : Nat) (ev : Bool) : Prop := v0 = 0 ∨ ∃ x1 x2, GoodS ah bh u0 v0 u1 v1 x1 x2 ev
/-- what simulate's loop holds -/
def SmO (w wr : World) (ah bh g gr : Nat) (av bv u2v v2v : Value) : Prop := ∃ (a1 a2 u0 v0 u1 v1 u2 v2 : Nat) (ev : Bool), av = .int .u64 (a1 : Int) ∧ bv = .int .u64 (a2 : Int) ∧ u2v = .int .u64 (u2 : Int) ∧ v2v = .int .u64 (v2 : Int) ∧
  SimI ah bh a1 a2 u1 v1 u2 v2 ev ∧ SimP ah bh u0 v0 u1 v1 ev ∧ u0 < B64 ∧ v0 < B64 ∧ u1 < B64 ∧ v1 < B64 ∧ a1 < B64 ∧ Str wr g u0 v0 u1 v1 ev ∧ Str wr gr 0 0 0 0 false ∧ Below w.heap.size w wr

set_option maxHeartbeats 4000000 in
set_option maxRecDepth 100000 in
theorem simulate_any (ah bh : Nat) (w : World) (ha : ah < B64) (hle : bh ≤ ah) :
    Calls Tryz.prog 158 #[.int .u64 ((ah : Nat) : Int), .int .u64 ((bh : Nat) : Int)] w fun e w' => ∃ (u0 v0 u1 v1 : Nat) (ev : Bool), e = .returned (.agg #[.int .u64 (u0 : Int), .int .u64 (v0 : Int), .int .u64 (u1 : Int), .int .u64 (v1 : Int), .bool ev]) ∧
      SimP ah bh u0 v0 u1 v1 ev ∧ u0 < B64 ∧ v0 < B64 ∧ u1 < B64 ∧ v1 < B64 ∧ Below w.heap.size w w' := by
  have HA := Lib.hid ha; have HL := Lib.hid hle
  clear ha hle
  go_enter Tryz.func158, Tryz.ntmps158
  go_wp2
  have hS0 : Str ((w.alloc (Obj.cells #[Value.int .u64 0, Value.int .u64 0, Value.int .u64 0, Value.int .u64 0, Value.bool false] 198)).alloc (Obj.cells #[Value.int .u64 0, Value.int .u64 0, Value.int .u64 1, Value.int .u64 0, Value.bool false] 198)) (w.heap.size + 1) 0 0 1 0 false := by
    have := heap_alloc_new (w.alloc (Obj.cells #[Value.int .u64 0, Value.int .u64 0, Value.int .u64 0, Value.int .u64 0, Value.bool false] 198)) (Obj.cells #[Value.int .u64 0, Value.int .u64 0, Value.int .u64 1, Value.int .u64 0, Value.bool false] 198)
    rw [show (w.alloc (Obj.cells #[Value.int .u64 0, Value.int .u64 0, Value.int .u64 0, Value.int .u64 0, Value.bool false] 198)).heap.size = w.heap.size + 1 by simp] at this
    exact this
  have hS1 : Str (w.alloc (Obj.cells #[Value.int .u64 0, Value.int .u64 0, Value.int .u64 0, Value.int .u64 0, Value.bool false] 198)) w.heap.size 0 0 0 0 false := heap_alloc_new w _
  have hS2 := hS1.below (((Below.refl _ _).alloc (Nat.le_refl _) (Obj.cells #[Value.int .u64 0, Value.int .u64 0, Value.int .u64 1, Value.int .u64 0, Value.bool false] 198)))
  have hBB : Below w.heap.size w ((w.alloc (Obj.cells #[Value.int .u64 0, Value.int .u64 0, Value.int .u64 0, Value.int .u64 0, Value.bool false] 198)).alloc (Obj.cells #[Value.int .u64 0, Value.int .u64 0, Value.int .u64 1, Value.int .u64 0, Value.bool false] 198)) := ((Below.refl _ _).alloc (Nat.le_refl _) _).alloc (by simp) _
  have HS0 := Lib.hid hS0; have HS2 := Lib.hid hS2; have HB0 := Lib.hid hBB
  clear hS0 hS1 hS2 hBB
  obtain ⟨gr, hgr⟩ : ∃ gr, gr = w.heap.size := ⟨_, rfl⟩
  obtain ⟨g, hg⟩ : ∃ g, g = w.heap.size + 1 := ⟨_, rfl⟩
  rw [← hg] at HS0 ⊢
  rw [← hgr] at HS2
  have HG := Lib.hid (show gr = w.heap.size ∧ g = gr + 1 by omega)
  have hgw := hgr
  clear hg hgr
  generalize (w.alloc (Obj.cells #[Value.int .u64 0, Value.int .u64 0, Value.int .u64 0, Value.int .u64 0, Value.bool false] 198)).alloc (Obj.cells #[Value.int .u64 0, Value.int .u64 0, Value.int .u64 1, Value.int .u64 0, Value.bool false] 198) = w1 at *
  rw [← hgw]
  have HGW := Lib.hid hgw
  clear hgw
  go_loopw [0, 1, 6, 7] (fun av bv u2v v2v wr => SmO w wr ah bh g gr av bv u2v v2v) (fun _ bv _ _ _ => (intOf bv).toNat)
  case atStart => exact ⟨ah, bh, 0, 0, 1, 0, 0, 1, false, rfl, rfl, rfl, rfl, sim_start HL.out, .inl rfl, by unfold B64; omega, by unfold B64; omega, by unfold B64; omega, by unfold B64; omega, HA.out, HS0.out, HS2.out, HB0.out⟩
  case round =>
    obtain ⟨a1, a2, u0, v0, u1, v1, u2, v2, ev, rfl, rfl, rfl, rfl, hI, hP, b0, b1, b2, b3, b4, hS, hR, hbel⟩ := hrel
    have HI := Lib.hid hI; have HP := Lib.hid hP; have HS := Lib.hid hS; have HR := Lib.hid hR; have HBE := Lib.hid hbel
    have HB0' := Lib.hid b0; have HB1' := Lib.hid b1; have HB2' := Lib.hid b2; have HB3' := Lib.hid b3; have HB4' := Lib.hid b4
    obtain ⟨k0, k1, k2, k3, k4⟩ := hS.cells
    have q0 := hS.free 0; have q1 := hS.free 1; have q2 := hS.free 2; have q3 := hS.free 3; have q4 := hS.free 4
    obtain ⟨m0, m1, m2, m3, m4⟩ := hR.cells
    have r0 := hR.free 0; have r1 := hR.free 1; have r2 := hR.free 2; have r3 := hR.free 3; have r4 := hR.free 4
    have hle := hI.le; have hvp := hI.vp
    clear hI hP hS hR hbel
    by_cases hc1 : v2 ≤ a2
    · have hd1 : decide (v2 ≤ a2) = true := decide_eq_true hc1
      have hd1' : decide ((v2 : Int) ≤ (a2 : Int)) = true := decide_eq_true (by omega)
      have hsm := sim_small HI.out (by omega)
      have hAh := HA.out
      obtain ⟨d, hdd⟩ : ∃ d, d = a1 - a2 := ⟨_, rfl⟩
      obtain ⟨t, htt⟩ : ∃ t, t = v1 + v2 := ⟨_, rfl⟩
      have hw1 : IntKind.u64.wrap ((a1 : Int) - (a2 : Int)) = (d : Int) := by unfold B64 at b4; rw [IntKind.wrap_u64]; omega
      have hw2 : IntKind.u64.wrap ((v1 : Int) + (v2 : Int)) = (t : Int) := by unfold B64 at hAh; rw [IntKind.wrap_u64]; omega
      by_cases hc2 : t ≤ d
      · have hd2 : decide (t ≤ d) = true := decide_eq_true hc2
        have hd2' : decide ((t : Int) ≤ (d : Int)) = true := decide_eq_true (by omega)
        have hp2 : 0 < a2 := by omega
        have GD := Lib.hid (good_of_sim HI.out hc1 (by omega))
        have SI := Lib.hid (sim_step HI.out hp2)
        have SSM : 0 < a1 % a2 ∨ a1 % a2 = 0 := by omega
        have hsum := SI.out.sum
        have hvb : v1 + a1 / a2 * v2 ≤ ah := by
          have h1 : (v1 + a1 / a2 * v2) * 1 ≤ (v1 + a1 / a2 * v2) * a2 := Nat.mul_le_mul_left _ hp2
          omega
        have hub : u1 + a1 / a2 * u2 ≤ v1 + a1 / a2 * v2 := SI.out.uv
        have hq : (a1 : Int) / (a2 : Int) = ((a1 / a2 : Nat) : Int) := (Int.natCast_ediv a1 a2).symm
        have hm : (a1 : Int) % (a2 : Int) = ((a1 % a2 : Nat) : Int) := (Int.natCast_emod a1 a2).symm
        have hmlt := Nat.mod_lt a1 hp2
        have hql : a1 / a2 ≤ a1 := Nat.div_le_self _ _
        generalize a1 / a2 = q at *
        generalize a1 % a2 = m at *
        obtain ⟨qu, hqu⟩ : ∃ qu, qu = q * u2 := ⟨_, rfl⟩
        obtain ⟨qv, hqv⟩ : ∃ qv, qv = q * v2 := ⟨_, rfl⟩
        rw [← hqu, ← hqv] at SI hub
        rw [← hqv] at hvb hsum
        obtain ⟨nu, hnu⟩ : ∃ nu, nu = u1 + qu := ⟨_, rfl⟩
        obtain ⟨nv, hnv⟩ : ∃ nv, nv = v1 + qv := ⟨_, rfl⟩
        rw [← hnu, ← hnv] at SI
        have w1' : IntKind.u64.wrap ((q : Int) * (u2 : Int)) = (qu : Int) := by rw [← Int.natCast_mul, ← hqu]; exact wrap_u64 _ (by omega)
        have w2' : IntKind.u64.wrap ((q : Int) * (v2 : Int)) = (qv : Int) := by rw [← Int.natCast_mul, ← hqv]; exact wrap_u64 _ (by omega)
        have w3' : IntKind.u64.wrap ((u1 : Int) + (qu : Int)) = (nu : Int) := by rw [← Int.natCast_add, ← hnu]; exact wrap_u64 _ (by omega)
        have w4' : IntKind.u64.wrap ((v1 : Int) + (qv : Int)) = (nv : Int) := by rw [← Int.natCast_add, ← hnv]; exact wrap_u64 _ (by omega)
        have ha2n : (a2 : Int) ≠ 0 := by omega
        have ha64 : a1 ≤ 18446744073709551615 := by unfold B64 at b4; omega
        have ha264 : a2 ≤ 18446744073709551615 := by omega
        have HML := Lib.hid hmlt; have HB2B : Hid (u2 < B64 ∧ v2 < B64 ∧ a2 < B64) := Lib.hid ⟨by have := HI.out.uv; omega, by omega, by omega⟩
        have hq64 : q ≤ 18446744073709551615 := by omega
        have HBW : Hid (B64 = 18446744073709551616) := Lib.hid rfl
        clear hsm hAh hdd htt hsum hvb hub hql hqu hqv hnu hnv hmlt SSM hc1 hc2 hle hvp b0 b1 b2 b3 b4
        go_wp2
        go_quiet (fail)
        go_wp2
        go_roundw
        case rel =>
          have S1 := ((((HS.out.drawn nq).set0 u1).set2 u2).set1 v1).set3 v2 |>.set4 (!ev)
          have R1 := (((((HR.out.drawn nq).far (i := 0) (x := .int .u64 (u1 : Int)) (g' := g) (by have := HG.out; omega)).far (i := 2) (x := .int .u64 (u2 : Int)) (g' := g) (by have := HG.out; omega)).far (i := 1) (x := .int .u64 (v1 : Int)) (g' := g) (by have := HG.out; omega)).far (i := 3) (x := .int .u64 (v2 : Int)) (g' := g) (by have := HG.out; omega)).far (i := 4) (x := .bool (!ev)) (g' := g) (by have := HG.out; omega)
          have BB : Below w.heap.size w (wr.drewN nq) := bdrawn HBE.out nq
          have B1 := ((((BB.setCell (p := ⟨g, 0, none⟩) (by have := HG.out; simp; omega) (.int .u64 (u1 : Int))).setCell (p := ⟨g, 2, none⟩) (by have := HG.out; simp; omega) (.int .u64 (u2 : Int))).setCell (p := ⟨g, 1, none⟩) (by have := HG.out; simp; omega) (.int .u64 (v1 : Int))).setCell (p := ⟨g, 3, none⟩) (by have := HG.out; simp; omega) (.int .u64 (v2 : Int))).setCell (p := ⟨g, 4, none⟩) (by have := HG.out; simp; omega) (.bool (!ev))
          exact ⟨a2, m, u1, v1, u2, v2, nu, nv, !ev, rfl, by first | rfl | rw [hm], rfl, rfl, SI.out, .inr ⟨_, _, GD.out⟩, HB2'.out, HB3'.out, HB2B.out.1, HB2B.out.2.1, HB2B.out.2.2, S1, R1, B1⟩
        case measure => have := HML.out; simp [intOf]; omega
      · have hd2 : decide (t ≤ d) = false := decide_eq_false hc2
        have hd2' : decide ((t : Int) ≤ (d : Int)) = false := decide_eq_false (by omega)
        clear hsm hAh hdd htt hc1 hc2
        clear hle hvp b0 b1 b2 b3 b4
        go_wp2
        refine bodyPost_ret (v := .agg #[.int .u64 (u0 : Int), .int .u64 (v0 : Int), .int .u64 (u1 : Int), .int .u64 (v1 : Int), .bool ev]) ?_ rfl ⟨u0, v0, u1, v1, ev, rfl, HP.out, HB0'.out, HB1'.out, HB2'.out, HB3'.out, ?_⟩
        · simp [results, Tryz.results158, go_sem, (HR.out.set0 u0).cells.1, ((HR.out.set0 u0).set1 v0).cells.2.1, (((HR.out.set0 u0).set1 v0).set2 u1).cells.2.2.1, ((((HR.out.set0 u0).set1 v0).set2 u1).set3 v1).cells.2.2.2.1, (((((HR.out.set0 u0).set1 v0).set2 u1).set3 v1).set4 ev).cells.2.2.2.2]
        · have hg := HG.out.1
          exact ((((HBE.out.setCell (p := ⟨gr, 0, none⟩) (Nat.le_of_eq hg.symm) _).setCell (p := ⟨gr, 1, none⟩) (Nat.le_of_eq hg.symm) _).setCell (p := ⟨gr, 2, none⟩) (Nat.le_of_eq hg.symm) _).setCell (p := ⟨gr, 3, none⟩) (Nat.le_of_eq hg.symm) _).setCell (p := ⟨gr, 4, none⟩) (Nat.le_of_eq hg.symm) _
    · have hd1 : decide (v2 ≤ a2) = false := decide_eq_false hc1
      have hd1' : decide ((v2 : Int) ≤ (a2 : Int)) = false := decide_eq_false (by omega)
      clear hc1
      clear hle hvp b0 b1 b2 b3 b4
      go_wp2
      refine bodyPost_ret (v := .agg #[.int .u64 (u0 : Int), .int .u64 (v0 : Int), .int .u64 (u1 : Int), .int .u64 (v1 : Int), .bool ev]) ?_ rfl ⟨u0, v0, u1, v1, ev, rfl, HP.out, HB0'.out, HB1'.out, HB2'.out, HB3'.out, ?_⟩
      · simp [results, Tryz.results158, go_sem, (HR.out.set0 u0).cells.1, ((HR.out.set0 u0).set1 v0).cells.2.1, (((HR.out.set0 u0).set1 v0).set2 u1).cells.2.2.1, ((((HR.out.set0 u0).set1 v0).set2 u1).set3 v1).cells.2.2.2.1, (((((HR.out.set0 u0).set1 v0).set2 u1).set3 v1).set4 ev).cells.2.2.2.2]
      · have hg := HG.out.1
        exact ((((HBE.out.setCell (p := ⟨gr, 0, none⟩) (Nat.le_of_eq hg.symm) _).setCell (p := ⟨gr, 1, none⟩) (Nat.le_of_eq hg.symm) _).setCell (p := ⟨gr, 2, none⟩) (Nat.le_of_eq hg.symm) _).setCell (p := ⟨gr, 3, none⟩) (Nat.le_of_eq hg.symm) _).setCell (p := ⟨gr, 4, none⟩) (Nat.le_of_eq hg.symm) _
end Go.Proofs.YthgmebnihpjnoaaGreatDoor

/- nat: next, turned, apply. -/
namespace Go.Proofs.YthgmebnihpjnoaaGreatDoor
open Go.RowKit Mth

/-- a block that holds a difference -/
def Dif (w : World) (g p q c l b : Nat) : Prop := w.heap[g]? = some (.cells #[.int .u64 (p : Int), .int .u64 (q : Int), .int .u64 (c : Int), .int .u64 (l : Int), .int .u64 (b : Int)] 223 (0, 0))
theorem Dif.lt {w : World} {g p q c l b : Nat} (h : Dif w g p q c l b) : g < w.heap.size := (Array.getElem?_eq_some_iff.1 h).1
theorem Dif.cells {w : World} {g p q c l b : Nat} (h : Dif w g p q c l b) :
    w.cell? ⟨g, 0, none⟩ = some (.int .u64 (p : Int)) ∧ w.cell? ⟨g, 1, none⟩ = some (.int .u64 (q : Int)) ∧ w.cell? ⟨g, 2, none⟩ = some (.int .u64 (c : Int)) ∧ w.cell? ⟨g, 3, none⟩ = some (.int .u64 (l : Int)) ∧ w.cell? ⟨g, 4, none⟩ = some (.int .u64 (b : Int)) := by
  refine ⟨?_, ?_, ?_, ?_, ?_⟩ <;> (rw [cell_of_row w g _ _ _ (0, 0) h]; rfl)
theorem Dif.free {w : World} {g p q c l b : Nat} (h : Dif w g p q c l b) (j : Nat) : w.frozen? ⟨g, j, none⟩ = false := frozen_of_row w g j _ _ h
theorem Dif.grown {w w' : World} {g p q c l b : Nat} {row : Option Nat} (h : Dif w g p q c l b) (hg : w.grownBy w' row) (hne : some g ≠ row) : Dif w' g p q c l b := (hg.block g h.lt hne).trans h
theorem Dif.set2 {w : World} {g p q c l b : Nat} (h : Dif w g p q c l b) (x : Nat) : Dif (w.setCell ⟨g, 2, none⟩ (.int .u64 (x : Int))) g p q x l b := by
  unfold Dif; rw [heap_setCell_same w g 2 _ _ _ h]; rfl
theorem Dif.set3 {w : World} {g p q c l b : Nat} (h : Dif w g p q c l b) (x : Nat) : Dif (w.setCell ⟨g, 3, none⟩ (.int .u64 (x : Int))) g p q c x b := by
  unfold Dif; rw [heap_setCell_same w g 3 _ _ _ h]; rfl
theorem Dif.set4 {w : World} {g p q c l b : Nat} (h : Dif w g p q c l b) (x : Nat) : Dif (w.setCell ⟨g, 4, none⟩ (.int .u64 (x : Int))) g p q c l x := by
  unfold Dif; rw [heap_setCell_same w g 4 _ _ _ h]; rfl
theorem grown_set {w : World} {g i : Nat} {x : Value} : w.grownBy (w.setCell ⟨g, i, none⟩ x) (some g) :=
  ⟨rfl, rfl, rfl, by simp, fun k _ hk => heap_setCell_other w ⟨g, i, none⟩ k _ (fun e => hk (by simp [e]))⟩

theorem grown_set_drew {w : World} {g i : Nat} {x : Value} : w.grownBy (w.setCell ⟨g, i, none⟩ x).drew (some g) :=
  ⟨rfl, rfl, rfl, by simp [World.drew], fun k _ hk => heap_setCell_other w ⟨g, i, none⟩ k _ (fun e => hk (by simp [e]))⟩

theorem mulAdd_same (x y p : Nat) (hx : x < B64) (hy : y < B64) (hp : p < B64) (w : World) :
    Calls Tryz.prog 142 #[.int .u64 x, .int .u64 y, .int .u64 p] w fun e w' =>
      e = .returned (.tuple #[.int .u64 ((pHi x y p : Nat) : Int), .int .u64 ((pLo x y p : Nat) : Int)]) ∧ w' = w :=
  (mulAdd_any x y p hx hy hp w).mono fun _ _ ⟨h1, h2⟩ => ⟨h1, h2.symm⟩
set_option maxHeartbeats 4000000 in
set_option maxRecDepth 100000 in
theorem next_any (g p q c l b x y : Nat) (w : World) (h : Dif w g p q c l b) (hp : p < B64) (hq : q < B64) (hc : c < B64) (hl : l < B64) (hb : b ≤ 1) (hx : x < B64) (hy : y < B64) :
    Calls Tryz.prog 188 #[.pointer (some ⟨g, 0, none⟩), .int .u64 ((x : Nat) : Int), .int .u64 ((y : Nat) : Int)] w fun e w' => e = .returned (.int .u64 ((dfO p q x y c l b : Nat) : Int)) ∧ Dif w' g p q (pHi p x c) (pHi q y l) (dfB p q x y c l b) ∧ w.grownBy w' (some g) := by
  have H := Lib.hid h
  have M1 := Lib.hid (mulAdd_same p x c hp hx hc)
  have M2 := Lib.hid (mulAdd_same q y l hq hy hl)
  have hsub := fun w => sub64_run (pLo p x c) (pLo q y l) b hb w
  have HO : Hid (dfO p q x y c l b = sLo (pLo p x c) (pLo q y l) b) := Lib.hid rfl
  have HD : Hid (dfB p q x y c l b = sHi (pLo p x c) (pLo q y l) b) := Lib.hid rfl
  obtain ⟨k0, k1, k2, k3, k4⟩ := h.cells
  have q0 := h.free 0; have q1 := h.free 1; have q2 := h.free 2; have q3 := h.free 3; have q4 := h.free 4
  clear h hp hq hc hl hb hx hy
  generalize dfO p q x y c l b = o at *
  generalize dfB p q x y c l b = b' at *
  generalize pHi p x c = c' at *
  generalize pHi q y l = l' at *
  generalize pLo p x c = f at *
  generalize pLo q y l = t at *
  go_enter Tryz.func188, Tryz.ntmps188
  go_wp2
  go_upto_region 2 with fail
  go_cut [7] (fun s7 wx => s7 = .int .u64 ((f : Nat) : Int) ∧ Dif wx g p q c' l b ∧ w.grownBy wx (some g))
  case first =>
    go_region_with (first | (go_at_call 142; refine (M1.out _).mono ?_; rintro e w' ⟨rfl, rfl⟩))
    all_goals (go_wp2_with fail; go_meet; exact ⟨rfl, H.out.set2 c', grown_set_drew⟩)
  case rest =>
    obtain ⟨rfl, hD, hG⟩ := hcut
    clear k0 k1 k2 k3 k4 q0 q1 q2 q3 q4 H M1
    have H := Lib.hid hD
    obtain ⟨k0, k1, k2, k3, k4⟩ := hD.cells
    have q0 := hD.free 0; have q1 := hD.free 1; have q2 := hD.free 2; have q3 := hD.free 3; have q4 := hD.free 4
    clear hD
    have hG' := Lib.hid hG
    clear hG
    go_wp2_with fail
    go_upto_region 3 with fail
    go_cut [8] (fun s8 wy => s8 = .int .u64 ((t : Nat) : Int) ∧ Dif wy g p q c' l' b ∧ w.grownBy wy (some g))
    case first =>
      go_region_with (first | (go_at_call 142; refine (M2.out _).mono ?_; rintro e w' ⟨rfl, rfl⟩))
      all_goals (go_wp2_with fail; go_meet; exact ⟨rfl, H.out.set3 l', hG'.out.trans grown_set_drew⟩)
    case rest =>
      obtain ⟨rfl, hD, hG⟩ := hcut
      clear k0 k1 k2 k3 k4 q0 q1 q2 q3 q4 H hG'
      have H := Lib.hid hD
      obtain ⟨k0, k1, k2, k3, k4⟩ := hD.cells
      have q0 := hD.free 0; have q1 := hD.free 1; have q2 := hD.free 2; have q3 := hD.free 3; have q4 := hD.free 4
      clear hD
      have hG' := Lib.hid hG
      clear hG
      go_wp2
      rw [HO.out, HD.out]
      go_ret
      exact ⟨rfl, H.out.set4 _, hG'.out.trans grown_set⟩
end Go.Proofs.YthgmebnihpjnoaaGreatDoor

/- nat: turned, apply. -/
namespace Go.Proofs.YthgmebnihpjnoaaGreatDoor
open Go.RowKit Mth

/-- the trimmed front of a list -/
theorem tlen_take (R : List Nat) (n : Nat) (hn : n ≤ R.length) : tlen (R.take n) ≤ n ∧ Top (R.take (tlen (R.take n))) ∧ val B64 (R.take (tlen (R.take n))) = val B64 (R.take n) := by
  have ht := tlen_le (R.take n)
  rw [List.length_take, Nat.min_eq_left hn] at ht
  have e : (R.take n).take (tlen (R.take n)) = R.take (tlen (R.take n)) := by rw [List.take_take, Nat.min_eq_left ht]
  refine ⟨ht, ?_, ?_⟩
  · have := top_trimL (R.take n)
    unfold trimL at this
    rw [e] at this
    exact this
  · have := val_trimL B64 (R.take n)
    unfold trimL at this
    rw [e] at this
    exact this

theorem turned_any (u0 v0 u1 v1 : Nat) (ev : Bool) (w : World) : Calls Tryz.prog 187 #[.agg #[.int .u64 (u0 : Int), .int .u64 (v0 : Int), .int .u64 (u1 : Int), .int .u64 (v1 : Int), .bool ev]] w fun e w' => e = .returned (.agg #[.int .u64 (v0 : Int), .int .u64 (u0 : Int), .int .u64 (v1 : Int), .int .u64 (u1 : Int), .bool false]) ∧ Below w.heap.size w w' := by
  go_enter Tryz.func187, Tryz.ntmps187
  go_wp2
  have S1 : Str ((w.alloc (Obj.cells #[Value.int .u64 (u0 : Int), Value.int .u64 (v0 : Int), Value.int .u64 (u1 : Int), Value.int .u64 (v1 : Int), Value.bool ev] 198)).alloc (Obj.cells #[Value.int .u64 (v0 : Int), Value.int .u64 (u0 : Int), Value.int .u64 (v1 : Int), Value.int .u64 (u1 : Int), Value.bool false] 198)) (w.heap.size + 1) v0 u0 v1 u1 false := by
    have := heap_alloc_new (w.alloc (Obj.cells #[Value.int .u64 (u0 : Int), Value.int .u64 (v0 : Int), Value.int .u64 (u1 : Int), Value.int .u64 (v1 : Int), Value.bool ev] 198)) (Obj.cells #[Value.int .u64 (v0 : Int), Value.int .u64 (u0 : Int), Value.int .u64 (v1 : Int), Value.int .u64 (u1 : Int), Value.bool false] 198)
    rw [show (w.alloc (Obj.cells #[Value.int .u64 (u0 : Int), Value.int .u64 (v0 : Int), Value.int .u64 (u1 : Int), Value.int .u64 (v1 : Int), Value.bool ev] 198)).heap.size = w.heap.size + 1 by simp] at this
    exact this
  refine bodyPost_ret (v := .agg #[.int .u64 (v0 : Int), .int .u64 (u0 : Int), .int .u64 (v1 : Int), .int .u64 (u1 : Int), .bool false]) ?_ rfl ⟨rfl, ((Below.refl _ _).alloc (Nat.le_refl _) _).alloc (by simp) _⟩
  simp [results, Tryz.results187, go_sem, S1.cells.1, S1.cells.2.1, S1.cells.2.2.1, S1.cells.2.2.2.1, S1.cells.2.2.2.2]

/-- where apply stands ahead of its loop -/
def AplM (w wx : World) (h n X1 X2 : Nat) (g1 g2 c1 c2 : Nat) (A B : List Nat) (s8 s9 : Value) : Prop := ∃ (gx gy cx cy : Nat) (Xs Ys : List Nat) (a b c d : Nat) (e' : Bool), s8 = .slice (some ⟨gx, 0, none⟩) n cx ∧ s9 = .slice (some ⟨gy, 0, none⟩) n cy ∧ Str wx h a b c d e' ∧ a < B64 ∧ b < B64 ∧ c < B64 ∧ d < B64 ∧ X1 + b * val B64 Ys = a * val B64 Xs ∧ X2 + c * val B64 Xs = d * val B64 Ys ∧
  ((gx = g1 ∧ gy = g2 ∧ cx = c1 ∧ cy = c2 ∧ Xs = A ∧ Ys = B) ∨ (gx = g2 ∧ gy = g1 ∧ cx = c2 ∧ cy = c1 ∧ Xs = B ∧ Ys = A)) ∧ Below w.heap.size w wx
/-- what apply's loop holds -/
def AplO (w wr : World) (base g1 g2 f1 f2 n : Nat) (R1 R2 Xs Ys : List Nat) (a b c d : Nat) (i : Value) : Prop := ∃ (k : Nat) (R1' R2' : List Nat) (k1 l1 b1 k2 l2 b2 : Nat), k ≤ n ∧ i = .int .i64 (k : Int) ∧ Row wr 73 .u64 g1 R1' ∧ Row wr 73 .u64 g2 R2' ∧ R1'.length = R1.length ∧ R2'.length = R2.length ∧ Lim B64 R1' ∧ Lim B64 R2' ∧ (∀ j, k ≤ j → R1'.getD j 0 = R1.getD j 0) ∧ (∀ j, k ≤ j → R2'.getD j 0 = R2.getD j 0) ∧
  Dif wr f1 a b k1 l1 b1 ∧ Dif wr f2 d c k2 l2 b2 ∧ DfT a b Xs Ys R1' k k1 l1 b1 ∧ DfT d c Ys Xs R2' k k2 l2 b2 ∧ Below base w wr

set_option maxHeartbeats 4000000 in
set_option maxRecDepth 100000 in
theorem apply_any (g1 g2 c1 c2 la n : Nat) (R1 R2 : List Nat) (u0 v0 u1 v1 : Nat) (ev : Bool) (w : World) (base X1 X2 : Nat) (h1 : Row w 73 .u64 g1 R1) (h2 : Row w 73 .u64 g2 R2) (hne : g1 ≠ g2) (hb1 : base ≤ g1) (hb2 : base ≤ g2) (hn : n ≤ la) (hl1 : la ≤ R1.length) (hc1 : la ≤ c1) (hl2 : n ≤ R2.length) (hc2 : n ≤ c2) (hm1 : c1 ≤ maxLen) (hm2 : c2 ≤ maxLen) (l1 : Lim B64 R1) (l2 : Lim B64 R2) (hn2 : la ≤ 16777216)
    (hu0 : u0 < B64) (hv0 : v0 < B64) (hu1 : u1 < B64) (hv1 : v1 < B64)
    (e1 : ev = true → X1 + v0 * val B64 (R2.take n) = u0 * val B64 (R1.take la) ∧ X2 + u1 * val B64 (R1.take la) = v1 * val B64 (R2.take n))
    (e2 : ev = false → X1 + u0 * val B64 (R1.take la) = v0 * val B64 (R2.take n) ∧ X2 + v1 * val B64 (R2.take n) = u1 * val B64 (R1.take la)) (hX1 : X1 < B64 ^ n) (hX2 : X2 < B64 ^ n) :
    Calls Tryz.prog 161 #[.agg #[.int .u64 (u0 : Int), .int .u64 (v0 : Int), .int .u64 (u1 : Int), .int .u64 (v1 : Int), .bool ev], .slice (some ⟨g1, 0, none⟩) la c1, .slice (some ⟨g2, 0, none⟩) n c2] w fun e w' =>
      ∃ m1 m2 R1' R2', e = .returned (.tuple #[.slice (some ⟨g1, 0, none⟩) m1 c1, .slice (some ⟨g2, 0, none⟩) m2 c2]) ∧ Row w' 73 .u64 g1 R1' ∧ Row w' 73 .u64 g2 R2' ∧ m1 ≤ n ∧ m2 ≤ n ∧ R1'.length = R1.length ∧ R2'.length = R2.length ∧ Lim B64 R1' ∧ Lim B64 R2' ∧ Top (R1'.take m1) ∧ Top (R2'.take m2) ∧ val B64 (R1'.take m1) = X1 ∧ val B64 (R2'.take m2) = X2 ∧ Below base w w' := by
  have H1 := Lib.hid h1; have H2 := Lib.hid h2; have HNE := Lib.hid hne; have HB1 := Lib.hid hb1; have HB2 := Lib.hid hb2
  have L1 := Lib.hid l1; have L2 := Lib.hid l2
  have HU0 := Lib.hid hu0; have HV0 := Lib.hid hv0; have HU1 := Lib.hid hu1; have HV1 := Lib.hid hv1
  have E1 := Lib.hid e1; have E2 := Lib.hid e2; have HX1 := Lib.hid hX1; have HX2 := Lib.hid hX2
  have HL1 := Lib.hid hl1; have HL2 := Lib.hid hl2
  have hnc1 : n ≤ c1 := by omega
  unfold maxLen at hm1 hm2
  clear h1 h2 hne hb1 hb2 l1 l2 hu0 hv0 hu1 hv1 e1 e2 hX1 hX2 hl1 hl2
  go_enter Tryz.func161, Tryz.ntmps161
  have HB0 := Lib.hid ((Below.refl w.heap.size w).alloc (Nat.le_refl _) (Obj.cells #[Value.int .u64 (u0 : Int), Value.int .u64 (v0 : Int), Value.int .u64 (u1 : Int), Value.int .u64 (v1 : Int), Value.bool ev] 198))
  have HS0 : Hid (Str (w.alloc (Obj.cells #[Value.int .u64 (u0 : Int), Value.int .u64 (v0 : Int), Value.int .u64 (u1 : Int), Value.int .u64 (v1 : Int), Value.bool ev] 198)) w.heap.size u0 v0 u1 v1 ev) := Lib.hid (heap_alloc_new w _)
  have hall : ∀ s8 s9 wx, AplM w wx w.heap.size n X1 X2 g1 g2 c1 c2 (R1.take la) (R2.take n) s8 s9 → True := fun _ _ _ _ => trivial
  clear hall
  go_upto_if 23 with fail
  go_cut [8, 9] (fun s8 s9 wx => AplM w wx w.heap.size n X1 X2 g1 g2 c1 c2 (R1.take la) (R2.take n) s8 s9)
  case first =>
    cases ev with
    | true =>
      have E1' := Lib.hid (E1.out rfl)
      clear E1 E2
      go_wp2_with fail
      go_meet
      exact ⟨_, _, _, _, _, _, u0, v0, u1, v1, true, rfl, rfl, HS0.out, HU0.out, HV0.out, HU1.out, HV1.out, E1'.out.1, E1'.out.2, .inl ⟨rfl, rfl, rfl, rfl, rfl, rfl⟩, HB0.out⟩
    | false =>
      have E2' := Lib.hid (E2.out rfl)
      clear E1 E2
      go_wp2_with fail
      refine (turned_any u0 v0 u1 v1 false _).mono ?_
      rintro e w1 ⟨rfl, hbl⟩
      have S1 := HS0.out.below hbl
      obtain ⟨k0, k1, k2, k3, k4⟩ := S1.cells
      have q0 := S1.free 0; have q1 := S1.free 1; have q2 := S1.free 2; have q3 := S1.free 3; have q4 := S1.free 4
      have HSS := Lib.hid S1
      have HBB := Lib.hid (below_step HB0.out hbl)
      clear hbl S1
      go_wp2_with fail
      go_meet
      have S5 := ((((HSS.out.set0 v0).set1 u0).set2 v1).set3 u1).set4 false
      have B5 := (((((HBB.out.setCell (p := ⟨w.heap.size, 0, none⟩) (Nat.le_refl _) (.int .u64 (v0 : Int))).setCell (p := ⟨w.heap.size, 1, none⟩) (Nat.le_refl _) (.int .u64 (u0 : Int))).setCell (p := ⟨w.heap.size, 2, none⟩) (Nat.le_refl _) (.int .u64 (v1 : Int))).setCell (p := ⟨w.heap.size, 3, none⟩) (Nat.le_refl _) (.int .u64 (u1 : Int))).setCell (p := ⟨w.heap.size, 4, none⟩) (Nat.le_refl _) (.bool false))
      exact ⟨_, _, _, _, _, _, v0, u0, v1, u1, false, rfl, rfl, S5, HV0.out, HU0.out, HV1.out, HU1.out, E2'.out.1, E2'.out.2, .inr ⟨rfl, rfl, rfl, rfl, rfl, rfl⟩, B5⟩
  case rest =>
    obtain ⟨gx, gy, cx, cy, Xs, Ys, a, b, c, d, e', rfl, rfl, hS, ha, hb, hc, hd, hX1, hX2, hor, hbel⟩ := hcut
    clear HB0 HS0 E1 E2 HU0 HV0 HU1 HV1
    obtain ⟨k0, k1, k2, k3, k4⟩ := hS.cells
    have q0 := hS.free 0; have q1 := hS.free 1; have q2 := hS.free 2; have q3 := hS.free 3; have q4 := hS.free 4
    -- the lists of both
    have hlx : n ≤ Xs.length ∧ n ≤ Ys.length ∧ Lim B64 Xs ∧ Lim B64 Ys := by
      have := HL1.out; have := HL2.out
      have z : 0 < B64 := by have := B64_pos; omega
      rcases hor with ⟨_, _, _, _, rfl, rfl⟩ | ⟨_, _, _, _, rfl, rfl⟩
      · exact ⟨by rw [List.length_take]; omega, by rw [List.length_take]; omega, lim_take z L1.out _, lim_take z L2.out _⟩
      · exact ⟨by rw [List.length_take]; omega, by rw [List.length_take]; omega, lim_take z L2.out _, lim_take z L1.out _⟩
    have hcx : n ≤ cx ∧ n ≤ cy ∧ cx ≤ 2 ^ 63 - 1 ∧ cy ≤ 2 ^ 63 - 1 := by rcases hor with ⟨_, _, rfl, rfl, _⟩ | ⟨_, _, rfl, rfl, _⟩ <;> omega
    obtain ⟨hcx1, hcx2, hcx3, hcx4⟩ := hcx
    -- what is read, where both rows are as they were from k on
    have hread : ∀ (wr : World) (k : Nat) (R1' R2' : List Nat), k < n → Row wr 73 .u64 g1 R1' → Row wr 73 .u64 g2 R2' → R1'.length = R1.length → R2'.length = R2.length → (∀ j, k ≤ j → R1'.getD j 0 = R1.getD j 0) → (∀ j, k ≤ j → R2'.getD j 0 = R2.getD j 0) →
        wr.cell? ⟨gx, k, none⟩ = some (.int .u64 ((Xs.getD k 0 : Nat) : Int)) ∧ wr.cell? ⟨gy, k, none⟩ = some (.int .u64 ((Ys.getD k 0 : Nat) : Int)) := by
      intro wr k R1' R2' hk r1 r2 n1 n2 s1 s2
      have := HL1.out; have := HL2.out
      have c1 := r1.cell (j := k) (by omega)
      have c2 := r2.cell (j := k) (by omega)
      rw [s1 k (Nat.le_refl _)] at c1
      rw [s2 k (Nat.le_refl _)] at c2
      rcases hor with ⟨rfl, rfl, _, _, rfl, rfl⟩ | ⟨rfl, rfl, _, _, rfl, rfl⟩
      · rw [getD_take, getD_take, if_pos (by omega), if_pos hk]; exact ⟨c1, c2⟩
      · rw [getD_take, getD_take, if_pos hk, if_pos (by omega)]; exact ⟨c2, c1⟩
    have HS := Lib.hid hS; have HA := Lib.hid ha; have HB := Lib.hid hb; have HC := Lib.hid hc; have HD := Lib.hid hd; have HX1' := Lib.hid hX1; have HX2' := Lib.hid hX2; have HBE := Lib.hid hbel; have HLX := Lib.hid hlx
    have HRD := Lib.hid hread
    have HR1 := Lib.hid (H1.out.below hbel); have HR2 := Lib.hid (H2.out.below hbel)
    have HW := Lib.hid (show base ≤ w.heap.size by have := H1.out.lt; have := HB1.out; omega)
    have HWC := Lib.hid hbel.size
    have HLT : Hid (g1 < wc.heap.size ∧ g2 < wc.heap.size) := Lib.hid ⟨HR1.out.lt, HR2.out.lt⟩
    have S6 := hS.below ((Below.refl _ _).alloc (Nat.le_refl _) (Obj.cells #[Value.int .u64 (a : Int), Value.int .u64 (b : Int), Value.int .u64 0, Value.int .u64 0, Value.int .u64 0] 223))
    obtain ⟨p0, p1, p2, p3, p4⟩ := S6.cells
    clear hS ha hb hc hd hX1 hX2 hor hbel hlx hread S6
    go_wp2_with fail
    have hF1 : Dif (wc.alloc (Obj.cells #[Value.int .u64 (a : Int), Value.int .u64 (b : Int), Value.int .u64 0, Value.int .u64 0, Value.int .u64 0] 223)) wc.heap.size a b 0 0 0 := heap_alloc_new wc _
    have hF1' : Dif ((wc.alloc (Obj.cells #[Value.int .u64 (a : Int), Value.int .u64 (b : Int), Value.int .u64 0, Value.int .u64 0, Value.int .u64 0] 223)).alloc (Obj.cells #[Value.int .u64 (d : Int), Value.int .u64 (c : Int), Value.int .u64 0, Value.int .u64 0, Value.int .u64 0] 223)) wc.heap.size a b 0 0 0 :=
      hF1.grown (row := none) (grown_of_below ((Below.refl _ _).alloc (Nat.le_refl _) _) none) (by simp)
    have hF2 : Dif ((wc.alloc (Obj.cells #[Value.int .u64 (a : Int), Value.int .u64 (b : Int), Value.int .u64 0, Value.int .u64 0, Value.int .u64 0] 223)).alloc (Obj.cells #[Value.int .u64 (d : Int), Value.int .u64 (c : Int), Value.int .u64 0, Value.int .u64 0, Value.int .u64 0] 223)) (wc.heap.size + 1) d c 0 0 0 := by
      have := heap_alloc_new (wc.alloc (Obj.cells #[Value.int .u64 (a : Int), Value.int .u64 (b : Int), Value.int .u64 0, Value.int .u64 0, Value.int .u64 0] 223)) (Obj.cells #[Value.int .u64 (d : Int), Value.int .u64 (c : Int), Value.int .u64 0, Value.int .u64 0, Value.int .u64 0] 223)
      rw [show (wc.alloc (Obj.cells #[Value.int .u64 (a : Int), Value.int .u64 (b : Int), Value.int .u64 0, Value.int .u64 0, Value.int .u64 0] 223)).heap.size = wc.heap.size + 1 by simp] at this
      exact this
    have hB3 : Below w.heap.size w ((wc.alloc (Obj.cells #[Value.int .u64 (a : Int), Value.int .u64 (b : Int), Value.int .u64 0, Value.int .u64 0, Value.int .u64 0] 223)).alloc (Obj.cells #[Value.int .u64 (d : Int), Value.int .u64 (c : Int), Value.int .u64 0, Value.int .u64 0, Value.int .u64 0] 223)) := (HBE.out.alloc HWC.out _).alloc (by have := HWC.out; simp; omega) _
    have hg1 := HR1.out.below (((Below.refl _ _).alloc (Nat.le_refl _) (Obj.cells #[Value.int .u64 (a : Int), Value.int .u64 (b : Int), Value.int .u64 0, Value.int .u64 0, Value.int .u64 0] 223)).alloc (by simp) (Obj.cells #[Value.int .u64 (d : Int), Value.int .u64 (c : Int), Value.int .u64 0, Value.int .u64 0, Value.int .u64 0] 223))
    have hg2 := HR2.out.below (((Below.refl _ _).alloc (Nat.le_refl _) (Obj.cells #[Value.int .u64 (a : Int), Value.int .u64 (b : Int), Value.int .u64 0, Value.int .u64 0, Value.int .u64 0] 223)).alloc (by simp) (Obj.cells #[Value.int .u64 (d : Int), Value.int .u64 (c : Int), Value.int .u64 0, Value.int .u64 0, Value.int .u64 0] 223))
    obtain ⟨f1, hf1⟩ : ∃ f1, f1 = wc.heap.size := ⟨_, rfl⟩
    obtain ⟨f2, hf2⟩ : ∃ f2, f2 = wc.heap.size + 1 := ⟨_, rfl⟩
    have HF : Hid (f2 ≠ f1 ∧ g1 < f1 ∧ g1 < f2 ∧ g2 < f1 ∧ g2 < f2 ∧ base ≤ f1 ∧ base ≤ f2) := Lib.hid (by have := HLT.out; have := HW.out; have := HWC.out; omega)
    rw [← hf2] at hF2 ⊢
    rw [← hf1] at hF1' ⊢
    have KF1 := Lib.hid hF1'; have KF2 := Lib.hid hF2; have KB3 := Lib.hid (hB3.mono HW.out); have KG1 := Lib.hid hg1; have KG2 := Lib.hid hg2
    clear hF1 hF1' hF2 hB3 hg1 hg2 hf1 hf2 k0 k1 k2 k3 k4 q0 q1 q2 q3 q4 p0 p1 p2 p3 p4
    generalize (wc.alloc (Obj.cells #[Value.int .u64 (a : Int), Value.int .u64 (b : Int), Value.int .u64 0, Value.int .u64 0, Value.int .u64 0] 223)).alloc (Obj.cells #[Value.int .u64 (d : Int), Value.int .u64 (c : Int), Value.int .u64 0, Value.int .u64 0, Value.int .u64 0] 223) = w3 at *
    go_loopw [40] (fun i wr => AplO w wr base g1 g2 f1 f2 n R1 R2 Xs Ys a b c d i) (fun i _ => n - (intOf i).toNat)
    case atStart => exact ⟨0, R1, R2, 0, 0, 0, 0, 0, 0, Nat.zero_le _, rfl, KG1.out, KG2.out, rfl, rfl, L1.out, L2.out, fun _ _ => rfl, fun _ _ => rfl, KF1.out, KF2.out, dfT_zero _ _ _ _ _, dfT_zero _ _ _ _ _, KB3.out⟩
    case round =>
      obtain ⟨k, R1', R2', k1, l1, b1, k2, l2, b2, hk, rfl, r1, r2, n1, n2, m1, m2, s1, s2, d1, d2, t1, t2, hbr⟩ := hrel
      have HK := Lib.hid hk; have Q1 := Lib.hid r1; have Q2 := Lib.hid r2; have N1 := Lib.hid n1; have N2 := Lib.hid n2; have M1 := Lib.hid m1; have M2 := Lib.hid m2; have S1 := Lib.hid s1; have S2 := Lib.hid s2
      have Z1 := Lib.hid d1; have Z2 := Lib.hid d2; have T1 := Lib.hid t1; have T2 := Lib.hid t2; have HBR := Lib.hid hbr
      clear hk d1 d2 t1 t2 hbr m1 m2
      by_cases hkn : k < n
      · obtain ⟨hx, hy⟩ := HRD.out wr k R1' R2' hkn r1 r2 n1 n2 s1 s2
        have HX := Lib.hid (HLX.out.2.2.1 k); have HY := Lib.hid (HLX.out.2.2.2 k)
        have V1 := Lib.hid (dfT_step (R' := R1'.set k (dfO a b (Xs.getD k 0) (Ys.getD k 0) k1 l1 b1)) T1.out HA.out HB.out HLX.out.2.2.1 HLX.out.2.2.2 (by have := HLX.out.1; omega) (by have := HLX.out.2.1; omega) (by rw [List.length_set]; have := HL1.out; omega) (by rw [List.take_set_of_le (Nat.le_refl k)]) (by rw [getD_set' _ _ _ _ (by have := HL1.out; omega), if_pos rfl]))
        have V2 := Lib.hid (dfT_step (R' := R2'.set k (dfO d c (Ys.getD k 0) (Xs.getD k 0) k2 l2 b2)) T2.out HD.out HC.out HLX.out.2.2.2 HLX.out.2.2.1 (by have := HLX.out.2.1; omega) (by have := HLX.out.1; omega) (by rw [List.length_set]; have := HL2.out; omega) (by rw [List.take_set_of_le (Nat.le_refl k)]) (by rw [getD_set' _ _ _ _ (by have := HL2.out; omega), if_pos rfl]))
        have KN := Lib.hid hkn
        have O1 : Hid (dfO a b (Xs.getD k 0) (Ys.getD k 0) k1 l1 b1 < B64) := Lib.hid (sLo_lt _ _ _)
        have O2 : Hid (dfO d c (Ys.getD k 0) (Xs.getD k 0) k2 l2 b2 < B64) := Lib.hid (sLo_lt _ _ _)
        generalize Xs.getD k 0 = x at *
        generalize Ys.getD k 0 = y at *
        have hk0 : (0 : Int) ≤ (k : Int) := by omega
        have hk1 : (k : Int) < (n : Int) := by omega
        clear r1 r2 n1 n2 s1 s2
        go_wp2
        go_quiet (fail)
        go_wp2_with fail
        refine (next_any f1 a b k1 l1 b1 x y _ (show Dif (wr.drewN nq) f1 a b k1 l1 b1 from Z1.out) HA.out HB.out T1.out.clt T1.out.llt T1.out.ble HX.out HY.out).mono ?_
        rintro e w5 ⟨rfl, d5, g5⟩
        have D5 := Lib.hid d5; have G5 := Lib.hid g5
        have Y2 := Lib.hid ((show Dif (wr.drewN nq) f2 d c k2 l2 b2 from Z2.out).grown g5 (by have := HF.out.1; simp; omega))
        have P1 := Lib.hid ((show Row (wr.drewN nq) 73 .u64 g1 R1' from Q1.out).grown g5 (by have := HF.out; simp; omega))
        have P2 := Lib.hid ((show Row (wr.drewN nq) 73 .u64 g2 R2' from Q2.out).grown g5 (by have := HF.out; simp; omega))
        have B5 := Lib.hid (below_of_grown (show Below base w (wr.drewN nq) from bdrawn HBR.out nq) g5 HF.out.2.2.2.2.2.1 (by have := HW.out; have := HBR.out.size; simp [World.drewN]; omega))
        clear d5 g5
        go_wp2_with fail
        refine (next_any f2 d c k2 l2 b2 y x _ Y2.out HD.out HC.out T2.out.clt T2.out.llt T2.out.ble HY.out HX.out).mono ?_
        rintro e w6 ⟨rfl, d6, g6⟩
        have D6 := Lib.hid d6; have Y1 := Lib.hid (D5.out.grown g6 (by have := HF.out.1; simp; omega))
        have P3 := P1.out.grown g6 (by have := HF.out; simp; omega)
        have P4 := P2.out.grown g6 (by have := HF.out; simp; omega)
        have B6 := Lib.hid (below_of_grown B5.out g6 HF.out.2.2.2.2.2.2 (by have := HW.out; have := HBR.out.size; have := G5.out.size; simp [World.drewN] at this ⊢; omega))
        have j1 := P3.cell (j := k) (by have := HL1.out; have := N1.out; omega)
        have j2 := P4.cell (j := k) (by have := HL2.out; have := N2.out; omega)
        have i1 := P3.free k; have i2 := P4.free k
        have P3 := Lib.hid P3; have P4 := Lib.hid P4
        have hgg := HNE.out
        have hgg' := HNE.out.symm
        clear d6 g6
        generalize dfO a b x y k1 l1 b1 = o1 at *
        generalize dfO d c y x k2 l2 b2 = o2 at *
        have HKK : Hid (k + 1 ≤ 16777217) := Lib.hid (by omega)
        go_wp2
        go_roundw
        case rel =>
          have A1 := P3.out.set k o1
          have A2 := (P4.out.grown A1.2 (by simp; exact hgg')).set k o2
          have A3 := A1.1.grown A2.2 (by simp; exact hgg)
          have y1 := (Y1.out.grown A1.2 (by have := HF.out; simp; omega)).grown A2.2 (by have := HF.out; simp; omega)
          have y2 := (D6.out.grown A1.2 (by have := HF.out; simp; omega)).grown A2.2 (by have := HF.out; simp; omega)
          have z1 := below_of_grown B6.out A1.2 HB1.out (by have := HW.out; have := B6.out.size; omega)
          have z2 := below_of_grown z1 A2.2 HB2.out (by have := HW.out; have := z1.size; omega)
          refine ⟨k + 1, R1'.set k o1, R2'.set k o2, _, _, _, _, _, _, by have := KN.out; omega, by first | rfl | go_num, A3, A2.1, by rw [List.length_set]; exact N1.out, by rw [List.length_set]; exact N2.out, lim_set M1.out O1.out _, lim_set M2.out O2.out _, fun j hj => ?_, fun j hj => ?_, y1, y2, V1.out, V2.out, z2⟩
          · have := HL1.out; have := N1.out
            rw [getD_set' _ _ _ _ (by omega), if_neg (by omega)]; exact S1.out j (by omega)
          · have := HL2.out; have := N2.out
            rw [getD_set' _ _ _ _ (by omega), if_neg (by omega)]; exact S2.out j (by omega)
        case measure => have := KN.out; simp [intOf]; omega
      · have hkk : k = n := by have := HK.out; omega
        have hd3 : decide ((k : Int) < (n : Int)) = false := decide_eq_false (by omega)
        clear r1 r2 n1 n2 s1 s2
        subst hkk
        have F1 := dfT_end T1.out HLX.out.1 HLX.out.2.1 M1.out (by have := HL1.out; have := N1.out; omega) HX1'.out HX1.out
        have F2 := dfT_end T2.out HLX.out.2.1 HLX.out.1 M2.out (by have := HL2.out; have := N2.out; omega) HX2'.out HX2.out
        have F3 := Q1.out.sl (off := 0) (n := k) (cap := c1) (by have := HL1.out; have := N1.out; omega) (by omega) (by unfold maxLen; omega) (by omega)
        have F4 := Q2.out.sl (off := 0) (n := k) (cap := c2) (by have := HL2.out; have := N2.out; omega) (by omega) (by unfold maxLen; omega) (by omega)
        rw [List.drop_zero] at F3 F4
        have K1 := Lib.hid (trim_eq' F3); have K2 := Lib.hid (trim_eq' F4)
        have F1 := Lib.hid F1; have F2 := Lib.hid F2
        have tt1 := Lib.hid (tlen_take R1' k (by have := HL1.out; have := N1.out; omega)); have tt2 := Lib.hid (tlen_take R2' k (by have := HL2.out; have := N2.out; omega))
        clear F3 F4
        generalize tlen (R1'.take k) = p1 at *
        generalize tlen (R2'.take k) = p2 at *
        go_wp2_with fail
        refine (K1.out).mono ?_
        rintro e w' ⟨rfl, rfl⟩
        go_wp2_with fail
        refine (K2.out).mono ?_
        rintro e w' ⟨rfl, rfl⟩
        go_wp2
        go_ret2
        exact ⟨p1, p2, R1', R2', rfl, Q1.out, Q2.out, tt1.out.1, tt2.out.1, N1.out, N2.out, M1.out, M2.out, tt1.out.2.1, tt2.out.2.1, tt1.out.2.2.trans F1.out, tt2.out.2.2.trans F2.out, HBR.out⟩
end Go.Proofs.YthgmebnihpjnoaaGreatDoor

/- nat: shrink. -/
namespace Go.Proofs.YthgmebnihpjnoaaGreatDoor
open Go.RowKit Mth

/-- the number that lies behind a slice -/
def limbIn (w : World) (b off j : Nat) : Nat := match w.cell? ⟨b, off + j, none⟩ with | some (.int _ z) => z.toNat | _ => 0
def natIn (w : World) : Value → Nat
  | .slice (some a) n _ => val B64 ((List.range n).map (limbIn w a.block a.off))
  | _ => 0
theorem natIn_eq {w : World} {v : Value} {xs : List Nat} (h : Sl w .u64 v xs) : natIn w v = val B64 xs := by
  obtain ⟨ao, cap, rfl, h1, h2, h3, h4, h5⟩ := h
  by_cases hp : 0 < xs.length
  · obtain ⟨b, off, rfl, hb, hc⟩ := h5 hp
    have e : (List.range xs.length).map (limbIn w b off) = xs := by
      apply List.ext_getElem
      · simp
      · intro j hj1 hj2
        simp only [List.getElem_map, List.getElem_range, limbIn]
        rw [hc j hj2]
        simp [List.getD_eq_getElem?_getD, hj2]
    show val B64 ((List.range xs.length).map (limbIn w b off)) = _
    rw [e]
  · have : xs = [] := List.eq_nil_of_length_eq_zero (by omega)
    subst this
    cases ao <;> rfl
theorem natIn_num {w : World} {v : Value} {n : Nat} (h : Num w v n) : natIn w v = n := by
  obtain ⟨ys, h1, _, _, h4⟩ := h
  rw [natIn_eq h1, h4]

/-- what shrink's loop holds -/
def ShO (w wr : World) (base G : Nat) (va vb : Value) : Prop := ∃ A B : Nat, Own wr base va A ∧ Own wr base vb B ∧ (B = 0 ∨ inBlock va ≠ inBlock vb) ∧ B ≤ A ∧ A < Big ∧ Nat.gcd A B = G ∧ Below base w wr

set_option maxHeartbeats 800000 in
set_option maxRecDepth 100000 in
theorem shrink_any (va vb : Value) (A B base G : Nat) (w : World) (h1 : Own w base va A) (h2 : Own w base vb B) (hne : B = 0 ∨ inBlock va ≠ inBlock vb) (hle : B ≤ A) (hA : A < Big) (hG : Nat.gcd A B = G) (hbw : base ≤ w.heap.size) :
    Calls Tryz.prog 127 #[va, vb] w fun e w' => ∃ va vb A B, e = .returned (.tuple #[va, vb]) ∧ Own w' base va A ∧ Own w' base vb B ∧ Nat.gcd A B = G ∧ B < B64 ∧ B ≤ A ∧ A < Big ∧ Below base w w' := by
  have HS : Hid (ShO w w base G va vb) := Lib.hid ⟨A, B, h1, h2, hne, hle, hA, hG, (Below.refl w.heap.size w).mono hbw⟩
  have HBW := Lib.hid hbw
  clear h1 h2 hne hle hA hG hbw
  go_enter Tryz.func127, Tryz.ntmps127
  go_wp2
  go_loopw [0, 1] (fun a b wr => ShO w wr base G a b) (fun _ b wr => natIn wr b)
  case atStart => exact HS.out
  case round =>
    obtain ⟨A, B, o1, o2, hne, hle, hA, hG, hbel⟩ := hrel
    have O1 := Lib.hid o1; have O2 := Lib.hid o2; have LE := Lib.hid hle; have HA := Lib.hid hA; have HG := Lib.hid hG; have HBE := Lib.hid hbel
    have HNM := Lib.hid (natIn_num o2.num)
    have HSZ := Lib.hid (Nat.le_trans HBW.out hbel.size)
    rcases o2 with ⟨rfl, rfl⟩ | ⟨g2, n2, c2, R2, rfl, r2, hb2, hl2, hc2, hm2, hz2, lm2, tp2, hn2, hv2⟩
    · clear o1 hne hle hA hG hbel HS
      go_wp2
      go_ret2
      exact ⟨_, _, A, 0, rfl, O1.out, O2.out, HG.out, by have := B64_pos; omega, Nat.zero_le _, HA.out, HBE.out⟩
    · by_cases h1 : n2 ≤ 1
      · have hB : Hid (B < B64) := Lib.hid (by
          rw [← hv2]
          have h3 := val_lt (lim_take (by have := B64_pos; omega) lm2 n2)
          have h4 : B64 ^ (R2.take n2).length ≤ B64 ^ 1 := Nat.pow_le_pow_right (by have := B64_pos; omega) (by rw [List.length_take]; omega)
          rw [Nat.pow_one] at h4
          omega)
        have hd : ¬ 1 < n2 := by omega
        clear o1 hne hle hA hG hbel HS r2 hb2 lm2 tp2 hv2
        go_wp2
        go_ret2
        exact ⟨_, _, A, B, rfl, O1.out, O2.out, HG.out, hB.out, LE.out, HA.out, HBE.out⟩
      · have hlen2 : (R2.take n2).length = n2 := by rw [List.length_take]; omega
        have hBpos : 0 < B := by
          have := val_ge_top (B := B64) tp2 (by omega)
          have h5 : 0 < B64 ^ ((R2.take n2).length - 1) := Nat.pow_pos (by have := B64_pos; omega)
          omega
        rcases o1 with ⟨_, rfl⟩ | ⟨g1, n1, c1, R1, rfl, r1, hb1, hl1, hc1, hm1, hz1, lm1, tp1, hn1, hv1⟩
        · omega
        · have hgg : g1 ≠ g2 := by
            rcases hne with h | h
            · omega
            · intro e; exact h (by simp [inBlock, e])
          have hlen1 : (R1.take n1).length = n1 := by rw [List.length_take]; omega
          have z : 0 < B64 := by have := B64_pos; omega
          have hn12 : n2 ≤ n1 := by
            rcases Nat.lt_or_ge n1 n2 with h | h
            · have := val_lt_of_length B64_pos (lim_take z lm1 n1) tp2 (by omega)
              omega
            · exact h
          have hn1b : n1 ≤ 4096 := by
            rcases Nat.lt_or_ge 4096 n1 with h | h
            · have h6 := val_ge_top (B := B64) tp1 (by omega)
              have h9 : maxL = 4096 := rfl
              have h7 : B64 ^ maxL ≤ B64 ^ ((R1.take n1).length - 1) := Nat.pow_le_pow_right z (by omega)
              have h8 : Big = B64 ^ maxL := rfl
              clear h9
              omega
            · exact h
          obtain ⟨m, hm⟩ : ∃ m, n1 = m + 2 := ⟨n1 - 2, by omega⟩
          have s1 : Sl wr .u64 (.slice (some ⟨g1, 0, none⟩) n1 c1) (R1.take n1) := by
            have := r1.sl (off := 0) (n := n1) (cap := c1) (by omega) hc1 hm1 hn1
            rwa [List.drop_zero] at this
          have s2 : Sl wr .u64 (.slice (some ⟨g2, 0, none⟩) n2 c2) (R2.take n2) := by
            have := r2.sl (off := 0) (n := n2) (cap := c2) (by omega) hc2 hm2 hn2
            rwa [List.drop_zero] at this
          have LD := Lib.hid (leading_any _ _ _ _ m wr s1 s2 (lim_take z lm1 n1) (lim_take z lm2 n2) tp1 (by omega) (by omega) (by omega) (by omega))
          rw [hv1, hv2] at LD
          have hBn : Hid (B < B64 ^ n2) := Lib.hid (by rw [← hv2]; have := val_lt (lim_take z lm2 n2); rwa [hlen2] at this)
          have P1 := Lib.hid r1; have P2 := Lib.hid r2; have L1 := Lib.hid lm1; have L2 := Lib.hid lm2
          have GG := Lib.hid hgg; have HV1 := Lib.hid hv1; have HV2 := Lib.hid hv2; have TP1 := Lib.hid tp1; have TP2 := Lib.hid tp2
          have HN := Lib.hid (show base ≤ g1 ∧ base ≤ g2 ∧ n2 ≤ n1 ∧ n1 ≤ R1.length ∧ n1 ≤ c1 ∧ n2 ≤ R2.length ∧ n2 ≤ c2 ∧ c1 ≤ maxLen ∧ c2 ≤ maxLen ∧ n1 ≤ 4096 ∧ 2 ≤ n2 ∧ R1.length ≤ 16777217 ∧ R2.length ≤ 16777217 by omega)
          have BP := Lib.hid hBpos; have HL1 := Lib.hid hlen1; have HL2 := Lib.hid hlen2
          have hd : 1 < n2 := by omega
          clear hm hne hle hA hG hbel HS r1 r2 hb1 hb2 lm1 lm2 tp1 tp2 hv1 hv2 s1 s2 hgg hBpos hlen1 hlen2 hl1 hl2 hz1 hz2 z hc1 hm1 hn1 hc2 hm2 hn2
          go_wp2_with fail
          refine LD.out.mono ?_
          rintro e w1 ⟨M, hM, rfl, hah, hdr⟩
          have HM := Lib.hid hM; have HAH := Lib.hid hah; have HDR := Lib.hid hdr
          have SM := Lib.hid (simulate_any (A / M) (B / M) w1 hah (Nat.div_le_div_right LE.out))
          clear hM hah hdr
          obtain ⟨ah, hah⟩ : ∃ ah, ah = A / M := ⟨_, rfl⟩
          obtain ⟨bh, hbh⟩ : ∃ bh, bh = B / M := ⟨_, rfl⟩
          rw [← hah, ← hbh] at SM ⊢
          have EAH := Lib.hid hah; have EBH := Lib.hid hbh
          clear hah hbh
          go_wp2_with fail
          refine SM.out.mono ?_
          rintro e w2 ⟨u0, v0, u1, v1, ev, rfl, hsp, hu0, hv0, hu1, hv1, hb2⟩
          have SP := Lib.hid hsp; have U := Lib.hid (show u0 < B64 ∧ v0 < B64 ∧ u1 < B64 ∧ v1 < B64 from ⟨hu0, hv0, hu1, hv1⟩); have HB2 := Lib.hid hb2
          clear hsp hu0 hv0 hu1 hv1 hb2
          go_wp2_with fail
          have S0 : Str (w2.alloc (Obj.cells #[Value.int .u64 (u0 : Int), Value.int .u64 (v0 : Int), Value.int .u64 (u1 : Int), Value.int .u64 (v1 : Int), Value.bool ev] 198)) w2.heap.size u0 v0 u1 v1 ev := heap_alloc_new w2 _
          have B0 := (below_step HDR.out.below HB2.out).alloc (below_step HDR.out.below HB2.out).size (Obj.cells #[Value.int .u64 (u0 : Int), Value.int .u64 (v0 : Int), Value.int .u64 (u1 : Int), Value.int .u64 (v1 : Int), Value.bool ev] 198)
          refine (moves_any u0 v0 u1 v1 ev _).mono ?_
          rintro e w3 ⟨rfl, hb3⟩
          have S3 := S0.below hb3
          have B3 := Lib.hid (below_step B0 hb3)
          obtain ⟨k0, k1, k2, k3, k4⟩ := S3.cells
          have r1 := P1.out.below B3.out; have r2 := P2.out.below B3.out
          have s1 : Sl w3 .u64 (.slice (some ⟨g1, 0, none⟩) n1 c1) (R1.take n1) := by
            have h := HN.out
            have := r1.sl (off := 0) (n := n1) (cap := c1) (by omega) (by omega) (by omega) (by omega)
            rwa [List.drop_zero] at this
          have s2 : Sl w3 .u64 (.slice (some ⟨g2, 0, none⟩) n2 c2) (R2.take n2) := by
            have h := HN.out
            have := r2.sl (off := 0) (n := n2) (cap := c2) (by omega) (by omega) (by omega) (by omega)
            rwa [List.drop_zero] at this
          have SS1 := Lib.hid s1; have SS2 := Lib.hid s2; have Q1 := Lib.hid r1; have Q2 := Lib.hid r2
          clear S0 B0 hb3 S3 r1 r2 s1 s2
          by_cases h0 : v0 = 0
          · have hd2 : decide (v0 ≠ 0) = false := by simp [h0]
            have z : 0 < B64 := by have := B64_pos; omega
            have DV := Lib.hid (divide_any _ _ _ _ w3 SS1.out SS2.out (lim_take z L1.out n1) (lim_take z L2.out n2) TP1.out TP2.out (by have := HN.out; rw [HL2.out]; omega) (by have := HN.out; rw [HL1.out]; omega))
            rw [HV1.out, HV2.out] at DV
            clear h0 z k0 k1 k2 k3 k4
            rw [hd2]
            go_wp2_with fail
            refine DV.out.mono ?_
            rintro e w4 ⟨vq, vr, rfl, _, h5, h6⟩
            have H5 := Lib.hid h5; have B4 := Lib.hid (below_step B3.out h6); have B34 := Lib.hid h6
            have NR := Lib.hid (natIn_num h5.num)
            clear h5 h6
            go_wp2
            go_roundw
            case rel =>
              refine ⟨B, A % B, O2.out.below B4.out, H5.out.mono (Nat.le_trans HSZ.out B3.out.size), ?_, Nat.le_of_lt (Nat.mod_lt _ BP.out), Nat.lt_of_le_of_lt LE.out HA.out, ?_, HBE.out.trans (B4.out.mono HSZ.out)⟩
              · rcases H5.out with ⟨_, h⟩ | ⟨g, _, _, _, rfl, _, hg, _⟩
                · exact .inl h
                · right
                  have := Q2.out.lt
                  simp [inBlock]
                  omega
              · rw [← HG.out, Nat.gcd_comm A B, Nat.gcd_rec B A, Nat.gcd_comm]
            case measure => rw [HNM.out, NR.out]; exact Nat.mod_lt _ BP.out
          · have hd2 : decide (v0 ≠ 0) = true := by simp [h0]
            rcases SP.out with h | ⟨x1, x2, hgood⟩
            · exact absurd h h0
            · rw [EAH.out, EBH.out] at hgood
              obtain ⟨X1, X2, f1, f2, f3, f4, f5⟩ := good_whole HM.out hgood h0
              have AP := Lib.hid (apply_any g1 g2 c1 c2 n1 n2 R1 R2 u0 v0 u1 v1 ev w3 base X1 X2 Q1.out Q2.out GG.out (by have := HN.out; omega) (by have := HN.out; omega) (by have := HN.out; omega) (by have := HN.out; omega) (by have := HN.out; omega) (by have := HN.out; omega) (by have := HN.out; omega) (by have := HN.out; omega) (by have := HN.out; omega) L1.out L2.out (by have := HN.out; omega) U.out.1 U.out.2.1 U.out.2.2.1 U.out.2.2.2 (by rw [HV1.out, HV2.out]; exact f1) (by rw [HV1.out, HV2.out]; exact f2) (Nat.lt_of_le_of_lt f4 hBn.out) (Nat.lt_trans f3 (Nat.lt_of_le_of_lt f4 hBn.out)))
              have F := Lib.hid (show X2 < X1 ∧ X1 ≤ B ∧ Nat.gcd X1 X2 = Nat.gcd A B from ⟨f3, f4, f5⟩)
              clear f1 f2 f3 f4 f5 hgood h0
              rw [hd2]
              go_wp2_with fail
              refine AP.out.mono ?_
              rintro e w4 ⟨m1, m2, R1', R2', rfl, q1, q2, t1, t2, t3, t4, t5, t6, t7, t8, t9, t10, h6⟩
              have ow1 : Own w4 base (.slice (some ⟨g1, 0, none⟩) m1 c1) X1 := by
                have := HN.out
                exact .inr ⟨g1, m1, c1, R1', rfl, q1, by omega, by omega, by omega, by omega, by omega, t5, t7, by omega, t9⟩
              have ow2 : Own w4 base (.slice (some ⟨g2, 0, none⟩) m2 c2) X2 := by
                have := HN.out
                exact .inr ⟨g2, m2, c2, R2', rfl, q2, by omega, by omega, by omega, by omega, by omega, t6, t8, by omega, t10⟩
              have W1 := Lib.hid ow1; have W2 := Lib.hid ow2
              have NR := Lib.hid (natIn_num ow2.num)
              have B4 := Lib.hid ((B3.out.mono HSZ.out).trans h6)
              clear ow1 ow2 q1 q2 t1 t2 t3 t4 t5 t6 t7 t8 t9 t10 h6
              go_wp2
              go_roundw
              case rel =>
                refine ⟨X1, X2, W1.out, W2.out, .inr ?_, Nat.le_of_lt F.out.1, Nat.lt_of_le_of_lt (Nat.le_trans F.out.2.1 LE.out) HA.out, F.out.2.2.trans HG.out, HBE.out.trans B4.out⟩
                have := GG.out
                simpa [inBlock] using this
              case measure => rw [HNM.out, NR.out]; exact Nat.lt_of_lt_of_le F.out.1 F.out.2.1
end Go.Proofs.YthgmebnihpjnoaaGreatDoor

/- nat: Gcd. -/
namespace Go.Proofs.YthgmebnihpjnoaaGreatDoor
open Go.RowKit Mth

/-- what Gcd answers -/
def gcdN (a b : Nat) : Nat := if Big ≤ a ∨ Big ≤ b then 0 else Nat.gcd a b
def gcdE (a b : Nat) : Int := if Big ≤ a ∨ Big ≤ b then 5 else 0
theorem gcd_long {a b : Nat} (h : Big ≤ a ∨ Big ≤ b) : gcdN a b = 0 ∧ gcdE a b = 5 := ⟨if_pos h, if_pos h⟩
theorem gcd_fine {a b : Nat} (h : ¬ (Big ≤ a ∨ Big ≤ b)) : gcdN a b = Nat.gcd a b ∧ gcdE a b = 0 := ⟨if_neg h, if_neg h⟩
/-- where Gcd stands with the greater number ahead -/
def GcM (w wx : World) (G : Nat) (s0 s1 : Value) : Prop := ∃ xs ys : List Nat, Sl wx .u64 s0 xs ∧ Sl wx .u64 s1 ys ∧ Lim B64 xs ∧ Lim B64 ys ∧ Top xs ∧ Top ys ∧ val B64 ys ≤ val B64 xs ∧ Nat.gcd (val B64 xs) (val B64 ys) = G ∧ val B64 xs < Big ∧ Below w.heap.size w wx
/-- and where the lower one has one limb at most -/
def GcL (w wx : World) (G : Nat) (s0 s1 : Value) : Prop := ∃ xs ys : List Nat, Sl wx .u64 s0 xs ∧ Sl wx .u64 s1 ys ∧ Lim B64 xs ∧ Lim B64 ys ∧ Top xs ∧ Top ys ∧ ys.length ≤ 1 ∧ Nat.gcd (val B64 xs) (val B64 ys) = G ∧ Below w.heap.size w wx

set_option maxHeartbeats 2000000 in
set_option maxRecDepth 100000 in
theorem gcd_any (v1 v2 : Value) (xs ys : List Nat) (w : World) (h1 : Sl w .u64 v1 xs) (h2 : Sl w .u64 v2 ys) (l1 : Lim B64 xs) (l2 : Lim B64 ys) :
    Calls Tryz.prog 89 #[v1, v2] w fun e w' => ∃ v', e = .returned (.tuple #[v', .int .i64 (gcdE (val B64 xs) (val B64 ys))]) ∧ Own w' w.heap.size v' (gcdN (val B64 xs) (val B64 ys)) ∧ Below w.heap.size w w' := by
  have T1 := Lib.hid (trim_any h1); have T2 := Lib.hid (trim_any h2)
  have G1 := Lib.hid (long_iff l1); have G2 := Lib.hid (long_iff l2)
  have e1 : val B64 (trimL xs) = val B64 xs := val_trimL _ _
  have e2 : val B64 (trimL ys) = val B64 ys := val_trimL _ _
  have k1 := lim_trimL l1; have k2 := lim_trimL l2; have p1 := top_trimL xs; have p2 := top_trimL ys
  rw [← e1] at G1 ⊢
  rw [← e2] at G2 ⊢
  clear h1 h2 l1 l2 e1 e2
  generalize trimL xs = ts at *
  generalize trimL ys = us at *
  have K1 := Lib.hid k1; have K2 := Lib.hid k2; have P1 := Lib.hid p1; have P2 := Lib.hid p2
  clear k1 k2 p1 p2
  go_enter Tryz.func89, Tryz.ntmps89
  go_wp2_with fail
  refine T1.out.mono ?_
  rintro e w' ⟨va, rfl, s1, rfl⟩
  go_wp2_with fail
  refine T2.out.mono ?_
  rintro e w' ⟨vb, rfl, s2, rfl⟩
  have S1 := Lib.hid s1; have S2 := Lib.hid s2
  obtain ⟨a0, c0, rfl⟩ := s1.shape
  obtain ⟨a1, c1, rfl⟩ := s2.shape
  clear s1 s2
  by_cases g1 : 4096 < ts.length
  · have hd : decide (4096 < ts.length) = true := decide_eq_true g1
    have E := Lib.hid (gcd_long (b := val B64 us) (.inl (G1.out.1 g1)))
    clear g1
    go_wp2_with fail
    refine (tooLong_any S1.out).mono ?_
    rintro e w' ⟨rfl, rfl⟩
    go_wp2
    go_ret2
    exact ⟨_, by rw [E.out.2]; rfl, by rw [E.out.1]; exact .inl ⟨rfl, rfl⟩, Below.refl _ _⟩
  · have hd : decide (4096 < ts.length) = false := decide_eq_false g1
    by_cases g2 : 4096 < us.length
    · have hd2 : decide (4096 < us.length) = true := decide_eq_true g2
      have E := Lib.hid (gcd_long (a := val B64 ts) (.inr (G2.out.1 g2)))
      clear g1 g2
      go_wp2_with fail
      refine (tooLong_any S1.out).mono ?_
      rintro e w' ⟨rfl, rfl⟩
      go_wp2_with fail
      refine (tooLong_any S2.out).mono ?_
      rintro e w' ⟨rfl, rfl⟩
      go_wp2
      go_ret2
      exact ⟨_, by rw [E.out.2]; rfl, by rw [E.out.1]; exact .inl ⟨rfl, rfl⟩, Below.refl _ _⟩
    · have hd2 : decide (4096 < us.length) = false := decide_eq_false g2
      have NB : Hid (¬ (Big ≤ val B64 ts ∨ Big ≤ val B64 us)) := Lib.hid (fun h => h.elim (fun h => g1 (G1.out.2 h)) (fun h => g2 (G2.out.2 h)))
      have E := Lib.hid (gcd_fine NB.out)
      have LT : Hid (val B64 ts < Big ∧ val B64 us < Big) := Lib.hid (by have := NB.out; omega)
      clear g1 g2 G1 G2
      go_wp2_with fail
      refine (tooLong_any S1.out).mono ?_
      rintro e w' ⟨rfl, rfl⟩
      go_wp2_with fail
      refine (tooLong_any S2.out).mono ?_
      rintro e w' ⟨rfl, rfl⟩
      go_wp2_with fail
      refine (cmp_any _ _ ts us _ S1.out S2.out K1.out K2.out).mono ?_
      rintro e w1 ⟨rfl, hb1⟩
      have B1 := Lib.hid hb1
      clear hb1
      go_upto_if 19 with fail
      go_cut [0, 1] (fun s0 s1 wx => GcM w wx (Nat.gcd (val B64 ts) (val B64 us)) s0 s1)
      case first =>
        by_cases hlt : val B64 ts < val B64 us
        · have hc : cmp3 (val B64 ts) (val B64 us) = -1 := by unfold cmp3; rw [if_pos hlt]
          have HLT := Lib.hid hlt
          rw [hc]
          clear hc hlt
          go_wp2
          go_meet
          exact ⟨us, ts, S2.out.below B1.out, S1.out.below B1.out, K2.out, K1.out, P2.out, P1.out, Nat.le_of_lt HLT.out, Nat.gcd_comm _ _, LT.out.2, B1.out⟩
        · have hc : cmp3 (val B64 ts) (val B64 us) = 0 ∨ cmp3 (val B64 ts) (val B64 us) = 1 := by unfold cmp3; rw [if_neg hlt]; split <;> simp
          have HLT := Lib.hid hlt
          clear hlt
          rcases hc with hc | hc
          all_goals
            rw [hc]
            clear hc
            go_wp2
            go_meet
            exact ⟨ts, us, S1.out.below B1.out, S2.out.below B1.out, K1.out, K2.out, P1.out, P2.out, Nat.le_of_not_lt HLT.out, rfl, LT.out.1, B1.out⟩
      case rest =>
        obtain ⟨xs, ys, s1, s2, l1, l2, t1, t2, hle, hg, hA, hb⟩ := hcut
        obtain ⟨aa, ca, rfl⟩ := s1.shape
        obtain ⟨ab, cb, rfl⟩ := s2.shape
        have S1 := Lib.hid s1; have S2 := Lib.hid s2; have L1 := Lib.hid l1; have L2 := Lib.hid l2; have R1 := Lib.hid t1; have R2 := Lib.hid t2; have LE := Lib.hid hle; have HG := Lib.hid hg; have HA := Lib.hid hA; have HB := Lib.hid hb
        have hl2 := s2.len
        clear s1 s2 l1 l2 t1 t2 hle hg hA hb hd hd2
        go_upto_if 24 with fail
        go_cut [0, 1] (fun s0 s1 wx => GcL w wx (Nat.gcd (val B64 ts) (val B64 us)) s0 s1)
        case first =>
          by_cases hlen : 1 < ys.length
          · go_wp2_with fail
            refine (fresh_own S1.out L1.out).mono ?_
            rintro e w2 ⟨va, rfl, ho, hb2⟩
            have O1 := Lib.hid ho; have B2 := Lib.hid hb2
            clear ho hb2
            go_wp2_with fail
            refine (fresh_own (S2.out.below B2.out) L2.out).mono ?_
            rintro e w3 ⟨vb, rfl, ho, hb3⟩
            have hne : val B64 ys = 0 ∨ inBlock va ≠ inBlock vb := by
              rcases O1.out with ⟨_, h⟩ | ⟨g, _, _, _, rfl, hrow, _⟩
              · left; have := LE.out; omega
              · rcases ho with ⟨_, h⟩ | ⟨g', _, _, _, rfl, _, hg', _⟩
                · exact .inl h
                · right
                  have := hrow.lt
                  simp [inBlock]
                  omega
            have SH := Lib.hid (shrink_any va vb (val B64 xs) (val B64 ys) wc.heap.size _ w3 (O1.out.below hb3) (ho.mono B2.out.size) hne LE.out HA.out rfl (Nat.le_trans B2.out.size hb3.size))
            have B3 := Lib.hid (below_step B2.out hb3)
            clear ho hb3 hne hlen
            go_wp2_with fail
            refine SH.out.mono ?_
            rintro e w4 ⟨vc, vd, C, D, rfl, o3, o4, hg, hD, _, _, hb4⟩
            obtain ⟨xs', s3, l3, t3, e3⟩ := o3.num
            obtain ⟨ys', s4, l4, t4, e4⟩ := o4.num
            have HF : Hid (GcL w w4 (Nat.gcd (val B64 ts) (val B64 us)) vc vd) := Lib.hid ⟨xs', ys', s3, s4, l3, l4, t3, t4, length_of_val B64_pos t4 1 (by rw [e4, Nat.pow_one]; exact hD), by rw [e3, e4, hg, HG.out], below_step HB.out (B3.out.trans hb4)⟩
            clear o3 o4 hg hD hb4 s3 l3 t3 e3 s4 l4 t4 e4
            go_wp2
            go_meet
            exact HF.out
          · have hlen' : ¬ (1 : Int) < (ys.length : Int) := by omega
            have HL := Lib.hid hlen
            go_wp2
            go_meet
            exact ⟨xs, ys, S1.out, S2.out, L1.out, L2.out, R1.out, R2.out, by have := HL.out; omega, HG.out, HB.out⟩
        case rest =>
          obtain ⟨ms, ds, s3, s4, l3, l4, t3, t4, hl, hg, hb⟩ := hcut
          clear S1 S2 L1 L2 R1 R2 LE HG HA HB hl2
          obtain ⟨ad, cd, rfl⟩ := s3.shape
          obtain ⟨ae, ce, rfl⟩ := s4.shape
          have S3 := Lib.hid s3; have L3 := Lib.hid l3; have HG := Lib.hid hg; have HB := Lib.hid hb
          by_cases h0 : ds.length = 0
          · have hd0 := len_eq h0
            have hv : Hid (val B64 ms = Nat.gcd (val B64 ts) (val B64 us)) := Lib.hid (by rw [← hg, List.eq_nil_of_length_eq_zero h0]; simp [val])
            clear h0 s3 s4 l3 l4 t3 t4 hl hg hb
            go_wp2_with fail
            refine (fresh_own S3.out L3.out).mono ?_
            rintro e w5 ⟨v5, rfl, ho, hb5⟩
            have O5 := Lib.hid ho; have B5 := Lib.hid hb5
            clear ho hb5
            go_wp2
            go_ret2
            exact ⟨_, by rw [E.out.2]; rfl, by rw [E.out.1, ← hv.out]; exact O5.out.mono HB.out.size, below_step HB.out B5.out⟩
          · have hd0 := len_ne h0
            have h1 : ds.length = 1 := by omega
            have hy := list_one h1
            obtain ⟨bb, boff, bcap, e9, hb1, hb2, hbblt, hbc⟩ := s4.pos (by omega)
            simp only [Value.slice.injEq, true_and] at e9
            obtain ⟨rfl, rfl⟩ := e9
            have hb0 := hbc 0 (by omega)
            rw [Nat.add_zero] at hb0
            generalize hd : ds.getD 0 0 = d at *
            have hdlt : d < B64 := by rw [← hd]; exact l4 0
            have hdp : 0 < d := by
              have := tlen_top ds (by rw [t4]; omega)
              rw [t4, h1, hd] at this
              omega
            have hyv : val B64 ds = d := by rw [hy]; simp [val]
            rw [hyv] at hg
            have hm : Hid (Nat.gcd d (val B64 ms % d) = Nat.gcd (val B64 ts) (val B64 us)) := Lib.hid (by rw [← hg, Nat.gcd_comm (val B64 ms) d, Nat.gcd_rec d (val B64 ms), Nat.gcd_comm])
            have RB : Hid (∀ wx, Sl wx .u64 (.slice ad ms.length cd) ms → Calls Tryz.prog 130 #[.slice ad ms.length cd, .int .u64 ((d : Nat) : Int)] wx fun e w' => e = .returned (.int .u64 ((val B64 ms % d : Nat) : Int)) ∧ Drawn wx w') := Lib.hid (fun wx h => restByLimb_drawn _ ms d wx h l3 hdp hdlt)
            have hml : val B64 ms % d < d := Nat.mod_lt _ hdp
            have GL : Hid (∀ wx, Calls Tryz.prog 129 #[.int .u64 ((d : Nat) : Int), .int .u64 ((val B64 ms % d : Nat) : Int)] wx fun e w' => e = .returned (.int .u64 ((Nat.gcd d (val B64 ms % d) : Nat) : Int)) ∧ Drawn wx w') := Lib.hid (fun wx => gcdLimbs_any d (val B64 ms % d) (by omega) wx)
            have hgl : Nat.gcd d (val B64 ms % d) < B64 := Nat.lt_of_le_of_lt (Nat.le_of_dvd hdp (Nat.gcd_dvd_left _ _)) hdlt
            have OF : Hid (∀ wx, Calls Tryz.prog 85 #[.int .u64 ((Nat.gcd d (val B64 ms % d) : Nat) : Int)] wx fun e w' => ∃ v', e = .returned v' ∧ Own w' wx.heap.size v' (Nat.gcd d (val B64 ms % d)) ∧ Below wx.heap.size wx w') := Lib.hid (fun wx => of_own _ hgl wx)
            rw [h1] at hb1 ⊢
            clear s3 s4 l3 l4 t3 t4 hl hg hb hbc hy hd hdlt hdp hyv hml hgl h0 hd0 h1
            generalize val B64 ms % d = rr at *
            generalize Nat.gcd d rr = gg at *
            go_wp2
            go_region_with (first
              | (go_at_call 130; refine (RB.out _ ?_).mono ?_; exact S3.out; rintro e w' ⟨rfl, mm, rfl⟩)
              | (go_at_call 129; refine (GL.out _).mono ?_; rintro e w' ⟨rfl, mm, rfl⟩)
              | (go_at_call 85; refine (OF.out _).mono ?_; rintro e w' ⟨v', rfl, ho, hb⟩; have OO := Lib.hid ho; have BB := Lib.hid hb; clear ho hb))
            all_goals
              go_wp2
              go_ret2
              refine ⟨v', by rw [E.out.2]; rfl, ?_, ?_⟩
              · rw [E.out.1, ← hm.out]
                refine OO.out.mono ?_
                exact HB.out.size
              · refine below_step ?_ BB.out
                exact ⟨HB.out.os, HB.out.tape, HB.out.output, HB.out.size, HB.out.block⟩
end Go.Proofs.YthgmebnihpjnoaaGreatDoor
