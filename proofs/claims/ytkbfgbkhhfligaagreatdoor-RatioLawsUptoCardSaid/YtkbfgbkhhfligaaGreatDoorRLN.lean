/- RatioLaws: what the calls say, in plain mathematics. -/
import Derived.Test.YtkbfgbkhhfligaaGreatDoorQB4
set_option linter.unusedVariables false
set_option linter.unusedSimpArgs false
namespace Go.Proofs.YtkbfgbkhhfligaaGreatDoor
open Go.RowKit Mth

/-- what is told of a sum or a product of two: N by M is what it is -/
def OpC (N : Int) (M : Nat) (x : Int) (d : Nat) (y : Int) (e : Nat) (E : Int) (X : Int) (D : Nat) : Prop :=
  ((d = 0 ∨ e = 0) ∧ E = 11 ∧ X = 0 ∧ D = 0) ∨ (0 < d ∧ 0 < e ∧ (longQ (x, d) ∨ longQ (y, e) ∨ longQ (lowN N M, lowD N M)) ∧ E = 5 ∧ X = 0 ∧ D = 0) ∨
  (0 < d ∧ 0 < e ∧ ¬ longQ (x, d) ∧ ¬ longQ (y, e) ∧ ¬ longQ (lowN N M, lowD N M) ∧ E = 0 ∧ X = lowN N M ∧ D = lowD N M)
theorem frv_zero (w : World) : FrV w zRat 0 0 := ⟨none, 0, 0, none, 0, 0, rfl, num_nil w, num_nil w⟩
/-- what is told, with its value -/
def OutQ (w : World) (v : Value) (N : Int) (M : Nat) (x : Int) (d : Nat) (y : Int) (e : Nat) (E : Int) : Prop := ∃ (X : Int) (D : Nat), FrV w v X D ∧ X.natAbs < Big ∧ D < Big ∧ OpC N M x d y e E X D
theorem out_add {v u v' : Value} {x y : Int} {d e : Nat} {w : World} {E : Int} (h : GatO false (0, 1) [(v, x, d), (u, y, e)] w v' E) : OutQ w v' (x * e + y * d) (d * e) x d y e E := by
  rcases add_two h with ⟨h1, h2, rfl⟩ | ⟨h1, h2, h3, h4, rfl⟩ | ⟨h1, h2, h3, h4, h5, h6, h7⟩
  · exact ⟨0, 0, frv_zero w, big_pos, big_pos, .inl ⟨h1, h2, rfl, rfl⟩⟩
  · exact ⟨0, 0, frv_zero w, big_pos, big_pos, .inr (.inl ⟨h1, h2, h3, h4, rfl, rfl⟩)⟩
  · exact ⟨_, _, h7, bigR_lt (by unfold longQ at h5; omega), bigR_lt (by unfold longQ at h5; omega), .inr (.inr ⟨h1, h2, h3, h4, h5, h6, rfl, rfl⟩)⟩
theorem mul_one1 (v : Value) (x : Int) (d : Nat) : stepQ true (1, 1) (v, x, d) = (lowN x d, lowD x d) := by
  simp only [stepQ]
  rw [Int.one_mul, Nat.one_mul]
open Classical in
theorem out_mul {v u v' : Value} {x y : Int} {d e : Nat} {w : World} {E : Int} (h : GatO true (1, 1) [(v, x, d), (u, y, e)] w v' E) : OutQ w v' (x * y) (d * e) x d y e E := by
  unfold GatO at h
  rw [rzero_two, rlong_two] at h
  have key : 0 < d → 0 < e → ¬ longQ (x, d) → (foldQ true (1, 1) [(v, x, d), (u, y, e)] = if longQ (lowN (x * y) (d * e), lowD (x * y) (d * e)) then none else some (lowN (x * y) (d * e), lowD (x * y) (d * e))) := fun hd he hl => by
    have s2 : stepQ true (lowN x d, lowD x d) (u, y, e) = (lowN (x * y) (d * e), lowD (x * y) (d * e)) := by
      show (lowN (lowN x d * y) (lowD x d * e), lowD (lowN x d * y) (lowD x d * e)) = _
      have hle := low_eq x hd
      have hu := low_uniq (n := lowN x d * y) (m := x * y) (d := lowD x d * e) (e := d * e) (Nat.mul_pos (lowD_pos hd) he) (Nat.mul_pos hd he) (by
        rw [Int.natCast_mul, Int.natCast_mul]
        have b1 : lowN x d * y * (d * e) = (lowN x d * d) * y * e := by grind
        have b2 : x * y * (lowD x d * e) = (x * lowD x d) * y * e := by grind
        rw [b1, b2, hle])
      rw [hu.1, hu.2]
    rw [fold_no (by rw [mul_one1]; exact low_short hl), mul_one1]
    by_cases hq : longQ (lowN (x * y) (d * e), lowD (x * y) (d * e))
    · rw [if_pos hq, fold_yes (by rw [s2]; exact hq)]
    · rw [if_neg hq, fold_no (by rw [s2]; exact hq), s2]; rfl
  rcases h with ⟨h1, h2, rfl⟩ | ⟨h1, h2, h3, rfl⟩ | ⟨h1, h2, X, D, h3, h4, h5⟩
  · exact ⟨0, 0, frv_zero w, big_pos, big_pos, .inl ⟨h1, h2, rfl, rfl⟩⟩
  · have hd : 0 < d := by omega
    have he : 0 < e := by omega
    refine ⟨0, 0, frv_zero w, big_pos, big_pos, .inr (.inl ⟨hd, he, ?_, h3, rfl, rfl⟩)⟩
    rcases h2 with (h2 | h2) | h2
    · exact .inl h2
    · exact .inr (.inl h2)
    · by_cases hl : longQ (x, d)
      · exact .inl hl
      · rw [key hd he hl] at h2
        split at h2
        · rename_i hq; exact .inr (.inr hq)
        · cases h2
  · have hd : 0 < d := by omega
    have he : 0 < e := by omega
    have hl : ¬ longQ (x, d) := fun h => h2 (.inl h)
    rw [key hd he hl] at h3
    split at h3
    · cases h3
    · rename_i hq
      injection h3 with h3
      injection h3 with e1 e2
      subst e1 e2
      exact ⟨_, _, h5, bigR_lt (by unfold longQ at hq; omega), bigR_lt (by unfold longQ at hq; omega), .inr (.inr ⟨hd, he, hl, fun h => h2 (.inr h), hq, h4, rfl, rfl⟩)⟩
theorem op_turn {N N' : Int} {M M' : Nat} {x y : Int} {d e : Nat} {E E' X X' : Int} {D D' : Nat} (hN : N' = N) (hM : M' = M) (h : OpC N M x d y e E X D) (k : OpC N' M' y e x d E' X' D') : E = E' ∧ X = X' ∧ D = D' := by
  subst hN hM
  rcases h with ⟨h1, rfl, rfl, rfl⟩ | ⟨h1, h2, h3, rfl, rfl, rfl⟩ | ⟨h1, h2, h3, h4, h5, rfl, rfl, rfl⟩ <;> rcases k with ⟨k1, rfl, rfl, rfl⟩ | ⟨k1, k2, k3, rfl, rfl, rfl⟩ | ⟨k1, k2, k3, k4, k5, rfl, rfl, rfl⟩ <;> first
    | exact ⟨rfl, rfl, rfl⟩
    | (exfalso; omega)
    | (exfalso; rcases h3 with a | a | a <;> first | exact k3 a | exact k4 a | exact k5 a)
    | (exfalso; rcases k3 with a | a | a <;> first | exact h3 a | exact h4 a | exact h5 a)
theorem op_err {N : Int} {M : Nat} {x y : Int} {d e : Nat} {E X : Int} {D : Nat} (h : OpC N M x d y e E X D) : (E = 11 ∧ (d = 0 ∨ e = 0)) ∨ E = 5 ∨ (E = 0 ∧ 0 < d ∧ 0 < e ∧ (0 < M → 0 < D ∧ N * D = X * M ∧ ¬ longQ (X, D) ∧ X = lowN N M ∧ D = lowD N M)) := by
  rcases h with ⟨h1, h2, _⟩ | ⟨h1, h2, h3, h4, _⟩ | ⟨h1, h2, h3, h4, h5, h6, rfl, rfl⟩
  · exact .inl ⟨h2, h1⟩
  · exact .inr (.inl h4)
  · exact .inr (.inr ⟨h6, h1, h2, fun hM => ⟨lowD_pos hM, low_eq N hM, h5, rfl, rfl⟩⟩)
theorem fr_rat {w : World} {v : Value} {x : Int} {d : Nat} (h : FrV w v x d) (hx : x.natAbs < Big) (hd : d < Big) : RatV w v x d := by
  obtain ⟨a, k, c, a', k', c', e, n1, n2⟩ := h
  have e1 : IntR w (.agg #[.bool (sgn x), .slice a k c]) x := (FrV.two (w := w) (b := sgn x) ⟨a, k, c, a', k', c', rfl, n1, n2⟩ hx hd).2.1
  have e2 : IntR w (.agg #[.bool false, .slice a' k' c']) (d : Int) := (FrV.two (w := w) (b := sgn x) ⟨a, k, c, a', k', c', rfl, n1, n2⟩ hx hd).2.2
  obtain ⟨m1, u1, xs, f1, s1, l1, z1, v1⟩ := e1.2
  obtain ⟨m2, u2, ys, f2, s2, l2, z2, v2⟩ := e2.2
  simp only [Value.agg.injEq, Array.mk.injEq, List.cons.injEq, Value.bool.injEq, and_true] at f1 f2
  obtain ⟨rfl, rfl⟩ := f1
  obtain ⟨rfl, rfl⟩ := f2
  exact ⟨_, a, k, c, a', k', c', xs, ys, e, s1, l1, z1, v1, s2, l2, z2, Int.ofNat.inj v2⟩
/-- a product of a sum is the sum of the products -/
theorem laws_math {x1 x2 x3 S P X Y Z : Int} {d1 d2 d3 SD PD XD YD ZD : Nat} (h1 : 0 < d1) (h2 : 0 < d2) (h3 : 0 < d3) (hSD : 0 < SD) (hXD : 0 < XD) (hYD : 0 < YD)
    (hS : (x1 * d2 + x2 * d1) * SD = S * ((d1 * d2 : Nat) : Int)) (hX : x1 * x3 * XD = X * ((d1 * d3 : Nat) : Int)) (hY : x3 * x2 * YD = Y * ((d3 * d2 : Nat) : Int))
    (hP : P = lowN (S * x3) (SD * d3) ∧ PD = lowD (S * x3) (SD * d3)) (hZ : Z = lowN (X * YD + Y * XD) (XD * YD) ∧ ZD = lowD (X * YD + Y * XD) (XD * YD)) : P = Z ∧ PD = ZD := by
  have hu := low_uniq (n := S * x3) (m := X * YD + Y * XD) (d := SD * d3) (e := XD * YD) (Nat.mul_pos hSD h3) (Nat.mul_pos hXD hYD) (by
    rw [Int.natCast_mul, Int.natCast_mul]
    rw [Int.natCast_mul] at hS hX hY
    have p1 := posI h1; have p2 := posI h2; have p3 := posI h3
    generalize (d1 : Int) = a1 at *
    generalize (d2 : Int) = a2 at *
    generalize (d3 : Int) = a3 at *
    generalize (SD : Int) = sd at *
    generalize (XD : Int) = xd at *
    generalize (YD : Int) = yd at *
    have hK : 0 < a1 * a2 * (a1 * a3) * (a3 * a2) := Int.mul_pos (Int.mul_pos (Int.mul_pos p1 p2) (Int.mul_pos p1 p3)) (Int.mul_pos p3 p2)
    refine Int.eq_of_mul_eq_mul_right (Int.ne_of_gt hK) ?_
    have l1 : S * x3 * (xd * yd) * (a1 * a2 * (a1 * a3) * (a3 * a2)) = (S * (a1 * a2)) * (x3 * xd * yd * (a1 * a3) * (a3 * a2)) := by grind
    have l2 : (X * yd + Y * xd) * (sd * a3) * (a1 * a2 * (a1 * a3) * (a3 * a2)) = (X * (a1 * a3)) * (yd * sd * a3 * (a1 * a2) * (a3 * a2)) + (Y * (a3 * a2)) * (xd * sd * a3 * (a1 * a2) * (a1 * a3)) := by grind
    rw [l1, l2, ← hS, ← hX, ← hY]
    grind)
  rw [hP.1, hP.2, hZ.1, hZ.2]
  exact hu
/-- what is taken is given back -/
theorem back_math {x1 x2 S DN : Int} {d1 d2 SD DD : Nat} (h1 : 0 < d1) (h2 : 0 < d2) (hSD : 0 < SD)
    (hS : (x1 * d2 + x2 * d1) * SD = S * ((d1 * d2 : Nat) : Int)) (hD : (S * d2 + -x2 * SD) * DD = DN * ((SD * d2 : Nat) : Int)) : DN * d1 = x1 * DD := by
  rw [Int.natCast_mul] at hS hD
  have p1 := posI h1; have p2 := posI h2; have p3 := posI hSD
  generalize (d1 : Int) = a1 at *
  generalize (d2 : Int) = a2 at *
  generalize (SD : Int) = sd at *
  generalize (DD : Int) = dd at *
  have hK : 0 < sd * a2 := Int.mul_pos p3 p2
  refine Int.eq_of_mul_eq_mul_right (Int.ne_of_gt hK) ?_
  have l1 : DN * a1 * (sd * a2) = (DN * (sd * a2)) * a1 := by grind
  rw [l1, ← hD]
  have l2 : (S * a2 + -x2 * sd) * dd * a1 = (S * (a1 * a2)) * dd - x2 * sd * dd * a1 := by grind
  rw [l2, ← hS]
  grind
end Go.Proofs.YtkbfgbkhhfligaaGreatDoor
