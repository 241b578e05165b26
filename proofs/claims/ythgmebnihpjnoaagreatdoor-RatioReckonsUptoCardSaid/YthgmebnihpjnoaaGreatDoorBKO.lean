/- Declarations that the slim texts leave out, under new names (written by extract.py). -/
import Derived.Test.YthgmebnihpjnoaaGreatDoorQB4
import Derived.Test.YthgmebnihpjnoaaGreatDoorQB3
set_option linter.unusedVariables false
set_option linter.unusedSimpArgs false
namespace Go.Proofs.YthgmebnihpjnoaaGreatDoor
open Go.RowKit Mth

theorem frv_zeroY (w : World) : FrV w zRat 0 0 := ⟨none, 0, 0, none, 0, 0, rfl, (ow_nil w 0).num, (ow_nil w 0).num⟩
theorem big_posY : 0 < Big := Nat.lt_trans Nat.zero_lt_one one_lt_big
/-- what is told of a sum or a product of two: N by M is what it is -/
def OpCY (N : Int) (M : Nat) (x : Int) (d : Nat) (y : Int) (e : Nat) (E : Int) (X : Int) (D : Nat) : Prop :=
  ((d = 0 ∨ e = 0) ∧ E = 11 ∧ X = 0 ∧ D = 0) ∨ (0 < d ∧ 0 < e ∧ (longQ (x, d) ∨ longQ (y, e) ∨ longQ (lowN N M, lowD N M)) ∧ E = 5 ∧ X = 0 ∧ D = 0) ∨
  (0 < d ∧ 0 < e ∧ ¬ longQ (x, d) ∧ ¬ longQ (y, e) ∧ ¬ longQ (lowN N M, lowD N M) ∧ E = 0 ∧ X = lowN N M ∧ D = lowD N M)
/-- what is told, with its value -/
def OutQY (w : World) (v : Value) (N : Int) (M : Nat) (x : Int) (d : Nat) (y : Int) (e : Nat) (E : Int) : Prop := ∃ (X : Int) (D : Nat), FrV w v X D ∧ X.natAbs < Big ∧ D < Big ∧ OpCY N M x d y e E X D
theorem out_addY {v u v' : Value} {x y : Int} {d e : Nat} {w : World} {E : Int} (h : GatO false (0, 1) [(v, x, d), (u, y, e)] w v' E) : OutQY w v' (x * e + y * d) (d * e) x d y e E := by
  rcases add_two h with ⟨h1, h2, rfl⟩ | ⟨h1, h2, h3, h4, rfl⟩ | ⟨h1, h2, h3, h4, h5, h6, h7⟩
  · exact ⟨0, 0, frv_zeroY w, big_posY, big_posY, .inl ⟨h1, h2, rfl, rfl⟩⟩
  · exact ⟨0, 0, frv_zeroY w, big_posY, big_posY, .inr (.inl ⟨h1, h2, h3, h4, rfl, rfl⟩)⟩
  · exact ⟨_, _, h7, bigR_lt (by unfold longQ at h5; omega), bigR_lt (by unfold longQ at h5; omega), .inr (.inr ⟨h1, h2, h3, h4, h5, h6, rfl, rfl⟩)⟩
theorem mul_one1Y (v : Value) (x : Int) (d : Nat) : stepQ true (1, 1) (v, x, d) = (lowN x d, lowD x d) := by
  simp only [stepQ]
  rw [Int.one_mul, Nat.one_mul]
open Classical in
theorem out_mulY {v u v' : Value} {x y : Int} {d e : Nat} {w : World} {E : Int} (h : GatO true (1, 1) [(v, x, d), (u, y, e)] w v' E) : OutQY w v' (x * y) (d * e) x d y e E := by
  unfold GatO at h
  rw [rzero_two, rlong_two] at h
  have key : 0 < d → 0 < e → ¬ longQ (x, d) → (foldQ true (1, 1) [(v, x, d), (u, y, e)] = if longQ (lowN (x * y) (d * e), lowD (x * y) (d * e)) then none else some (lowN (x * y) (d * e), lowD (x * y) (d * e))) := fun hd he hl => by
    have s2 : stepQ true (lowN x d, lowD x d) (u, y, e) = (lowN (x * y) (d * e), lowD (x * y) (d * e)) := by
      show (lowN (lowN x d * y) (lowD x d * e), lowD (lowN x d * y) (lowD x d * e)) = _
      have hle := low_eq x hd
      have hu := low_uniq (n := lowN x d * y) (m := x * y) (d := lowD x d * e) (e := d * e) (Nat.mul_pos (lowD_pos hd) he) (Nat.mul_pos hd he) (by
        rw [Int.natCast_mul, Int.natCast_mul]
        have b1 : lowN x d * y * (d * e) = (lowN x d * d) * y * e := by grind
        have b2 : x * y * (lowD x d * e) = (x * lowD x d) * y * e := by grind
        rw [b1, b2, hle])
      rw [hu.1, hu.2]
    rw [fold_no (by rw [mul_one1Y]; exact low_short hl), mul_one1Y]
    by_cases hq : longQ (lowN (x * y) (d * e), lowD (x * y) (d * e))
    · rw [if_pos hq, fold_yes (by rw [s2]; exact hq)]
    · rw [if_neg hq, fold_no (by rw [s2]; exact hq), s2]; rfl
  rcases h with ⟨h1, h2, rfl⟩ | ⟨h1, h2, h3, rfl⟩ | ⟨h1, h2, X, D, h3, h4, h5⟩
  · exact ⟨0, 0, frv_zeroY w, big_posY, big_posY, .inl ⟨h1, h2, rfl, rfl⟩⟩
  · have hd : 0 < d := by omega
    have he : 0 < e := by omega
    refine ⟨0, 0, frv_zeroY w, big_posY, big_posY, .inr (.inl ⟨hd, he, ?_, h3, rfl, rfl⟩)⟩
    rcases h2 with (h2 | h2) | h2
    · exact .inl h2
    · exact .inr (.inl h2)
    · by_cases hl : longQ (x, d)
      · exact .inl hl
      · rw [key hd he hl] at h2
        split at h2
        · rename_i hq; exact .inr (.inr hq)
        · cases h2
  · have hd : 0 < d := by omega
    have he : 0 < e := by omega
    have hl : ¬ longQ (x, d) := fun h => h2 (.inl h)
    rw [key hd he hl] at h3
    split at h3
    · cases h3
    · rename_i hq
      injection h3 with h3
      injection h3 with e1 e2
      subst e1 e2
      exact ⟨_, _, h5, bigR_lt (by unfold longQ at hq; omega), bigR_lt (by unfold longQ at hq; omega), .inr (.inr ⟨hd, he, hl, fun h => h2 (.inr h), hq, h4, rfl, rfl⟩)⟩
end Go.Proofs.YthgmebnihpjnoaaGreatDoor
