/- Digits of a limb, in plain mathematics. -/
import Derived.Test.YtafeokkkbiaajabDoorMath
namespace Go.Proofs.YtafeokkkbiaajabDoor.Mth

/-- the letter of a digit -/
def dch (d : Nat) : Nat := if d < 10 then 48 + d else 87 + d
def md (u b : Nat) : Nat := u % b
def dv (u b : Nat) : Nat := u / b
/-- the digits of u in base b, the highest first; no noughts ahead -/
def dgs (b : Nat) : Nat → Nat → List Nat
  | 0, _ => []
  | f + 1, u => if u < b then [dch u] else dgs b f (dv u b) ++ [dch (md u b)]
theorem dgs_low {b f u : Nat} (h : u < b) : dgs b (f + 1) u = [dch u] := by simp [dgs, h]
theorem dgs_step {b f u : Nat} (h : ¬ u < b) : dgs b (f + 1) u = dgs b f (dv u b) ++ [dch (md u b)] := by simp [dgs, h]
theorem dch_lt {d : Nat} (h : d < 36) : dch d < 256 := by unfold dch; split <;> omega
theorem dgs_lt {b : Nat} (h2 : 2 ≤ b) (hb : b ≤ 36) : ∀ f u, ∀ x ∈ dgs b f u, x < 256
  | 0, _, x, hx => by simp [dgs] at hx
  | f + 1, u, x, hx => by
    by_cases h : u < b
    · rw [dgs_low h] at hx
      simp at hx
      subst hx
      exact dch_lt (by omega)
    · rw [dgs_step h] at hx
      rcases List.mem_append.1 hx with h1 | h1
      · exact dgs_lt h2 hb f _ x h1
      · simp at h1
        subst h1
        exact dch_lt (by have := Nat.mod_lt u (show 0 < b by omega); unfold md; omega)
/-- one round of formatBits -/
theorem fmt_step {b f F n0 u i : Nat} {bs : List Nat} (hn : ¬ u < b) (hi : i < bs.length) (h : dgs b (f + 1) u ++ bs.drop (i + 1) = dgs b F n0) :
    dgs b f (dv u b) ++ (bs.set i (dch (md u b))).drop i = dgs b F n0 := by
  rw [dgs_step hn] at h
  rw [← h, List.append_assoc]
  congr 1
  rw [List.drop_set, if_neg (by omega), List.drop_eq_getElem_cons hi, Nat.sub_self, List.set_cons_zero]
  try rfl
theorem fmt_last {b f F n0 u i : Nat} {bs : List Nat} (hn : u < b) (hi : i < bs.length) (h : dgs b (f + 1) u ++ bs.drop (i + 1) = dgs b F n0) :
    (bs.set i (dch u)).drop i = dgs b F n0 := by
  rw [dgs_low hn] at h
  rw [← h]
  rw [List.drop_set, if_neg (by omega), List.drop_eq_getElem_cons hi, Nat.sub_self, List.set_cons_zero]
  try rfl

/-- noughts ahead, up to the width -/
def pad (wd : Nat) (l : List Nat) : List Nat := List.replicate (wd - l.length) 48 ++ l
/-- chunks, the lowest first, written one behind the other, the highest without noughts ahead -/
def jnd (D : Nat → List Nat) (wd : Nat) : List Nat → List Nat
  | [] => []
  | c :: r => jnd D wd r ++ if r = [] then D c else pad wd (D c)
theorem jnd_last {D : Nat → List Nat} {wd : Nat} {cs : List Nat} {m : Nat} (h : m + 1 = cs.length) : jnd D wd (cs.drop m) = jnd D wd (cs.drop (m + 1)) ++ D (cs.getD m 0) := by
  rw [drop_cons (show m < cs.length by omega)]
  simp [jnd, List.drop_of_length_le (show cs.length ≤ m + 1 by omega)]
theorem jnd_more {D : Nat → List Nat} {wd : Nat} {cs : List Nat} {m : Nat} (h : m + 1 < cs.length) : jnd D wd (cs.drop m) = jnd D wd (cs.drop (m + 1)) ++ pad wd (D (cs.getD m 0)) := by
  rw [drop_cons (show m < cs.length by omega)]
  have : cs.drop (m + 1) ≠ [] := fun e => by
    have := congrArg List.length e
    simp at this
    omega
  simp [jnd, this]
theorem length_pad (wd : Nat) (l : List Nat) (h : l.length ≤ wd) : (pad wd l).length = wd := by simp [pad]; omega
theorem length_jnd {D : Nat → List Nat} {wd : Nat} : ∀ {cs : List Nat}, (∀ j, (D (cs.getD j 0)).length ≤ wd) → (jnd D wd cs).length ≤ wd * cs.length
  | [], _ => by simp [jnd]
  | c :: r, h => by
    have h0 : (D c).length ≤ wd := by simpa using h 0
    have := length_jnd (cs := r) (fun j => by simpa using h (j + 1))
    simp only [jnd, List.length_append, List.length_cons, Nat.mul_add, Nat.mul_one]
    split
    · omega
    · rw [length_pad _ _ h0]; omega
theorem length_dgs {b : Nat} (hb : 0 < b) : ∀ f u, (dgs b f u).length ≤ f
  | 0, _ => by simp [dgs]
  | f + 1, u => by
    by_cases h : u < b
    · rw [dgs_low h]; simp
    · rw [dgs_step h, List.length_append]
      have := length_dgs hb f (dv u b)
      simp; omega
end Go.Proofs.YtafeokkkbiaajabDoor.Mth
