/- nat's calls, by the numbers alone. -/
import Derived.Test.YtafeokkkbiaajaaDoorQuoD
namespace Go.Proofs.YtafeokkkbiaajaaDoor
open Go.RowKit Mth

/-- a slice value that is the number n; zeros on top may be -/
def Nm (w : World) (v : Value) (n : Nat) : Prop := ∃ zs, Sl w .u64 v zs ∧ Lim B64 zs ∧ val B64 zs = n
theorem Num.nm {w : World} {v : Value} {n : Nat} (h : Num w v n) : Nm w v n := by
  obtain ⟨ys, h1, h2, _, h3⟩ := h; exact ⟨ys, h1, h2, h3⟩
theorem Own.nm {w : World} {base n : Nat} {v : Value} (h : Own w base v n) : Nm w v n := h.num.nm
theorem nm_sl {w : World} {v : Value} {xs : List Nat} (h : Sl w .u64 v xs) (l : Lim B64 xs) : Nm w v (val B64 xs) := ⟨xs, h, l, rfl⟩
theorem Nm.below {w w' : World} {v : Value} {n : Nat} (h : Nm w v n) (hb : Below w.heap.size w w') : Nm w' v n := by
  obtain ⟨ys, h1, h2⟩ := h; exact ⟨ys, h1.below hb, h2⟩
theorem Nm.shape {w : World} {v : Value} {n : Nat} (h : Nm w v n) : ∃ ao k c, v = .slice ao k c := by
  obtain ⟨ys, h1, _⟩ := h
  obtain ⟨ao, c, rfl⟩ := h1.shape
  exact ⟨_, _, _, rfl⟩
theorem nm_nil (w : World) : Nm w (.slice none 0 0) 0 := (num_nil w).nm

theorem add2_N (xs ys : List Nat) : addN [xs, ys] = cutN (val B64 xs + val B64 ys) ∧ addE [xs, ys] = cutE (val B64 xs + val B64 ys) := by
  have hs : sumL [xs, ys] = val B64 xs + val B64 ys := by simp [sumL]
  have hb := longB_two xs ys
  by_cases h : Big ≤ val B64 xs ∨ Big ≤ val B64 ys
  · have h1 : longB [xs, ys] [xs, ys].length = true := by
      show longB [xs, ys] 2 = true
      rw [hb]; simpa using h
    obtain ⟨e1, e2⟩ := add_long h1
    obtain ⟨c1, c2⟩ := cut_big (show Big ≤ val B64 xs + val B64 ys by omega)
    exact ⟨by rw [e1, c1], by rw [e2, c2]⟩
  · have h1 : longB [xs, ys] [xs, ys].length = false := by
      show longB [xs, ys] 2 = false
      rw [hb]; simpa using h
    obtain ⟨e1, e2⟩ := add_fine h1
    rw [hs] at e1 e2
    exact ⟨e1, e2⟩
/-- what Mul answers for two -/
def mN (m n : Nat) : Nat := if Big ≤ m ∨ Big ≤ n then 0 else cutN (m * n)
def mE (m n : Nat) : Int := if Big ≤ m ∨ Big ≤ n then 5 else cutE (m * n)
theorem mul2_N (xs ys : List Nat) : mulN [xs, ys] = mN (val B64 xs) (val B64 ys) ∧ mulE [xs, ys] = mE (val B64 xs) (val B64 ys) := by
  have hs : prodL [xs, ys] = val B64 xs * val B64 ys := by simp [prodL]
  have hb := longB_two xs ys
  unfold mN mE
  by_cases h : Big ≤ val B64 xs ∨ Big ≤ val B64 ys
  · have h1 : longB [xs, ys] [xs, ys].length = true := by
      show longB [xs, ys] 2 = true
      rw [hb]; simpa using h
    obtain ⟨e1, e2⟩ := mul_long h1
    exact ⟨by rw [e1, if_pos h], by rw [e2, if_pos h]⟩
  · have h1 : longB [xs, ys] [xs, ys].length = false := by
      show longB [xs, ys] 2 = false
      rw [hb]; simpa using h
    obtain ⟨e1, e2⟩ := mul_fine h1
    rw [hs] at e1 e2
    exact ⟨by rw [e1, if_neg h], by rw [e2, if_neg h]⟩
theorem cutE_or (n : Nat) : cutE n = 5 ∨ cutE n = 0 ∧ cutN n = n ∧ n < Big := by
  rcases Nat.lt_or_ge n Big with h | h
  · exact .inr ⟨(cut_small h).2, (cut_small h).1, h⟩
  · exact .inl (cut_big h).2
theorem mE_or (m n : Nat) : mE m n = 5 ∨ mE m n = 0 ∧ mN m n = m * n ∧ m * n < Big ∧ m < Big ∧ n < Big := by
  unfold mE mN
  by_cases h : Big ≤ m ∨ Big ≤ n
  · exact .inl (if_pos h)
  · rw [if_neg h, if_neg h]
    rcases cutE_or (m * n) with h1 | ⟨h1, h2, h3⟩
    · exact .inl h1
    · exact .inr ⟨h1, h2, h3, by omega, by omega⟩
theorem pair_lim {xs ys : List Nat} (h1 : Lim B64 xs) (h2 : Lim B64 ys) : ∀ j, Lim B64 ([xs, ys].getD j []) := fun j => by
  match j with
  | 0 => exact h1
  | 1 => exact h2
  | j + 2 => exact lim_nil (by have := B64_pos; omega)
theorem add2_nm {v1 v2 : Value} {m n : Nat} {w : World} (h1 : Nm w v1 m) (h2 : Nm w v2 n) :
    Calls Tryd.prog 27 #[.slice (some ⟨w.heap.size, 0, none⟩) 2 2] (w.alloc (Obj.cells #[v1, v2] 23)) fun e w' => ∃ v', e = .returned (.tuple #[v', .int .i64 (cutE (m + n))]) ∧ Num w' v' (cutN (m + n)) ∧ Below w.heap.size w w' := by
  obtain ⟨xs, s1, l1, rfl⟩ := h1
  obtain ⟨ys, s2, l2, rfl⟩ := h2
  refine (add_any _ [xs, ys] _ (natList_pair s1 s2) (pair_lim l1 l2)).mono ?_
  rintro e w' ⟨v', h1, h2, h3⟩
  rw [(add2_N xs ys).1] at h2
  rw [(add2_N xs ys).2] at h1
  exact ⟨v', h1, h2, ((Below.refl _ _).alloc (Nat.le_refl _) _).trans (h3.mono (by simp))⟩
theorem mul2_nm {v1 v2 : Value} {m n : Nat} {w : World} (h1 : Nm w v1 m) (h2 : Nm w v2 n) :
    Calls Tryd.prog 31 #[.slice (some ⟨w.heap.size, 0, none⟩) 2 2] (w.alloc (Obj.cells #[v1, v2] 23)) fun e w' => ∃ v', e = .returned (.tuple #[v', .int .i64 (mE m n)]) ∧ Num w' v' (mN m n) ∧ Below w.heap.size w w' := by
  obtain ⟨xs, s1, l1, rfl⟩ := h1
  obtain ⟨ys, s2, l2, rfl⟩ := h2
  refine (mul_any _ _ [xs, ys] (natList_pair s1 s2) (pair_lim l1 l2)).mono ?_
  rintro e w' ⟨v', h1, h2, h3⟩
  rw [(mul2_N xs ys).1] at h2
  rw [(mul2_N xs ys).2] at h1
  exact ⟨v', h1, h2, ((Below.refl _ _).alloc (Nat.le_refl _) _).trans (h3.mono (by simp))⟩
theorem sub_nm {v1 v2 : Value} {m n : Nat} {w : World} (h1 : Nm w v1 m) (h2 : Nm w v2 n) :
    Calls Tryd.prog 29 #[v1, v2] w fun e w' => ∃ v', e = .returned (.tuple #[v', .int .i64 (subE m n)]) ∧ Num w' v' (subN m n) ∧ Below w.heap.size w w' := by
  obtain ⟨xs, s1, l1, rfl⟩ := h1
  obtain ⟨ys, s2, l2, rfl⟩ := h2
  exact sub_any v1 v2 xs ys w s1 s2 l1 l2
theorem quo_nm {v1 v2 : Value} {m n : Nat} {w : World} (h1 : Nm w v1 m) (h2 : Nm w v2 n) :
    Calls Tryd.prog 33 #[v1, v2] w fun e w' => ∃ vq vr, e = .returned (.tuple #[vq, vr, .int .i64 (quoE m n)]) ∧ Own w' w.heap.size vq (quoN m n) ∧ Own w' w.heap.size vr (remN m n) ∧ Below w.heap.size w w' := by
  obtain ⟨xs, s1, l1, rfl⟩ := h1
  obtain ⟨ys, s2, l2, rfl⟩ := h2
  exact quo_any v1 v2 xs ys w s1 s2 l1 l2
theorem cmp_nm {v1 v2 : Value} {m n : Nat} {w : World} (h1 : Nm w v1 m) (h2 : Nm w v2 n) (c : Int) (hc : cmp3 m n = c) :
    Calls Tryd.prog 20 #[v1, v2] w fun e w' => e = .returned (.int .i64 c) ∧ Below w.heap.size w w' := by
  subst hc
  obtain ⟨xs, s1, l1, rfl⟩ := h1
  obtain ⟨ys, s2, l2, rfl⟩ := h2
  exact cmp_any v1 v2 xs ys w s1 s2 l1 l2
theorem len_nm {v : Value} {m : Nat} {w : World} (h : Nm w v m) (k : Nat) (hk : bl m = k) :
    Calls Tryd.prog 22 #[v] w fun e w' => e = .returned (.int .i64 ((k : Nat) : Int)) ∧ Below w.heap.size w w' := by
  subst hk
  obtain ⟨xs, s1, l1, rfl⟩ := h
  exact len_any v xs w s1 l1
theorem bl_eq_zero {n : Nat} : bl n = 0 ↔ n = 0 := by
  unfold bl
  split
  · exact ⟨fun _ => ‹_›, fun _ => rfl⟩
  · exact ⟨fun h => by omega, fun h => by omega⟩
end Go.Proofs.YtafeokkkbiaajaaDoor
