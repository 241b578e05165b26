/- lexis: quotation marks doubled, and back. -/
import Derived.Test.YtlgcmpiobglbbaaDoorLR
import Derived.Lib.ReplaceLaws
set_option linter.unusedVariables false
set_option linter.unusedSimpArgs false
namespace Go.Proofs.YtlgcmpiobglbbaaDoor
open Go.RowKit Mth

/-- each quotation mark twice -/
def dbl : List UInt8 → List UInt8
  | [] => []
  | c :: l => if c = 34 then 34 :: 34 :: dbl l else c :: dbl l
theorem index_skip {b : UInt8} {l old : List UInt8} (h : old.isPrefixOf (b :: l) = false) : Lib.index (b :: l) old = if Lib.index l old == -1 then -1 else Lib.index l old + 1 := by
  rw [Lib.index, if_neg (by rw [h]; simp)]
theorem count_skip {b : UInt8} {l old : List UInt8} (ho : old ≠ []) (h : old.isPrefixOf (b :: l) = false) : Lib.count (b :: l) old = Lib.count l old := by
  have e := index_skip h
  by_cases hm : Lib.index l old = -1
  · rw [Lib.count_miss hm, Lib.count_miss (by rw [e, hm]; rfl)]
  · have hge := Lib.index_ge l old
    obtain ⟨i, hi⟩ : ∃ i : Nat, Lib.index l old = i := ⟨(Lib.index l old).toNat, by omega⟩
    rw [Lib.count_hit ho hi, Lib.count_hit (i := i + 1) ho (by rw [e, if_neg (by rw [beq_iff_eq]; exact hm), hi]; simp)]
    rw [show i + 1 + old.length = (i + old.length) + 1 by omega, List.drop_succ_cons]
theorem repK_skip {b : UInt8} {l old new : List UInt8} (h : old.isPrefixOf (b :: l) = false) : ∀ k, Lib.replaceK old new k (b :: l) = b :: Lib.replaceK old new k l
  | 0 => rfl
  | k + 1 => by
    have e := index_skip h
    by_cases hm : Lib.index l old = -1
    · rw [Lib.replaceK, if_pos (by rw [e, hm]; rfl), Lib.replaceK, if_pos (by rw [hm]; rfl)]
    · have hge := Lib.index_ge l old
      obtain ⟨i, hi⟩ : ∃ i : Nat, Lib.index l old = i := ⟨(Lib.index l old).toNat, by omega⟩
      rw [Lib.replaceK_hit old new k l i hi, Lib.replaceK_hit old new k (b :: l) (i + 1) (by rw [e, if_neg (by rw [beq_iff_eq]; exact hm), hi]; simp)]
      rw [show i + 1 + old.length = (i + old.length) + 1 by omega, List.drop_succ_cons, List.take_succ_cons]
      rfl
theorem index_hit {r old : List UInt8} (hn : old ≠ []) : Lib.index (old ++ r) old = (0 : Nat) := by
  cases old with
  | nil => exact absurd rfl hn
  | cons c o => rw [List.cons_append, Lib.index, if_pos (by rw [← List.cons_append]; simp)]; rfl
theorem rep_all {s old new : List UInt8} (h : old ≠ new) : Lib.replaceAll s old new = Lib.replaceK old new (Lib.count s old) s := by
  unfold Lib.replaceAll Lib.replace
  rw [if_neg (by rw [beq_iff_eq]; exact h)]
  unfold Lib.replaceNum
  rw [if_pos (.inl (by decide))]
theorem rep_skip {b : UInt8} {l old new : List UInt8} (ho : old ≠ []) (hn : old ≠ new) (h : old.isPrefixOf (b :: l) = false) : Lib.replaceAll (b :: l) old new = b :: Lib.replaceAll l old new := by
  rw [rep_all hn, rep_all hn, count_skip ho h, repK_skip h]
theorem rep_hit {r old new : List UInt8} (ho : old ≠ []) (hn : old ≠ new) : Lib.replaceAll (old ++ r) old new = new ++ Lib.replaceAll r old new := by
  rw [rep_all hn, rep_all hn, Lib.count_hit ho (index_hit ho), Nat.zero_add, List.drop_left, Nat.add_comm, Lib.replaceK_hit old new _ (old ++ r) 0 (index_hit ho), Nat.zero_add, List.drop_left]
  rfl
theorem rep_nil {old new : List UInt8} (ho : old ≠ []) (hn : old ≠ new) : Lib.replaceAll [] old new = [] := by
  have h : Lib.index [] old = -1 := by
    cases old with
    | nil => exact absurd rfl ho
    | cons c o => rfl
  rw [rep_all hn, Lib.count_miss h]; rfl
theorem rep_dbl : ∀ l : List UInt8, Lib.replaceAll l [34] [34, 34] = dbl l
  | [] => rep_nil (by simp) (by simp)
  | c :: l => by
    by_cases h : c = 34
    · subst h
      rw [show (34 : UInt8) :: l = [34] ++ l from rfl, rep_hit (by simp) (by simp), rep_dbl l]
      rfl
    · rw [rep_skip (by simp) (by simp) (by simp [List.isPrefixOf]; exact fun e => h e.symm), rep_dbl l, dbl, if_neg h]
theorem rep_undbl : ∀ l : List UInt8, Lib.replaceAll (dbl l) [34, 34] [34] = l
  | [] => rep_nil (by simp) (by simp)
  | c :: l => by
    by_cases h : c = 34
    · subst h
      rw [dbl, if_pos rfl, show (34 : UInt8) :: 34 :: dbl l = [34, 34] ++ dbl l from rfl, rep_hit (by simp) (by simp), rep_undbl l]
      rfl
    · rw [dbl, if_neg h, rep_skip (by simp) (by simp) (by simp [List.isPrefixOf]; exact fun e => absurd e.symm h), rep_undbl l]
theorem dbl_app : ∀ a b : List UInt8, dbl (a ++ b) = dbl a ++ dbl b
  | [], b => rfl
  | c :: a, b => by
    rw [List.cons_append, dbl, dbl, dbl_app a b]
    split <;> rfl
theorem dbl_len : ∀ l : List UInt8, l.length ≤ (dbl l).length ∧ (dbl l).length ≤ 2 * l.length
  | [] => by simp [dbl]
  | c :: l => by
    have := dbl_len l
    rw [dbl]
    split <;> (simp; omega)
end Go.Proofs.YtlgcmpiobglbbaaDoor
