/- tribunalref02: Parse; package whole: Parse, of any text; WholeParses: the law's own walk. -/
import Derived.Test.YthgmebnihpjnoaaGreatDoorPB
import Derived.Test.YthgmebnihpjnoaaGreatDoorZB4
set_option linter.unusedVariables false
set_option linter.unusedSimpArgs false
namespace Go.Proofs.YthgmebnihpjnoaaGreatDoor
open Go.RowKit Mth

/-- has a text a minus ahead; what stands behind it -/
def psG (s : ByteArray) : Bool := Lib.hasPrefix s.data.toList [45]
def psD (s : ByteArray) : ByteArray := ⟨(Lib.trimPrefix s.data.toList [45]).toArray⟩
/-- what Parse answers -/
structure PsIs (s : ByteArray) (N : Int) (ER : Int) : Prop where
  no : ¬ okD (psD s) 10 → N = 0 ∧ ER = 13
  ok : okD (psD s) 10 → N = zN (sg (psG s) (pv (psD s) 10 (psD s).size)) ∧ ER = zE (sg (psG s) (pv (psD s) 10 (psD s).size))
theorem ps_ex (s : ByteArray) : ∃ N ER, PsIs s N ER := by
  by_cases h : okD (psD s) 10
  · exact ⟨_, _, fun h2 => absurd h h2, fun _ => ⟨rfl, rfl⟩⟩
  · exact ⟨0, 13, fun _ => ⟨rfl, rfl⟩, fun h2 => absurd h2 h⟩
theorem ps_nil : psG ⟨#[]⟩ = false ∧ psD ⟨#[]⟩ = ⟨#[]⟩ := ⟨rfl, rfl⟩
theorem ps_minus (l : List UInt8) : psG ⟨((45 : UInt8) :: l).toArray⟩ = true ∧ psD ⟨((45 : UInt8) :: l).toArray⟩ = ⟨l.toArray⟩ := by
  constructor
  · simp [psG, Lib.hasPrefix]
  · simp [psD, Lib.trimPrefix, Lib.hasPrefix]
theorem ps_other {x : UInt8} (l : List UInt8) (h : x ≠ 45) : psG ⟨(x :: l).toArray⟩ = false ∧ psD ⟨(x :: l).toArray⟩ = ⟨(x :: l).toArray⟩ := by
  have hp : Lib.hasPrefix (x :: l) [45] = false := by
    show (((45 : UInt8) == x) && List.isPrefixOf [] l) = false
    rw [beq_eq_false_iff_ne.2 (Ne.symm h)]; rfl
  constructor
  · simpa [psG] using hp
  · simp [psD, Lib.trimPrefix, hp]
theorem bytes_cases (s : ByteArray) : s = ⟨#[]⟩ ∨ ∃ (x : UInt8) (l : List UInt8), s = ⟨(x :: l).toArray⟩ := by
  obtain ⟨d⟩ := s
  obtain ⟨l⟩ := d
  cases l with
  | nil => exact .inl rfl
  | cons x l => exact .inr ⟨x, l, rfl⟩
theorem byte_first (x : UInt8) (l : List UInt8) (w : World) : (Instr.index 9 (.string ⟨(x :: l).toArray⟩) (.int .i64 0)).run Tryz.prog w = .ok (.int .u8 (x.toNat : Int)) w := by kernel_rfl
theorem bytes_cut (x : UInt8) (l : List UInt8) : (⟨(x :: l).toArray⟩ : ByteArray).extract 1 (l.length + 1) = ⟨l.toArray⟩ := by
  apply ByteArray.ext
  rw [ByteArray.data_extract]
  apply Array.ext'
  simp
theorem bytes_size (x : UInt8) (l : List UInt8) : (⟨(x :: l).toArray⟩ : ByteArray).size = l.length + 1 := by simp [ByteArray.size]
theorem psD_size (s : ByteArray) : (psD s).size ≤ s.size := by
  rcases bytes_cases s with rfl | ⟨x, l, rfl⟩
  · rw [ps_nil.2]; exact Nat.le_refl _
  · by_cases h : x = 45
    · subst h
      rw [(ps_minus l).2, bytes_size]; simp [ByteArray.size]
    · rw [(ps_other l h).2]; exact Nat.le_refl _

theorem QNum.d {w : World} {v : Value} {n : Nat} (h : QNum w v n) : DNum w v n := by
  obtain ⟨ys, s, l, _, e⟩ := h
  exact ⟨ys, s, l, e⟩
end Go.Proofs.YthgmebnihpjnoaaGreatDoor
