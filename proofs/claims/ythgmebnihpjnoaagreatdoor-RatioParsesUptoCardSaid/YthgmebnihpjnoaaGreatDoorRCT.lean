/- strings.Cut at a slash; what the two halves are. -/
import Derived.Test.YthgmebnihpjnoaaGreatDoorPC
import Derived.Lib.IndexLaws
set_option linter.unusedVariables false
set_option linter.unusedSimpArgs false
namespace Go.Proofs.YthgmebnihpjnoaaGreatDoor
open Go.RowKit Mth

/-- where the first slash stands, or -1 -/
def slI (s : ByteArray) : Int := Lib.indexByte s.data.toList 47
/-- what stands ahead of it -/
def slL (s : ByteArray) : ByteArray := if slI s = -1 then s else s.extract 0 (slI s).toNat
/-- and behind it -/
def slR (s : ByteArray) : ByteArray := if slI s = -1 then ⟨#[]⟩ else s.extract ((slI s).toNat + 1) s.size
/-- the denominator's digits -/
def slD (s : ByteArray) : ByteArray := if slI s = -1 then ⟨#[49]⟩ else s.extract ((slI s).toNat + 1) s.size
/-- is there one? -/
def slB (s : ByteArray) : Bool := decide (slI s ≠ -1)
theorem slB_no {s : ByteArray} (h : slI s = -1) : slB s = false := decide_eq_false (fun k => k h)
theorem slB_at {s : ByteArray} (h : slI s ≠ -1) : slB s = true := decide_eq_true h
theorem slI_cases (s : ByteArray) : slI s = -1 ∨ ∃ i : Nat, slI s = (i : Int) ∧ i < s.size := by
  have h := Lib.indexByte_ge s.data.toList 47
  by_cases e : slI s = -1
  · exact .inl e
  · have hk : Lib.indexByte s.data.toList 47 = ((slI s).toNat : Int) := by show slI s = _; have : -1 ≤ slI s := h; omega
    refine .inr ⟨(slI s).toNat, hk, ?_⟩
    have := (Lib.indexByte_some hk).1
    have := (List.getElem?_eq_some_iff.1 this).1
    simpa using this
theorem slL_no {s : ByteArray} (h : slI s = -1) : slL s = s := if_pos h
theorem slL_at {s : ByteArray} {i : Nat} (h : slI s = (i : Int)) : slL s = s.extract 0 i := by
  rw [slL, if_neg (by omega), h]; rfl
theorem slR_no {s : ByteArray} (h : slI s = -1) : slR s = ⟨#[]⟩ := if_pos h
theorem slR_at {s : ByteArray} {i : Nat} (h : slI s = (i : Int)) : slR s = s.extract (i + 1) s.size := by
  rw [slR, if_neg (by omega), h]; rfl
theorem slD_no {s : ByteArray} (h : slI s = -1) : slD s = ⟨#[49]⟩ := if_pos h
theorem slD_at {s : ByteArray} {i : Nat} (h : slI s = (i : Int)) : slD s = s.extract (i + 1) s.size := by
  rw [slD, if_neg (by omega), h]; rfl
theorem extract_size {s : ByteArray} {a b : Nat} (h : b ≤ s.size) : (s.extract a b).size = b - a := by
  rw [ByteArray.size_extract]; omega
theorem slL_size (s : ByteArray) : (slL s).size ≤ s.size := by
  rcases slI_cases s with h | ⟨i, h, hi⟩
  · rw [slL_no h]; exact Nat.le_refl _
  · rw [slL_at h, extract_size (by omega)]; omega
theorem slD_size (s : ByteArray) : (slD s).size ≤ s.size + 1 := by
  rcases slI_cases s with h | ⟨i, h, hi⟩
  · rw [slD_no h]; show 1 ≤ _; omega
  · rw [slD_at h, extract_size (by omega)]; omega
set_option maxHeartbeats 2000000 in
set_option maxRecDepth 100000 in
theorem cut_lite (s : ByteArray) (w : World) (hs : s.size ≤ 1048576) : Calls Tryz.prog 106 #[.string s, .string ⟨#[47]⟩] w fun e w' => e = .returned (.tuple #[.string (slL s), .string (slR s), .bool (slB s)]) ∧ Below w.heap.size w w' := by
  have IX : Hid (∀ w1, Calls Tryz.prog 140 #[.string s, .string ⟨#[47]⟩] w1 fun e w' => e = .returned (.int .i64 (slI s)) ∧ w' = w1) := Lib.hid (fun w1 => Tryz.stringslite_Index_one s 47 w1)
  rcases slI_cases s with h | ⟨i, h, hi⟩
  · rw [slL_no h, slR_no h, slB_no h]
    rw [h] at IX
    clear h
    go_enter Tryz.func106, Tryz.ntmps106
    go_wp2_with (go_at_call 140; refine (IX.out _).mono ?_; rintro e w' ⟨rfl, rfl⟩)
    go_ret3
    exact ⟨rfl, Below.refl _ _⟩
  · rw [slL_at h, slR_at h, slB_at (s := s) (by omega)]
    rw [h] at IX
    have c1 : (0 : Int) ≤ ↑i := by omega
    have c2 : (↑i : Int) ≤ ↑s.size := by omega
    have c3 : (0 : Int) ≤ ↑i + 1 := by omega
    have c4 : (↑i + 1 : Int) ≤ ↑s.size := by omega
    have c5 : ((i : Int) + 1).toNat = i + 1 := by omega
    have c6 : wrap64 ((i : Int) + 1) = (i : Int) + 1 := IntWalk.wrap64_in _ (by omega)
    clear h
    go_enter Tryz.func106, Tryz.ntmps106
    go_wp2_with (go_at_call 140; refine (IX.out _).mono ?_; rintro e w' ⟨rfl, rfl⟩)
    go_region
    go_wp2
    go_ret3
    exact ⟨rfl, (Below.refl _ _).drew⟩
set_option maxHeartbeats 2000000 in
set_option maxRecDepth 100000 in
theorem cut_any1 (s : ByteArray) (w : World) (hs : s.size ≤ 1048576) : Calls Tryz.prog 76 #[.string s, .string ⟨#[47]⟩] w fun e w' => e = .returned (.tuple #[.string (slL s), .string (slR s), .bool (slB s)]) ∧ Below w.heap.size w w' := by
  have CT := Lib.hid (cut_lite s w hs)
  generalize slL s = L at *
  generalize slR s = R at *
  generalize slB s = B at *
  go_enter Tryz.func76, Tryz.ntmps76
  go_wp2_with fail
  refine CT.out.mono ?_
  rintro e w1 ⟨rfl, hb⟩
  go_wp2
  go_ret3
  exact ⟨rfl, hb⟩
end Go.Proofs.YthgmebnihpjnoaaGreatDoor
