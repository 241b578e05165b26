/- What Parse makes of a fraction's own text (mathematics). -/
import Derived.Test.YthgmebnihpjnoaaGreatDoorBKM
set_option linter.unusedVariables false
set_option linter.unusedSimpArgs false
namespace Go.Proofs.YthgmebnihpjnoaaGreatDoor
open Go.RowKit Mth

theorem ib_none : ∀ l : List Nat, (∀ x ∈ l, x < 256 ∧ x ≠ 47) → Lib.indexByte (toBytes l) 47 = -1
  | [], _ => rfl
  | x :: l, h => by
    have hx := h x (by simp)
    have ih := ib_none l (fun y hy => h y (by simp [hy]))
    have hne : (x.toUInt8 == (47 : UInt8)) = false := by
      rw [beq_eq_false_iff_ne]; intro e
      have e2 := congrArg UInt8.toNat e
      have e3 : x.toUInt8.toNat = x % 256 := by simp
      have e4 : (47 : UInt8).toNat = 47 := rfl
      omega
    show (if x.toUInt8 == (47 : UInt8) then 0 else if Lib.indexByte (toBytes l) 47 == -1 then -1 else Lib.indexByte (toBytes l) 47 + 1) = -1
    rw [hne, ih]; rfl
theorem ib_app : ∀ (l r : List Nat), (∀ x ∈ l, x < 256 ∧ x ≠ 47) → Lib.indexByte (toBytes (l ++ 47 :: r)) 47 = (l.length : Int)
  | [], r, _ => rfl
  | x :: l, r, h => by
    have hx := h x (by simp)
    have ih := ib_app l r (fun y hy => h y (by simp [hy]))
    have hne : (x.toUInt8 == (47 : UInt8)) = false := by
      rw [beq_eq_false_iff_ne]; intro e
      have e2 := congrArg UInt8.toNat e
      have e3 : x.toUInt8.toNat = x % 256 := by simp
      have e4 : (47 : UInt8).toNat = 47 := rfl
      omega
    show (if x.toUInt8 == (47 : UInt8) then 0 else if Lib.indexByte (toBytes (l ++ 47 :: r)) 47 == -1 then -1 else Lib.indexByte (toBytes (l ++ 47 :: r)) 47 + 1) = _
    have hm : (((l.length : Int)) == -1) = false := beq_eq_false_iff_ne.2 (by omega)
    rw [hne, ih, hm, List.length_cons]
    simp
theorem num_no47 (n : Nat) : ∀ x ∈ numeral 10 n, x < 256 ∧ x ≠ 47 ∧ x ≠ 45 := fun x hx => by
  have h := numeral_digitsZ (b := 10) (by omega) (by omega) n x hx
  refine ⟨numeral_ltZ (by omega) (by omega) _ _ hx, ?_, ?_⟩
  · rintro rfl; revert h; decide
  · rintro rfl; revert h; decide
theorem zS_no47 (z : Int) : ∀ x ∈ zS z, x < 256 ∧ x ≠ 47 := fun x hx => by
  refine ⟨zS_ltZ z x hx, ?_⟩
  unfold zS at hx
  split at hx
  · cases hx
  · split at hx
    · rcases List.mem_cons.1 hx with rfl | h
      · omega
      · exact (num_no47 _ x h).2.1
    · exact (num_no47 _ x hx).2.1
/-- the bytes of a list -/
def tB (l : List Nat) : ByteArray := ⟨(toBytes l).toArray⟩
theorem tB_size (l : List Nat) : (tB l).size = l.length := size_tb l
theorem tB_left (l r : List Nat) : (tB (l ++ r)).extract 0 l.length = tB l := by
  apply ByteArray.ext
  rw [ByteArray.data_extract]
  show ((toBytes (l ++ r)).toArray).extract 0 l.length = (toBytes l).toArray
  simp [toBytes]
theorem tB_right (l : List Nat) (x : Nat) (r : List Nat) : (tB (l ++ x :: r)).extract (l.length + 1) (tB (l ++ x :: r)).size = tB r := by
  apply ByteArray.ext
  rw [ByteArray.data_extract, tB_size]
  show ((toBytes (l ++ x :: r)).toArray).extract (l.length + 1) (l ++ x :: r).length = (toBytes r).toArray
  have e : toBytes (l ++ x :: r) = toBytes (l ++ [x]) ++ toBytes r := by simp [toBytes]
  have e1 : (toBytes (l ++ [x])).length = l.length + 1 := by simp [toBytes]
  have e2 : (l ++ x :: r).length = (toBytes (l ++ [x]) ++ toBytes r).length := by simp [toBytes]
  rw [e, e2, ← e1]
  simp
theorem sl_none {l : List Nat} (h : ∀ x ∈ l, x < 256 ∧ x ≠ 47) : slL (tB l) = tB l ∧ slD (tB l) = ⟨#[49]⟩ := by
  have e : slI (tB l) = -1 := by
    show Lib.indexByte (toBytes l).toArray.toList 47 = -1
    rw [List.toList_toArray]; exact ib_none l h
  exact ⟨slL_no e, slD_no e⟩
theorem sl_some {l r : List Nat} (h : ∀ x ∈ l, x < 256 ∧ x ≠ 47) : slL (tB (l ++ 47 :: r)) = tB l ∧ slD (tB (l ++ 47 :: r)) = tB r := by
  have e : slI (tB (l ++ 47 :: r)) = (l.length : Int) := by
    show Lib.indexByte (toBytes (l ++ 47 :: r)).toArray.toList 47 = _
    rw [List.toList_toArray]; exact ib_app l r h
  exact ⟨by rw [slL_at e]; exact tB_left l (47 :: r), by rw [slD_at e]; exact tB_right l 47 r⟩
/-- the sign and the digits of a whole number's text -/
theorem ps_zS {z : Int} (h : z.natAbs < Big) : psG (tB (zS z)) = sgn z ∧ psD (tB (zS z)) = tB (numeral 10 z.natAbs) := by
  by_cases hn : z < 0
  · rw [zS_neg h hn, sgn_neg hn]
    exact ps_minus (toBytes (numeral 10 z.natAbs))
  · rw [zS_pos h (by omega), sgn_pos (by omega)]
    have hne := numeral_neZ (b := 10) (by omega) z.natAbs
    have hdg := num_no47 z.natAbs
    cases hc : numeral 10 z.natAbs with
    | nil => exact absurd hc hne
    | cons x l =>
      rw [hc] at hdg
      have hx := hdg x (by simp)
      refine ps_other (toBytes l) (fun e => ?_)
      have e2 : x.toUInt8.toNat = (45 : UInt8).toNat := congrArg UInt8.toNat e
      have e3 : x.toUInt8.toNat = x % 256 := by simp
      have e4 : (45 : UInt8).toNat = 45 := rfl
      omega
theorem num_says (n : Nat) : okD (tB (numeral 10 n)) 10 ∧ pv (tB (numeral 10 n)) 10 (tB (numeral 10 n)).size = n := by
  have hl : ∀ x ∈ numeral 10 n, x < 256 := fun x hx => (num_no47 n x hx).1
  exact ⟨okD_listZ hl (numeral_digitsZ (by omega) (by omega) n) (numeral_neZ (by omega) n), by rw [show tB (numeral 10 n) = ⟨(toBytes (numeral 10 n)).toArray⟩ from rfl, pv_allZ hl, plv_numeralZ (by omega) (by omega)]⟩
theorem one_says : okD ⟨#[49]⟩ 10 ∧ pv ⟨#[49]⟩ 10 (⟨#[49]⟩ : ByteArray).size = 1 := by
  have h := num_says 1
  have e : tB (numeral 10 1) = ⟨#[49]⟩ := by decide
  rw [e] at h; exact h
/-- a fraction's own text says the fraction -/
theorem txt_says {X : Int} {D : Nat} (hX : X.natAbs < Big) : prOk (tB (tQ X D)) ∧ prX (tB (tQ X D)) = X ∧ prY (tB (tQ X D)) = D := by
  obtain ⟨g1, g2⟩ := ps_zS hX
  obtain ⟨n1, n2⟩ := num_says X.natAbs
  by_cases h1 : D = 1
  · obtain ⟨a, b⟩ := sl_none (zS_no47 X)
    have e : tQ X D = zS X := if_pos h1
    unfold prOk prX prY
    rw [e, a, b, g1, g2, n2, one_says.2, sg_sgn]
    exact ⟨⟨n1, one_says.1⟩, rfl, h1.symm⟩
  · obtain ⟨a, b⟩ := sl_some (r := numeral 10 D) (zS_no47 X)
    have e : tQ X D = zS X ++ 47 :: numeral 10 D := if_neg h1
    obtain ⟨m1, m2⟩ := num_says D
    unfold prOk prX prY
    rw [e, a, b, g1, g2, n2, m2, sg_sgn]
    exact ⟨⟨n1, m1⟩, rfl, rfl⟩
theorem tQ_inj {X Y : Int} {D E : Nat} (hX : X.natAbs < Big) (hY : Y.natAbs < Big) (h : tB (tQ X D) = tB (tQ Y E)) : X = Y ∧ D = E := by
  have a := (txt_says (D := D) hX).2
  have b := (txt_says (D := E) hY).2
  rw [h] at a
  exact ⟨a.1.symm.trans b.1, a.2.symm.trans b.2⟩
theorem tQ_len {X : Int} {D : Nat} (hX : X.natAbs < Big) (hD : D < Big) : (tB (tQ X D)).size ≤ 1048575 := by
  rw [tB_size]
  have h1 := zS_len hX
  have h2 := numeral_size (b := 10) (by omega) hD
  unfold tQ
  split
  · omega
  · rw [List.length_append, List.length_cons]; omega
end Go.Proofs.YthgmebnihpjnoaaGreatDoor
