/- lexis's reference: String. -/
import Derived.Test.YtlgcmpiobglbbaaDoorKD
set_option linter.unusedVariables false
set_option linter.unusedSimpArgs false
namespace Go.Proofs.YtlgcmpiobglbbaaDoor
open Go.RowKit Mth

/-- the answer of String -/
def StrO (w' w : World) (t : ByteArray) (e : Ending) : Prop :=
  w = w' ∧ ((allIn t.data.toList ∧ e = .returned (.tuple #[.string (qtB t), .int .i64 0])) ∨ (¬ allIn t.data.toList ∧ e = .returned (.tuple #[.string ⟨#[]⟩, .int .i64 60])))
theorem take_next {l : List UInt8} {k : Nat} (h : k < l.length) : l.take (k + 1) = l.take k ++ [l[k]] := by
  rw [List.take_add_one, List.getElem?_eq_getElem h, Option.toList_some]
def RsR (t : ByteArray) (o i : Value) : Prop := ∃ (k : Nat) (D : ByteArray), k ≤ t.size ∧ i = .int .i64 (k : Int) ∧ o = .string D ∧ D = ⟨(34 :: dbl (t.data.toList.take k)).toArray⟩ ∧ D.size ≤ 2 * k + 1 ∧ allIn (t.data.toList.take k)
theorem byte_at {t : ByteArray} {k : Nat} (h : k < t.size) : ∃ c : UInt8, t.data.toList[k]? = some c ∧ cb t k = c.toNat ∧ t.extract k (k + 1) = ⟨#[c]⟩ := by
  have hl : k < t.data.toList.length := by rw [len_data]; exact h
  refine ⟨t.data.toList[k], List.getElem?_eq_getElem hl, ?_, ?_⟩
  · have := cb_list t.data.toList k hl
    rw [str_self] at this
    rw [this, List.getD_eq_getElem?_getD, List.getElem?_eq_getElem hl]; rfl
  · have e : cb t k = (t.data.toList[k]).toNat := by
      have := cb_list t.data.toList k hl
      rw [str_self] at this
      rw [this, List.getD_eq_getElem?_getD, List.getElem?_eq_getElem hl]; rfl
    exact byt_ext (l := [t.data.toList[k]]) ⟨e, True.intro⟩ (by simp; omega)
set_option maxHeartbeats 2000000 in
set_option maxRecDepth 100000 in
theorem rstring_any (t : ByteArray) (ht : t.size ≤ 1048576) (w : World) : Calls Tryd.prog 18 #[.string t] w fun e w' => StrO w' w t e := by
  go_enter Tryd.func18, Tryd.ntmps18
  go_wp2
  go_loop [4, 5] (fun o i => RsR t o i) (fun _ i => t.size - (intOf i).toNat)
  case atStart => exact ⟨0, ⟨#[34]⟩, Nat.zero_le _, rfl, rfl, rfl, by decide, fun c hc => by simp at hc⟩
  case round =>
    obtain ⟨k, D, hk, rfl, rfl, hD, hDs, hin⟩ := hrel
    have HD := Lib.hid hD; have HIN := Lib.hid hin
    clear hD hin
    by_cases hlt : k < t.size
    · have hbk := cb_at hlt
      obtain ⟨c, hc, hcb, hex⟩ := byte_at hlt
      have HC := Lib.hid hc; have HCB := Lib.hid hcb; have HEX := Lib.hid hex
      have hl : k < t.data.toList.length := by rw [len_data]; exact hlt
      have HTK : Hid (t.data.toList.take (k + 1) = t.data.toList.take k ++ [c]) := Lib.hid (by
        rw [List.take_add_one, hc, Option.toList_some])
      have IT : Hid (∀ W, Calls Tryd.prog 32 #[.int .u8 ((cb t k : Nat) : Int)] W fun e w' => e = .returned (.bool (bInner (cb t k))) ∧ W = w') := Lib.hid (fun W => inner6_any _ (cb_lt t k) W)
      rcases Bool.eq_false_or_eq_true (bInner (cb t k)) with hi | hi
      · have HIN2 : Hid (allIn (t.data.toList.take (k + 1))) := Lib.hid (by
          rw [HTK.out]; intro x hx
          rcases List.mem_append.1 hx with h | h
          · exact HIN.out x h
          · simp at h; subst h; rw [← hcb]; exact hi)
        rw [hi] at IT
        have hsx : (t.extract k (k + 1)).size = 1 := by rw [hex]; rfl
        clear hi
        by_cases h34 : cb t k = 34
        · have HN : Hid (D ++ ⟨#[34]⟩ ++ t.extract k (k + 1) = ⟨(34 :: dbl (t.data.toList.take (k + 1))).toArray⟩) := Lib.hid (by
            have e34 : c = 34 := u34.2 (by rw [← hcb]; exact h34)
            rw [HTK.out, dbl_app, hex, e34, HD.out]
            show (⟨(34 :: dbl (t.data.toList.take k)).toArray⟩ : ByteArray) ++ ⟨([34] : List UInt8).toArray⟩ ++ ⟨([34] : List UInt8).toArray⟩ = _
            rw [str_cat, str_cat]; congr 2; simp [dbl])
          have hsz : (D ++ ⟨#[34]⟩ ++ t.extract k (k + 1)).size ≤ 2 * (k + 1) + 1 := by
            rw [ByteArray.size_append, ByteArray.size_append, hsx]; show D.size + 1 + 1 ≤ _; omega
          rw [h34] at hbk IT
          clear h34 hc hcb hex
          go_wp2_with (go_at_call 32; refine (IT.out _).mono ?_; rintro e w1 ⟨rfl, rfl⟩)
          go_round
          case rel => exact ⟨k + 1, _, by omega, by go_num, rfl, HN.out, hsz, HIN2.out⟩
          case measure => simp [intOf]; omega
        · have HN : Hid (D ++ t.extract k (k + 1) = ⟨(34 :: dbl (t.data.toList.take (k + 1))).toArray⟩) := Lib.hid (by
            have e34 : c ≠ 34 := fun e => h34 (by rw [hcb]; exact u34.1 e)
            rw [HTK.out, dbl_app, hex, HD.out]
            show (⟨(34 :: dbl (t.data.toList.take k)).toArray⟩ : ByteArray) ++ ⟨([c] : List UInt8).toArray⟩ = _
            rw [str_cat]; congr 2; simp [dbl, e34])
          have hsz : (D ++ t.extract k (k + 1)).size ≤ 2 * (k + 1) + 1 := by
            rw [ByteArray.size_append, hsx]; omega
          have e0 : ((cb t k : Int) == 34) = false := ne_i (k := 34) h34
          clear h34 hc hcb hex
          go_wp2_with (go_at_call 32; refine (IT.out _).mono ?_; rintro e w1 ⟨rfl, rfl⟩)
          go_round
          case rel => exact ⟨k + 1, _, by omega, by go_num, rfl, HN.out, hsz, HIN2.out⟩
          case measure => simp [intOf]; omega
      · have HNI : Hid (¬ allIn t.data.toList) := Lib.hid (fun h => by
          have := h c (List.mem_of_getElem? hc)
          rw [← hcb, hi] at this; cases this)
        rw [hi] at IT
        clear hi hc hcb hex
        go_wp2_with (go_at_call 32; refine (IT.out _).mono ?_; rintro e w1 ⟨rfl, rfl⟩)
        go_ret2
        exact ⟨rfl, .inr ⟨HNI.out, rfl⟩⟩
    · obtain rfl : k = t.size := by omega
      have HALL : Hid (allIn t.data.toList) := Lib.hid (by have := HIN.out; rwa [← len_data, List.take_length] at this)
      have HQ : Hid (D ++ ⟨#[34]⟩ = qtB t) := Lib.hid (by
        rw [HD.out, ← len_data, List.take_length]
        show (⟨(34 :: dbl t.data.toList).toArray⟩ : ByteArray) ++ ⟨([34] : List UInt8).toArray⟩ = _
        rw [str_cat]; rfl)
      go_wp2
      go_ret2
      exact ⟨rfl, .inl ⟨HALL.out, by rw [← HQ.out]; rfl⟩⟩
end Go.Proofs.YtlgcmpiobglbbaaDoor
