/- lexis: inQuotes, written. -/
import Derived.Test.YtlgcmpiobglbbaaDoorKA
set_option linter.unusedVariables false
set_option linter.unusedSimpArgs false
namespace Go.Proofs.YtlgcmpiobglbbaaDoor
open Go.RowKit Mth

theorem str_cat (a b : List UInt8) : (⟨a.toArray⟩ : ByteArray) ++ ⟨b.toArray⟩ = ⟨(a ++ b).toArray⟩ := by
  apply ByteArray.ext
  simp
theorem str_self (t : ByteArray) : (⟨t.data.toList.toArray⟩ : ByteArray) = t := by simp
def qtB (t : ByteArray) : ByteArray := ⟨(34 :: (dbl t.data.toList ++ [34])).toArray⟩
theorem qt_eq (t : ByteArray) : (⟨#[34]⟩ : ByteArray) ++ ⟨(dbl t.data.toList).toArray⟩ ++ ⟨#[34]⟩ = qtB t := by
  show (⟨([34] : List UInt8).toArray⟩ : ByteArray) ++ _ ++ ⟨([34] : List UInt8).toArray⟩ = _
  rw [str_cat, str_cat]; rfl
theorem len_data (t : ByteArray) : t.data.toList.length = t.size := Array.length_toList
set_option maxRecDepth 100000 in
theorem inQuotes_any (t : ByteArray) (ht : t.size ≤ 4194304) (w : World) (hL : LexW w) : Calls Tryd.prog 31 #[.string t] w fun e w' => e = .returned (.string (qtB t)) ∧ Below w.heap.size w w' := by
  have RP : Hid (Calls Tryd.prog 51 #[.string t, .string ⟨#[34]⟩, .string ⟨#[34, 34]⟩] w fun e w' => e = .returned (.string ⟨(dbl t.data.toList).toArray⟩) ∧ Below w.heap.size w w') := Lib.hid (by
    obtain ⟨m2, hm2⟩ := hL.max
    have hc := Lib.countB_mul_le (⟨#[34]⟩ : ByteArray) (by decide) _ t (Nat.le_refl _)
    have e1 : (⟨#[34]⟩ : ByteArray).size = 1 := rfl
    have e2 : (⟨#[34, 34]⟩ : ByteArray).size = 2 := rfl
    rw [e1] at hc
    have h := Tryd.strings_ReplaceAll t ⟨#[34]⟩ ⟨#[34, 34]⟩ m2 w (by omega) hm2 (by decide) (by rw [e2]; omega)
    refine h.mono fun e w' ⟨h1, h2⟩ => ⟨?_, h2⟩
    rw [h1]; exact ret_s (by rw [← rep_dbl]))
  have hd := dbl_len t.data.toList
  rw [len_data] at hd
  have hz : (⟨(dbl t.data.toList).toArray⟩ : ByteArray).size ≤ 8388608 := by rw [size_list]; omega
  have QE := Lib.hid (qt_eq t)
  clear hL hd
  generalize (⟨(dbl t.data.toList).toArray⟩ : ByteArray) = d at *
  go_enter Tryd.func31, Tryd.ntmps31
  go_wp2_with (go_at_call 51; refine RP.out.mono ?_; rintro e w1 ⟨rfl, hb⟩)
  go_ret
  exact ⟨ret_s QE.out, hb⟩
/-- a token of whatever kind, as a value -/
def tkV (x : Tk) : Value := .agg #[.int .i64 x.k, .string x.t, .bool x.q, .int .i64 x.l, .int .i64 x.c]
theorem wr5 {x : Tk} (h : x.k = 5) : (⟨#[35, 120]⟩ : ByteArray) ++ x.t = wrB x := by
  unfold wrB wrL; rw [if_pos h]
  show (⟨([35, 120] : List UInt8).toArray⟩ : ByteArray) ++ x.t = _
  rw [← str_self x.t, str_cat]; rfl
theorem wr6 {x : Tk} (h : x.k = 6) : (⟨#[35, 98]⟩ : ByteArray) ++ x.t = wrB x := by
  unfold wrB wrL; rw [if_neg (by omega), if_pos h]
  show (⟨([35, 98] : List UInt8).toArray⟩ : ByteArray) ++ x.t = _
  rw [← str_self x.t, str_cat]; rfl
theorem wr7 {x : Tk} (h : x.k = 7) : qtB x.t = wrB x := by unfold wrB wrL; rw [if_neg (by omega), if_neg (by omega), if_pos h]; rfl
theorem wr9 {x : Tk} (h : x.k = 9) : (⟨#[58]⟩ : ByteArray) ++ x.t = wrB x := by
  unfold wrB wrL; rw [if_neg (by omega), if_neg (by omega), if_neg (by omega), if_pos h]
  show (⟨([58] : List UInt8).toArray⟩ : ByteArray) ++ x.t = _
  rw [← str_self x.t, str_cat]; rfl
theorem wr8q {x : Tk} (h : x.k = 8) (hq : x.q = true) : (⟨#[124]⟩ : ByteArray) ++ x.t ++ ⟨#[124]⟩ = wrB x := by
  unfold wrB wrL; rw [if_neg (by omega), if_neg (by omega), if_neg (by omega), if_neg (by omega), if_pos ⟨h, hq⟩]
  show (⟨([124] : List UInt8).toArray⟩ : ByteArray) ++ x.t ++ ⟨([124] : List UInt8).toArray⟩ = _
  rw [← str_self x.t, str_cat, str_cat]; rfl
theorem wrP {x : Tk} (h : (1 ≤ x.k ∧ x.k ≤ 4) ∨ (x.k = 8 ∧ x.q = false)) : x.t = wrB x := by
  unfold wrB wrL
  rw [if_neg (by omega), if_neg (by omega), if_neg (by omega), if_neg (by omega), if_neg (fun e => by
    rcases h with h | h
    · omega
    · rw [h.2] at e; cases e.2), if_pos (by omega)]
theorem wr0 {x : Tk} (h : x.k ≤ 0 ∨ 10 ≤ x.k) : (⟨#[]⟩ : ByteArray) = wrB x := by
  unfold wrB wrL
  rw [if_neg (by omega), if_neg (by omega), if_neg (by omega), if_neg (by omega), if_neg (by omega), if_neg (by omega)]
set_option maxHeartbeats 2000000 in
set_option maxRecDepth 100000 in
theorem written_any (x : Tk) (ht : x.t.size ≤ 4194304) (w : World) (hL : LexW w) : Calls Tryd.prog 29 #[tkV x] w fun e w' => e = .returned (.string (wrB x)) ∧ Below w.heap.size w w' := by
  obtain ⟨k, t, q, l, c⟩ := x
  have ht' : t.size ≤ 4194304 := ht
  have BE := Lib.hid (Below.refl w.heap.size w)
  have HLA : Hid (∀ o, LexW (w.alloc o)) := Lib.hid (fun o => hL.below ((Below.refl _ _).alloc (Nat.le_refl _) _))
  have BA : Hid (∀ o, Below w.heap.size w (w.alloc o)) := Lib.hid (fun o => BE.out.alloc (Nat.le_refl _) o)
  have SZ : Hid (∀ o, w.heap.size ≤ (w.alloc o).heap.size) := Lib.hid (fun o => by simp)
  unfold tkV
  clear hL ht
  by_cases h5 : k = 5
  · subst h5
    have HW := Lib.hid (wr5 (x := ⟨5, t, q, l, c⟩) rfl)
    go_enter Tryd.func29, Tryd.ntmps29
    go_wp2
    go_ret
    exact ⟨ret_s HW.out, BA.out _⟩
  by_cases h6 : k = 6
  · subst h6
    have HW := Lib.hid (wr6 (x := ⟨6, t, q, l, c⟩) rfl)
    clear h5
    go_enter Tryd.func29, Tryd.ntmps29
    go_wp2
    go_ret
    exact ⟨ret_s HW.out, BA.out _⟩
  by_cases h7 : k = 7
  · subst h7
    have HW := Lib.hid (wr7 (x := ⟨7, t, q, l, c⟩) rfl)
    have IQ : Hid (∀ o, Calls Tryd.prog 31 #[.string t] (w.alloc o) fun e w' => e = .returned (.string (qtB t)) ∧ Below (w.alloc o).heap.size (w.alloc o) w') := Lib.hid (fun o => inQuotes_any t ht' _ (HLA.out o))
    clear h5 h6
    go_enter Tryd.func29, Tryd.ntmps29
    go_wp2_with (go_at_call 31; refine (IQ.out _).mono ?_; rintro e w1 ⟨rfl, hb⟩; have HB := Lib.hid hb; clear hb)
    go_ret
    exact ⟨ret_s HW.out, (BA.out _).trans (HB.out.mono (SZ.out _))⟩
  by_cases h9 : k = 9
  · subst h9
    have HW := Lib.hid (wr9 (x := ⟨9, t, q, l, c⟩) rfl)
    clear h5 h6 h7
    go_enter Tryd.func29, Tryd.ntmps29
    go_wp2
    go_ret
    exact ⟨ret_s HW.out, BA.out _⟩
  by_cases h8 : k = 8
  · subst h8
    clear h5 h6 h7 h9
    cases q with
    | true =>
      have HW := Lib.hid (wr8q (x := ⟨8, t, true, l, c⟩) rfl rfl)
      go_enter Tryd.func29, Tryd.ntmps29
      go_wp2
      go_ret
      exact ⟨ret_s HW.out, BA.out _⟩
    | false =>
      have HW := Lib.hid (wrP (x := ⟨8, t, false, l, c⟩) (.inr ⟨rfl, rfl⟩))
      go_enter Tryd.func29, Tryd.ntmps29
      go_wp2
      go_ret
      exact ⟨ret_s HW.out, BA.out _⟩
  by_cases hp : 1 ≤ k ∧ k ≤ 4
  · have HW := Lib.hid (wrP (x := ⟨k, t, q, l, c⟩) (.inl hp))
    rcases (show k = 1 ∨ k = 2 ∨ k = 3 ∨ k = 4 by omega) with rfl | rfl | rfl | rfl
    all_goals (
      clear h5 h6 h7 h8 h9 hp
      go_enter Tryd.func29, Tryd.ntmps29
      go_wp2
      go_ret
      exact ⟨ret_s HW.out, BA.out _⟩)
  · have HW := Lib.hid (wr0 (x := ⟨k, t, q, l, c⟩) (by show k ≤ 0 ∨ 10 ≤ k; omega))
    have e5 : (k == 5) = false := beq_eq_false_iff_ne.2 h5
    have e6 : (k == 6) = false := beq_eq_false_iff_ne.2 h6
    have e7 : (k == 7) = false := beq_eq_false_iff_ne.2 h7
    have e9 : (k == 9) = false := beq_eq_false_iff_ne.2 h9
    have e8 : (k == 8) = false := beq_eq_false_iff_ne.2 h8
    have e1 : (k == 1) = false := beq_eq_false_iff_ne.2 (by omega)
    have e2 : (k == 2) = false := beq_eq_false_iff_ne.2 (by omega)
    have e3 : (k == 3) = false := beq_eq_false_iff_ne.2 (by omega)
    have e4 : (k == 4) = false := beq_eq_false_iff_ne.2 (by omega)
    clear h5 h6 h7 h8 h9 hp
    go_enter Tryd.func29, Tryd.ntmps29
    go_wp2
    go_ret
    exact ⟨ret_s HW.out, BA.out _⟩
end Go.Proofs.YtlgcmpiobglbbaaDoor
