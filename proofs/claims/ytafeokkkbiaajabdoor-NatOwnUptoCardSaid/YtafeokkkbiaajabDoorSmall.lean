/- The small functions of nat: tooLong, Of, settle, fresh, answer, Small; mulAdd. -/
import Derived.Test.YtafeokkkbiaajabDoorOps
import Derived.Test.YtafeokkkbiaajabDoorShelf
import Derived.Outline
import Derived.Deep.DeepFit
namespace Go.Proofs.YtafeokkkbiaajabDoor
open Go.RowKit Mth

theorem tooLong_any {v : Value} {xs : List Nat} {w : World} (h : Sl w .u64 v xs) :
    Calls Tryd.prog 20 #[v] w fun e w' => e = .returned (.bool (decide (4096 < xs.length))) ∧ w = w' := by
  obtain ⟨ao, cap, rfl, h1, h2, h3, h4, h5⟩ := h
  clear h4 h5
  unfold maxLen at h2
  go_enter Tryd.func20, Tryd.ntmps20
  go_wp2
  go_ret
  exact ⟨ret_bool (by rw [decide_eq_decide]; omega), rfl⟩

theorem settle_any {v : Value} {xs : List Nat} {w : World} (h : Sl w .u64 v xs) :
    Calls Tryd.prog 22 #[v] w fun e w' => ∃ v', e = .returned v' ∧ Sl w .u64 v' (trimL xs) ∧ w = w' := by
  go_enter Tryd.func22, Tryd.ntmps22
  go_wp2_with fail
  refine (trim_any h).mono ?_
  rintro e w' ⟨v', rfl, hs, rfl⟩
  have hs' := hs
  obtain ⟨ao, cap, rfl, h1, h2, h3, h4, h5⟩ := hs'
  clear h4 h5
  unfold maxLen at h2
  by_cases h0 : (trimL xs).length = 0
  · have e0 : trimL xs = [] := List.eq_nil_of_length_eq_zero h0
    have hd := len_eq h0
    clear h0
    have E0 := Lib.hid e0; clear e0
    go_wp2
    go_ret
    exact ⟨_, rfl, by rw [E0.out]; exact sl_nil _ _, rfl⟩
  · have hd := len_ne h0
    clear h0
    go_wp2
    go_ret
    exact ⟨_, rfl, hs, rfl⟩

set_option maxRecDepth 100000 in
theorem fresh_any {v : Value} {xs : List Nat} {w : World} (h : Sl w .u64 v xs) :
    Calls Tryd.prog 31 #[v] w fun e w' => ∃ v', e = .returned v' ∧ Below w.heap.size w w' ∧ Sl w' .u64 v' (trimL xs) ∧
      (v' = .slice none 0 0 ∧ trimL xs = [] ∨ v' = .slice (some ⟨w.heap.size, 0, none⟩) (trimL xs).length (trimL xs).length ∧ Row w' 36 .u64 w.heap.size (trimL xs)) := by
  go_enter Tryd.func31, Tryd.ntmps31
  go_wp2_with fail
  refine (trim_any h).mono ?_
  rintro e w' ⟨v', rfl, hs, rfl⟩
  have hs' := hs
  obtain ⟨ao, cap, rfl, h1, h2, h3, h4, h5⟩ := hs'
  clear h4 h5 h
  unfold maxLen at h2
  by_cases h0 : (trimL xs).length = 0
  · have e0 : trimL xs = [] := List.eq_nil_of_length_eq_zero h0
    have hd := len_eq h0
    clear h0
    have E0 := Lib.hid e0; clear e0
    go_wp2
    go_ret
    exact ⟨_, rfl, Below.refl _ _, by rw [E0.out]; exact sl_nil _ _, .inl ⟨rfl, E0.out⟩⟩
  · have hd := len_ne h0
    have h0' : 0 < (trimL xs).length := by omega
    clear h0
    go_wp2_with (first
      | (at_make; refine make_nat rfl _ _ rfl _ _ (trimL xs).length rfl rfl rfl rfl (by omega) ?_; intro w1 hrow hb1)
      | (refine copy_nat (w0 := w) (o := ⟨some 14, _, _, _, _, _⟩) rfl _ _ rfl w.heap.size (trimL xs).length (trimL xs).length _ (trimL xs) _ rfl rfl hrow (by simp) rfl (hs.below hb1) hb1 (Nat.le_refl _) ?_; intro w2 hrow2 hb2))
    go_ret
    exact ⟨_, rfl, hb2, by
      have := hrow2.sl_all (by omega)
      exact this, .inr ⟨rfl, hrow2⟩⟩

theorem answer_any {v : Value} {xs : List Nat} {w : World} (h : Sl w .u64 v xs) (hx : Lim B64 xs) :
    Calls Tryd.prog 26 #[v] w fun e w' => ∃ v', e = .returned (.tuple #[v', .int .i64 (cutE (val B64 xs))]) ∧ Num w v' (cutN (val B64 xs)) ∧ w = w' := by
  go_enter Tryd.func26, Tryd.ntmps26
  go_wp2_with fail
  refine (settle_any h).mono ?_
  rintro e w' ⟨v', rfl, hs, rfl⟩
  clear h
  have hN := num_trim hs hx
  have L := long_iff hx
  by_cases h0 : 4096 < (trimL xs).length
  · have hd : decide (4096 < (trimL xs).length) = true := decide_eq_true h0
    have e1 : cutE (val B64 xs) = 5 := if_pos (L.1 h0)
    have e2 : cutN (val B64 xs) = 0 := if_pos (L.1 h0)
    have E1 := Lib.hid e1; have E2 := Lib.hid e2
    clear e1 e2 L h0 hN
    go_wp2_with fail
    refine (tooLong_any hs).mono ?_
    rintro e w' ⟨rfl, rfl⟩
    go_wp2
    go_ret2
    exact ⟨_, by rw [E1.out]; rfl, by rw [E2.out]; exact num_nil _, rfl⟩
  · have hd : decide (4096 < (trimL xs).length) = false := decide_eq_false h0
    have e1 : cutE (val B64 xs) = 0 := if_neg (fun h => h0 (L.2 h))
    have e2 : cutN (val B64 xs) = val B64 xs := if_neg (fun h => h0 (L.2 h))
    have E1 := Lib.hid e1; have E2 := Lib.hid e2
    clear e1 e2 L h0
    go_wp2_with fail
    refine (tooLong_any hs).mono ?_
    rintro e w' ⟨rfl, rfl⟩
    go_wp2
    go_ret2
    exact ⟨_, by rw [E1.out]; rfl, by rw [E2.out]; exact hN, rfl⟩
end Go.Proofs.YtafeokkkbiaajabDoor
