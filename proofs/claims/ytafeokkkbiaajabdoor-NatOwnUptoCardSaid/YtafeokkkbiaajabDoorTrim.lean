/- The walks of nat.trim and of what only cuts. -/
import Derived.Test.YtafeokkkbiaajabDoorMem
import Derived.Outline
namespace Go.Proofs.YtafeokkkbiaajabDoor
open Go.RowKit Mth

set_option maxHeartbeats 400000 in
theorem trim_pos (b off cap : Nat) (xs : List Nat) (w : World) (hl : xs.length ≤ cap) (hm : cap ≤ maxLen)
    (hc : ∀ j, j < xs.length → w.cell? ⟨b, off + j, none⟩ = some (.int .u64 ((xs.getD j 0 : Nat) : Int))) :
    Calls Tryd.prog 18 #[.slice (some ⟨b, off, none⟩) xs.length cap] w fun e w' =>
      e = .returned (.slice (some ⟨b, off, none⟩) (tlen xs) cap) ∧ w = w' := by
  unfold maxLen at hm
  go_enter Tryd.func18, Tryd.ntmps18
  go_wp2
  go_loop [3] (fun n => ∃ k : Nat, k ≤ xs.length ∧ n = .int .i64 k ∧ (∀ j, k ≤ j → xs.getD j 0 = 0)) (fun n => (intOf n).toNat)
  case atStart => exact ⟨xs.length, Nat.le_refl _, rfl, fun j hj => getD_ge xs j hj⟩
  case round =>
    obtain ⟨k, hk, rfl, hz⟩ := hrel
    by_cases h0 : 0 < k
    · have hc1 := hc (k - 1) (by omega)
      have HZ := Lib.hid hz
      clear hz hc
      go_wp2
      · have h1 : ((xs[k - 1]?.getD 0 : Nat) : Int) == 0 := by assumption
        go_round
        case rel => exact ⟨k - 1, by omega, by congr 1; omega, fun j hj => by
          by_cases e : j = k - 1
          · subst e; simp at h1; simpa [List.getD_eq_getElem?_getD] using h1
          · exact HZ.out j (by omega)⟩
        case measure => simp [intOf]; omega
      · have h1 : (((xs[k - 1]?.getD 0 : Nat) : Int) == 0) = false := by assumption
        go_ret
        have e : tlen xs = k := tlen_eq HZ.out (.inr (by simp at h1; simpa [List.getD_eq_getElem?_getD] using h1))
        rw [e]
        exact ⟨rfl, rfl⟩
    · have HZ := Lib.hid hz
      clear hz hc
      go_wp2
      go_ret
      have e : tlen xs = k := tlen_eq HZ.out (.inl (by omega))
      rw [e]
      exact ⟨rfl, rfl⟩
theorem trim_zero (ao : Option Addr) (cap : Nat) (w : World) (hm : cap ≤ maxLen) (hn : ao = none → cap = 0) :
    Calls Tryd.prog 18 #[.slice ao 0 cap] w fun e w' => e = .returned (.slice ao 0 cap) ∧ w = w' := by
  unfold maxLen at hm
  cases ao with
  | none =>
    obtain rfl := hn rfl
    go_enter Tryd.func18, Tryd.ntmps18
    go_wp2
    refine wp_loop_rounds 1 ?_
    rw [rounds_succ]
    go_wp2
    go_ret
    exact ⟨rfl, rfl⟩
  | some a =>
    clear hn
    go_enter Tryd.func18, Tryd.ntmps18
    go_wp2
    refine wp_loop_rounds 1 ?_
    rw [rounds_succ]
    go_wp2
    go_ret
    exact ⟨rfl, rfl⟩
theorem trim_any {v : Value} {xs : List Nat} {w : World} (h : Sl w .u64 v xs) :
    Calls Tryd.prog 18 #[v] w fun e w' => ∃ v', e = .returned v' ∧ Sl w .u64 v' (trimL xs) ∧ w = w' := by
  have h' := h
  obtain ⟨ao, cap, rfl, h1, h2, h3, h4, h5⟩ := h
  have hs : Sl w .u64 (.slice ao (tlen xs) cap) (trimL xs) := h'.take (tlen_le xs)
  by_cases hp : 0 < xs.length
  · obtain ⟨b, off, rfl, hlt, hc⟩ := h5 hp
    exact (trim_pos b off cap xs w h1 h2 hc).mono fun e w' ⟨he, hw⟩ => ⟨_, he, hs, hw⟩
  · have : xs = [] := List.eq_nil_of_length_eq_zero (by omega)
    subst this
    exact (trim_zero ao cap w h2 h4).mono fun e w' ⟨he, hw⟩ => ⟨_, he, hs, hw⟩

/-- the same, where the value is written out -/
theorem trim_eq {ao : Option Addr} {n cap : Nat} {xs : List Nat} {w : World} (h : Sl w .u64 (.slice ao n cap) xs) :
    Calls Tryd.prog 18 #[.slice ao n cap] w fun e w' => e = .returned (.slice ao (tlen xs) cap) ∧ w' = w := by
  obtain ⟨ao', cap', e, h1, h2, h3, h4, h5⟩ := h
  simp only [Value.slice.injEq] at e
  obtain ⟨rfl, rfl, rfl⟩ := e
  by_cases hp : 0 < xs.length
  · obtain ⟨b, off, rfl, hlt, hc⟩ := h5 hp
    exact (trim_pos b off cap xs w h1 h2 hc).mono fun e w' ⟨he, hw⟩ => ⟨he, hw.symm⟩
  · have : xs = [] := List.eq_nil_of_length_eq_zero (by omega)
    subst this
    exact (trim_zero ao cap w h2 h4).mono fun e w' ⟨he, hw⟩ => ⟨he, hw.symm⟩
theorem Sl.trim {w : World} {k : IntKind} {ao : Option Addr} {n cap : Nat} {xs : List Nat} (h : Sl w k (.slice ao n cap) xs) : Sl w k (.slice ao (tlen xs) cap) (trimL xs) := by
  have h' := h
  obtain ⟨ao', cap', e, h1, h2, h3, h4, h5⟩ := h'
  simp only [Value.slice.injEq] at e
  obtain ⟨rfl, rfl, rfl⟩ := e
  exact h.take (tlen_le xs)
theorem Sl.shape {w : World} {k : IntKind} {v : Value} {xs : List Nat} (h : Sl w k v xs) : ∃ ao cap, v = .slice ao xs.length cap := by
  obtain ⟨ao, cap, rfl, _⟩ := h; exact ⟨ao, cap, rfl⟩
end Go.Proofs.YtafeokkkbiaajabDoor
