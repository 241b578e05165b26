/- tribunalref01: From at any list, Same, Small, Of, Long, limb; nat.Small. -/
import Derived.Test.YtafeokkkbiaajabDoorTo
import Derived.Deep.QuietTactic
import Derived.BigQuiet
namespace Go.Proofs.YtafeokkkbiaajabDoor
open Go.RowKit Mth

theorem bdrawn {B : Nat} {a w : World} (h : Below B a w) (n : Nat) : Below B a (w.drewN n) := ⟨h.os, h.tape, h.output, h.size, h.block⟩
theorem from_zero (ao : Option Addr) (cap : Nat) (w : World) (_hm : cap ≤ maxLen) : Calls Tryd.prog 36 #[.slice ao 0 cap] w fun e w' => ∃ v', e = .returned v' ∧ HNum w' v' 0 ∧ Below w.heap.size w w' := by
  unfold maxLen at _hm
  go_enter Tryd.func36, Tryd.ntmps36
  go_wp2
  refine wp_loop_rounds 1 ?_
  rw [rounds_succ]
  go_wp2_with fail
  refine (rtrim_any (sl_nil w _)).mono ?_
  rintro e w' ⟨v', rfl, hs', rfl⟩
  have HS' := Lib.hid hs'; clear hs'
  go_wp2
  go_ret
  exact ⟨_, rfl, ⟨[], HS'.out, lim_nil (by unfold B16; omega), rfl, rfl⟩, Below.refl _ _⟩
theorem from_any (v : Value) (xs : List Nat) (w : World) (h : Sl w .u64 v xs) (hl : Lim B64 xs) (hlen : xs.length ≤ 4000000) :
    Calls Tryd.prog 36 #[v] w fun e w' => ∃ v', e = .returned v' ∧ HNum w' v' (val B64 xs) ∧ Below w.heap.size w w' := by
  by_cases hp : 0 < xs.length
  · obtain ⟨b, off, cap, rfl, h1, h2, h3, hc⟩ := h.pos hp
    refine (from_pos b off cap xs w h1 h2 hlen h3 hc).mono fun e w' ⟨v', he, hs, hb⟩ => ⟨v', he, ?_, hb⟩
    have := hnum_trim hs (lim_halves xs)
    rwa [val_halves hl] at this
  · obtain rfl : xs = [] := List.eq_nil_of_length_eq_zero (by omega)
    obtain ⟨ao, cap, rfl, h1, h2, h3, h4, h5⟩ := h
    exact from_zero ao cap w h2
theorem to_num (v : Value) (n : Nat) (w : World) (h : HNum w v n) : Calls Tryd.prog 54 #[v] w fun e w' => ∃ v', e = .returned v' ∧ Num w' v' n ∧ Below w.heap.size w w' := by
  obtain ⟨hs, h1, h2, h3, rfl⟩ := h
  exact to_pos v hs w h1 h2

set_option maxHeartbeats 1000000 in
set_option maxRecDepth 100000 in
theorem same_pos (v1 v2 : Value) (xs : List Nat) (w : World) (h1 : Sl w .u64 v1 xs) (h2 : Sl w .u64 v2 xs) (hp : 0 < xs.length) :
    Calls Tryd.prog 17 #[v1, v2] w fun e w' => e = .returned (.bool true) ∧ Below w.heap.size w w' := by
  have hlen := h1.len
  obtain ⟨b1, o1, c1, rfl, h11, h12, h13, hc1⟩ := h1.pos hp
  obtain ⟨b2, o2, c2, rfl, h21, h22, h23, hc2⟩ := h2.pos hp
  unfold maxLen at h12 h22
  have HC1 := Lib.hid hc1; have HC2 := Lib.hid hc2
  clear hc1 hc2 h1 h2
  go_enter Tryd.func17, Tryd.ntmps17
  go_wp2
  go_loopw [5] (fun i wr => ∃ k : Nat, k ≤ xs.length ∧ i = .int .i64 k ∧ Below w.heap.size w wr) (fun i _ => xs.length - (intOf i).toNat)
  case atStart => exact ⟨0, Nat.zero_le _, rfl, Below.refl _ _⟩
  case round =>
    obtain ⟨k, hk, rfl, hbel⟩ := hrel
    by_cases hlt : k < xs.length
    · have hk1 : wr.cell? ⟨b1, o1 + k, none⟩ = some (.int .u64 ((xs.getD k 0 : Nat) : Int)) := (hbel.cell (p := ⟨b1, o1 + k, none⟩) h13).trans (HC1.out k hlt)
      have hk2 : wr.cell? ⟨b2, o2 + k, none⟩ = some (.int .u64 ((xs.getD k 0 : Nat) : Int)) := (hbel.cell (p := ⟨b2, o2 + k, none⟩) h23).trans (HC2.out k hlt)
      generalize xs.getD k 0 = x at hk1 hk2
      have hne : ((x : Int) != (x : Int)) = false := by simp
      have HB := Lib.hid hbel; clear hbel
      go_wp2
      go_quiet (fail)
      go_wp2
      go_roundw
      case rel => exact ⟨k + 1, by omega, by go_num, bdrawn HB.out _⟩
      case measure => simp [intOf]; omega
    · have HB := Lib.hid hbel; clear hbel
      go_wp2
      go_ret
      exact ⟨rfl, HB.out⟩
theorem same_zero (a1 a2 : Option Addr) (c1 c2 : Nat) (w : World) (_h1 : c1 ≤ maxLen) (_h2 : c2 ≤ maxLen) : Calls Tryd.prog 17 #[.slice a1 0 c1, .slice a2 0 c2] w fun e w' => e = .returned (.bool true) ∧ Below w.heap.size w w' := by
  unfold maxLen at _h1 _h2
  go_enter Tryd.func17, Tryd.ntmps17
  go_wp2
  refine wp_loop_rounds 1 ?_
  rw [rounds_succ]
  go_wp2
  go_ret
  exact ⟨rfl, Below.refl _ _⟩
theorem same_any (v1 v2 : Value) (n : Nat) (w : World) (h1 : Num w v1 n) (h2 : Num w v2 n) : Calls Tryd.prog 17 #[v1, v2] w fun e w' => e = .returned (.bool true) ∧ Below w.heap.size w w' := by
  obtain ⟨xs, s1, l1, t1, e1⟩ := h1
  obtain ⟨ys, s2, l2, t2, e2⟩ := h2
  obtain rfl : xs = ys := top_uniq B64_pos l1 l2 t1 t2 (by rw [e1, e2])
  by_cases hp : 0 < xs.length
  · exact same_pos v1 v2 xs w s1 s2 hp
  · obtain rfl : xs = [] := List.eq_nil_of_length_eq_zero (by omega)
    obtain ⟨a1, c1, rfl, _, h1, _⟩ := s1
    obtain ⟨a2, c2, rfl, _, h2, _⟩ := s2
    exact same_zero a1 a2 c1 c2 w h1 h2

/-- the small form of a number -/
def smallV (n : Nat) : Nat := if n < B64 then n else 0
def smallB (n : Nat) : Bool := decide (n < B64)
theorem small_zero : smallV 0 = 0 ∧ smallB 0 = true := by unfold smallV smallB B64; exact ⟨rfl, rfl⟩
theorem small_one {x : Nat} (h : Lim B64 [x]) : smallV (val B64 [x]) = x ∧ smallB (val B64 [x]) = true := by
  have : x < B64 := (lim_cons.1 h).1
  have e : val B64 [x] = x := by simp [val]
  rw [e]
  exact ⟨if_pos this, decide_eq_true this⟩
theorem small_many {xs : List Nat} (ht : Top xs) (h : 1 < xs.length) : smallV (val B64 xs) = 0 ∧ smallB (val B64 xs) = false := by
  have h1 := val_ge_top (B := B64) ht (by omega)
  have h2 : B64 ^ 1 ≤ B64 ^ (xs.length - 1) := Nat.pow_le_pow_right (by have := B64_pos; omega) (by omega)
  rw [Nat.pow_one] at h2
  exact ⟨if_neg (by omega), decide_eq_false (by omega)⟩
theorem list_one {xs : List Nat} (h : xs.length = 1) : xs = [xs.getD 0 0] := by
  match xs, h with
  | [x], _ => rfl

end Go.Proofs.YtafeokkkbiaajabDoor
