/- nat.product and nat.Mul: the product of many numbers. -/
import Derived.Test.YtafeokkkbiaajabDoorTimes
import Derived.Deep.RegionWith
import Derived.Deep.QuietTactic
import Derived.BigQuiet
namespace Go.Proofs.YtafeokkkbiaajabDoor
open Go.RowKit Mth

/-- what a call that answers a number and an error leaves -/
def Ans (w : World) (n : Nat) (e : Ending) (w' : World) : Prop := ∃ v', e = .returned (.tuple #[v', .int .i64 (cutE n)]) ∧ Num w' v' (cutN n) ∧ Below w.heap.size w w'

theorem product_none (w : World) (ao : Option Addr) (cap : Nat) (_ : cap ≤ maxLen) : Calls Tryd.prog 27 #[.slice ao 0 cap] w (Ans w 1) := by
  have hB : 1 < B64 := B64_pos
  have HB := Lib.hid hB; clear hB
  go_enter Tryd.func27, Tryd.ntmps27
  go_wp2_with fail
  refine (of_any 1 HB.out _).mono ?_
  rintro e w1 ⟨v1, rfl, hb1, hn1⟩
  have HB1 := Lib.hid hb1; have HN1 := Lib.hid hn1
  clear hb1 hn1
  go_wp2
  go_ret2
  obtain ⟨e1, e2⟩ := cut_small one_lt_big
  exact ⟨v1, by rw [e2]; rfl, by rw [e1]; exact HN1.out, HB1.out⟩
theorem product_one (w : World) (v : Value) (xs : List Nat) (h : NatList w v [xs]) (hx : Lim B64 xs) (hlong : val B64 xs < Big) : Calls Tryd.prog 27 #[v] w (Ans w (val B64 xs)) := by
  obtain ⟨b, off, cap, rfl, h1, h2, h3, hc⟩ := h.pos (by simp)
  obtain ⟨u, hu, hsu⟩ := hc 0 (by simp)
  have HS := Lib.hid hsu; have HL := Lib.hid hx; have HG := Lib.hid hlong
  unfold maxLen at h2
  clear hc h hsu hx hlong
  simp only [Nat.add_zero, List.length_singleton] at *
  go_enter Tryd.func27, Tryd.ntmps27
  go_wp2_with fail
  refine (fresh_any HS.out).mono ?_
  rintro e w1 ⟨v1, rfl, hb1, hn1, _⟩
  have HB1 := Lib.hid hb1; have HN1 := Lib.hid (num_trim hn1 (by simpa using HL.out))
  clear hb1 hn1
  go_wp2
  go_ret2
  obtain ⟨e1, e2⟩ := cut_small HG.out
  exact ⟨v1, by rw [e2]; rfl, by rw [e1]; exact HN1.out, HB1.out⟩

set_option maxHeartbeats 2000000 in
set_option maxRecDepth 100000 in
theorem product_two (w : World) (v : Value) (xs ys : List Nat) (h : NatList w v [xs, ys]) (hx : Lim B64 xs) (hy : Lim B64 ys) (px : 0 < val B64 xs) (py : 0 < val B64 ys) : Calls Tryd.prog 27 #[v] w (Ans w (val B64 xs * val B64 ys)) := by
  obtain ⟨b, off, cap, rfl, h1, h2, h3, hc⟩ := h.pos (by simp)
  obtain ⟨u0, hu0, hs0⟩ := hc 0 (by simp)
  obtain ⟨u1, hu1, hs1⟩ := hc 1 (by simp)
  have hs0 : Sl w .u64 u0 xs := by simpa using hs0
  have hs1 : Sl w .u64 u1 ys := by simpa using hs1
  obtain ⟨a0, c0, rfl⟩ := hs0.shape
  obtain ⟨a1, c1, rfl⟩ := hs1.shape
  have hbd : Below w.heap.size w w.drew := (Below.refl _ _).drew
  have T0 := Lib.hid (trim_eq (hs0.below hbd)); have T1 := Lib.hid (trim_eq (hs1.below hbd))
  have tt := times_any _ _ _ _ w.drew (hs0.below hbd).trim (hs1.below hbd).trim (lim_trimL hx) (lim_trimL hy) (top_trimL _) (top_trimL _)
    (by rcases Nat.eq_zero_or_pos (trimL xs).length with h | h
        · have := nil_iff.1 h; omega
        · exact h)
    (by rcases Nat.eq_zero_or_pos (trimL ys).length with h | h
        · have := nil_iff.1 h; omega
        · exact h)
  rw [val_trimL, val_trimL] at tt
  have TT := Lib.hid tt
  unfold maxLen at h2
  clear hc h hs0 hs1 hx hy px py hbd tt
  simp only [Nat.add_zero, List.length_cons, List.length_nil, Nat.reduceAdd] at *
  go_enter Tryd.func27, Tryd.ntmps27
  go_wp2_with fail
  go_region_with (first
    | (go_at_call 18; (with_reducible refine (T0.out).mono ?_); rintro e w1 ⟨rfl, rfl⟩)
    | (go_at_call 18; (with_reducible refine (T1.out).mono ?_); rintro e w1 ⟨rfl, rfl⟩)
    | (go_at_call 44; (with_reducible refine (TT.out).mono ?_); rintro e w1 ⟨v1, rfl, hn1, hb1⟩; have HN1 := Lib.hid hn1; have HB1 := Lib.hid hb1; clear hn1 hb1))
  all_goals go_wp2
  all_goals go_ret2
  all_goals exact ⟨v1, rfl, HN1.out, (Below.refl _ _).drew.trans HB1.out⟩

theorem times_num (w : World) (av bv : Value) (m n : Nat) (ha : Num w av m) (hb : Num w bv n) (hm : 0 < m) (hn : 0 < n) : Calls Tryd.prog 44 #[av, bv] w (Ans w (m * n)) := by
  obtain ⟨xs, h1, h2, h3, rfl⟩ := ha
  obtain ⟨ys, k1, k2, k3, rfl⟩ := hb
  refine times_any av bv xs ys w h1 k1 h2 k2 h3 k3 ?_ ?_
  · cases xs with
    | nil => simp [val] at hm
    | cons x r => simp
  · cases ys with
    | nil => simp [val] at hn
    | cons x r => simp
end Go.Proofs.YtafeokkkbiaajabDoor
