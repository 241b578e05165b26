/- Package whole: guessQuotient. -/
import Derived.Test.YtfdilnfmcpbkgaaGreatDoorHA
import Derived.Test.YtfdilnfmcpbkgaaGreatDoorQA
import Derived.Deep.RegionWith
set_option linter.unusedVariables false
set_option linter.unusedSimpArgs false
namespace Go.Proofs.YtfdilnfmcpbkgaaGreatDoor
open Go.RowKit Mth

theorem Sl.dropm {w : World} {k : IntKind} {b off n cap m : Nat} {xs : List Nat} (h : Sl w k (.slice (some ⟨b, off, none⟩) n cap) xs) (hm : m < n) : Sl w k (.slice (some ⟨b, off + m, none⟩) (n - m) (cap - m)) (xs.drop m) := by
  obtain ⟨ao, cap', e, h1, h2, h3, h4, h5⟩ := h
  simp only [Value.slice.injEq] at e
  obtain ⟨rfl, rfl, rfl⟩ := e
  have hl : (xs.drop m).length = xs.length - m := List.length_drop ..
  obtain ⟨b', off', e, hlt, hc⟩ := h5 (by omega)
  simp only [Option.some.injEq, Addr.mk.injEq, and_true] at e
  obtain ⟨rfl, rfl⟩ := e
  refine ⟨_, _, by rw [hl], by omega, by omega, by omega, (fun e => by cases e), fun hp => ⟨b, off + m, rfl, hlt, fun j hj => ?_⟩⟩
  rw [getD_drop, Nat.add_assoc]
  exact hc _ (by omega)
theorem Sl.parts {w : World} {k : IntKind} {b off n cap : Nat} {xs : List Nat} (h : Sl w k (.slice (some ⟨b, off, none⟩) n cap) xs) : xs.length = n ∧ n ≤ cap ∧ cap ≤ maxLen ∧ n ≤ 16777216 := by
  obtain ⟨ao, cap', e, h1, h2, h3, _⟩ := h
  simp only [Value.slice.injEq] at e
  obtain ⟨rfl, rfl, rfl⟩ := e
  exact ⟨rfl, h1, h2, h3⟩
/-- what guessQuotient's division answers -/
def GQ (w : World) (u v : Value) (T E : Nat) : Prop := ∀ w1, Below w.heap.size w w1 → Calls Tryz.prog 90 #[u, v] w1 fun e w' => ∃ vq vr, e = .returned (.tuple #[vq, vr, .int .i64 0]) ∧ Num w' vq (T / E) ∧ Below w1.heap.size w1 w'
theorem gq_of {w : World} {u v : Value} {xs ys : List Nat} (h1 : Sl w .u64 u xs) (h2 : Sl w .u64 v ys) (l1 : Lim B64 xs) (l2 : Lim B64 ys) (n1 : xs.length ≤ 3) (n2 : ys.length ≤ 2) (h0 : 0 < val B64 ys) : GQ w u v (val B64 xs) (val B64 ys) := fun w1 hb => by
  have b3 : ∀ zs : List Nat, Lim B64 zs → zs.length ≤ 3 → val B64 zs < Big := fun zs l h => Nat.lt_of_lt_of_le (val_lt l) (Nat.pow_le_pow_right (by have := B64_pos; omega) (by unfold maxL; omega))
  have hx := b3 _ l1 n1; have hy := b3 _ l2 (by omega)
  have F := quo_fine (show ¬ (Big ≤ val B64 xs ∨ Big ≤ val B64 ys) by omega) (by omega)
  refine (quo_any u v xs ys w1 (h1.below hb) (h2.below hb) l1 l2).mono ?_
  rintro e w' ⟨vq, vr, rfl, hq, _, hb'⟩
  rw [F.1] at hq
  exact ⟨vq, vr, by rw [F.2.2], hq.num, hb'⟩
/-- Small of a quotient -/
theorem small_num {v : Value} {n : Nat} {w : World} (h : Num w v n) : Calls Tryz.prog 94 #[v] w fun e w' => e = .returned (.tuple #[.int .u64 ((smallV n : Nat) : Int), .bool (smallB n)]) ∧ Below w.heap.size w w' := by
  obtain ⟨xs, s, l, _, rfl⟩ := h
  exact small_any v xs w s l

set_option maxHeartbeats 4000000 in
set_option maxRecDepth 100000 in
theorem wguess_two (g off cap bb boff bcap m T E : Nat) (w : World) (hc1 : m + 3 ≤ cap) (hc2 : cap ≤ maxLen) (hc3 : m + 2 ≤ bcap) (hc4 : bcap ≤ maxLen) (hm : m ≤ 16777216)
    (hq : GQ w (.slice (some ⟨g, off + m, none⟩) 3 (cap - m)) (.slice (some ⟨bb, boff + m, none⟩) 2 (bcap - m)) T E) :
    Calls Tryz.prog 122 #[.slice (some ⟨g, off, none⟩) (m + 3) cap, .slice (some ⟨bb, boff, none⟩) (m + 2) bcap] w fun e w' => e = .returned (.int .u64 ((gsq T E : Nat) : Int)) ∧ Below w.heap.size w w' := by
  have HQ := Lib.hid hq
  clear hq
  unfold maxLen at hc2 hc4
  have hw1 : IntKind.i64.wrap ((m : Int) + 2 - 2) = (m : Int) := by rw [IntKind.wrap_i64]; omega
  have hw2 : IntKind.i64.wrap (m : Int) = (m : Int) := by rw [IntKind.wrap_i64]; omega
  have hcm1 : ¬ cap = m := by omega
  have hcm2 : ¬ bcap = m := by omega
  have hcm3 : (m : Int) ≤ (m : Int) + 3 := by omega
  have hcm4 : (m : Int) ≤ (m : Int) + 2 := by omega
  go_enter Tryz.func122, Tryz.ntmps122
  go_wp2
  go_region_with (first
    | (go_at_call 38; refine Calls.mono (limbs_is _ _ _ _) ?_; rintro e w1 ⟨rfl, rfl⟩)
    | (go_at_call 90; refine Calls.mono (HQ.out _ ?_) ?_; (first | exact (Below.refl _ _) | exact (Below.refl _ _).drew); rintro e w2 ⟨vq, vr, rfl, hn, hb⟩; have HN := Lib.hid hn; have HB := Lib.hid (below_of (Below.refl w.heap.size w).drew hb); obtain ⟨aq, kq, cq, rfl⟩ := hn.nm.shape; clear hn hb))
  all_goals
    go_wp2_with fail
    refine (small_num HN.out).mono ?_
    rintro e w3 ⟨rfl, hb3⟩
    have HB3 := Lib.hid (below_of HB.out hb3)
    clear hb3
    by_cases hfit : T / E < B64
    · have e1 : smallV (T / E) = gsq T E := by unfold smallV gsq; rw [if_pos hfit, if_pos hfit]
      have e2 : smallB (T / E) = true := decide_eq_true hfit
      rw [e1, e2]
      clear e1 e2 hfit
      go_wp2
      go_ret
      exact ⟨rfl, HB3.out⟩
    · have E1 : Hid (((gsq T E : Nat) : Int) = 18446744073709551615) := Lib.hid (by unfold gsq B64; rw [if_neg (by unfold B64 at hfit; exact hfit)]; rfl)
      have e2 : smallB (T / E) = false := decide_eq_false hfit
      rw [e2]
      clear e2 hfit
      go_wp2
      go_ret
      exact ⟨by rw [E1.out]; rfl, HB3.out⟩

set_option maxHeartbeats 4000000 in
set_option maxRecDepth 100000 in
theorem wguess_one (g off cap bb boff bcap T E : Nat) (w : World) (hc1 : 2 ≤ cap) (hc2 : cap ≤ maxLen) (hc3 : 1 ≤ bcap) (hc4 : bcap ≤ maxLen)
    (hq : GQ w (.slice (some ⟨g, off, none⟩) 2 cap) (.slice (some ⟨bb, boff, none⟩) 1 bcap) T E) :
    Calls Tryz.prog 122 #[.slice (some ⟨g, off, none⟩) 2 cap, .slice (some ⟨bb, boff, none⟩) 1 bcap] w fun e w' => e = .returned (.int .u64 ((gsq T E : Nat) : Int)) ∧ Below w.heap.size w w' := by
  have HQ := Lib.hid hq
  clear hq
  unfold maxLen at hc2 hc4
  have hcm1 : ¬ cap = 0 := by omega
  have hcm2 : ¬ bcap = 0 := by omega
  go_enter Tryz.func122, Tryz.ntmps122
  go_wp2
  go_region_with (first
    | (go_at_call 38; refine Calls.mono (limbs_is _ _ _ _) ?_; rintro e w1 ⟨rfl, rfl⟩)
    | (go_at_call 90; refine Calls.mono (HQ.out _ ?_) ?_; (first | exact (Below.refl _ _) | exact (Below.refl _ _).drew); rintro e w2 ⟨vq, vr, rfl, hn, hb⟩; have HN := Lib.hid hn; have HB := Lib.hid (below_of (Below.refl w.heap.size w).drew hb); obtain ⟨aq, kq, cq, rfl⟩ := hn.nm.shape; clear hn hb))
  all_goals
    go_wp2_with fail
    refine (small_num HN.out).mono ?_
    rintro e w3 ⟨rfl, hb3⟩
    have HB3 := Lib.hid (below_of HB.out hb3)
    clear hb3
    by_cases hfit : T / E < B64
    · have e1 : smallV (T / E) = gsq T E := by unfold smallV gsq; rw [if_pos hfit, if_pos hfit]
      have e2 : smallB (T / E) = true := decide_eq_true hfit
      rw [e1, e2]
      clear e1 e2 hfit
      go_wp2
      go_ret
      exact ⟨rfl, HB3.out⟩
    · have E1 : Hid (((gsq T E : Nat) : Int) = 18446744073709551615) := Lib.hid (by unfold gsq B64; rw [if_neg (by unfold B64 at hfit; exact hfit)]; rfl)
      have e2 : smallB (T / E) = false := decide_eq_false hfit
      rw [e2]
      clear e2 hfit
      go_wp2
      go_ret
      exact ⟨by rw [E1.out]; rfl, HB3.out⟩

/-- the guess, whatever the lengths -/
theorem wguess_any (g off cap bb boff bcap n : Nat) (xs ys : List Nat) (w : World) (hx : Sl w .u64 (.slice (some ⟨g, off, none⟩) (n + 1) cap) xs) (hy : Sl w .u64 (.slice (some ⟨bb, boff, none⟩) n bcap) ys) (lx : Lim B64 xs) (ly : Lim B64 ys) (ty : Top ys) (hn : 0 < n) (hlt : val B64 xs < B64 * val B64 ys) :
    Calls Tryz.prog 122 #[.slice (some ⟨g, off, none⟩) (n + 1) cap, .slice (some ⟨bb, boff, none⟩) n bcap] w fun e w' => ∃ q : Nat, e = .returned (.int .u64 (q : Int)) ∧ q < B64 ∧ val B64 xs / val B64 ys ≤ q ∧ q ≤ val B64 xs / val B64 ys + 1 ∧ Below w.heap.size w w' := by
  obtain ⟨px1, px2, px3, px4⟩ := hx.parts
  obtain ⟨py1, py2, py3, py4⟩ := hy.parts
  by_cases h1 : n = 1
  · subst h1
    have hv0 : 0 < val B64 ys := Nat.pos_of_ne_zero (fun e => by rw [e] at hlt; omega)
    have G := gsq_ok (M := 1) (P := val B64 xs) (D := val B64 ys) (T := val B64 xs) (E := val B64 ys) (Pl := 0) (Dl := 0) (by omega) (by omega) (by omega) (by omega) (.inr rfl) hv0 hlt
    refine (wguess_one g off cap bb boff bcap (val B64 xs) (val B64 ys) w px2 px3 py2 py3 (gq_of hx hy lx ly (by omega) (by omega) hv0)).mono ?_
    rintro e w' ⟨rfl, hb⟩
    exact ⟨_, rfl, gsq_lt _ _, G.1, G.2, hb⟩
  · obtain ⟨m, rfl⟩ : ∃ m, n = m + 2 := ⟨n - 2, by omega⟩
    have hx2 := hx.dropm (m := m) (by omega)
    have hy2 := hy.dropm (m := m) (by omega)
    rw [show m + 2 + 1 - m = 3 by omega] at hx2
    rw [show m + 2 - m = 2 by omega] at hy2
    have sx := val_split B64 xs m (by omega)
    have sy := val_split B64 ys m (by omega)
    have bx := val_lt (lim_take (by have := B64_pos; omega) lx m)
    have by' := val_lt (lim_take (by have := B64_pos; omega) ly m)
    rw [List.length_take, Nat.min_eq_left (by omega)] at bx by'
    have ht := tlen_top ys (by rw [ty]; omega)
    rw [ty, py1, show m + 2 - 1 = m + 1 by omega] at ht
    have hE : B64 ≤ val B64 (ys.drop m) := by
      have e1 := val_drop B64 ys m (by omega)
      have e2 := val_drop B64 ys (m + 1) (by omega)
      have e3 : B64 * 1 ≤ B64 * val B64 (ys.drop (m + 1)) := Nat.mul_le_mul_left _ (by omega)
      omega
    have G := gsq_ok (M := B64 ^ m) (P := val B64 xs) (D := val B64 ys) (T := val B64 (xs.drop m)) (E := val B64 (ys.drop m)) (by rw [sx, Nat.mul_comm]; omega) bx (by rw [sy, Nat.mul_comm]; omega) by' (.inl hE) (by have := B64_pos; omega) hlt
    refine (wguess_two g off cap bb boff bcap m _ _ w px2 px3 py2 py3 (by omega) (gq_of hx2 hy2 (lim_drop lx m) (lim_drop ly m) (by rw [List.length_drop]; omega) (by rw [List.length_drop]; omega) (by have := B64_pos; omega))).mono ?_
    rintro e w' ⟨rfl, hb⟩
    exact ⟨_, rfl, gsq_lt _ _, G.1, G.2, hb⟩
end Go.Proofs.YtfdilnfmcpbkgaaGreatDoor
