/- Package whole: quo of any two amounts. -/
import Derived.Test.YtfdilnfmcpbkgaaGreatDoorHD
import Derived.Test.YtfdilnfmcpbkgaaGreatDoorZ3
set_option linter.unusedVariables false
set_option linter.unusedSimpArgs false
namespace Go.Proofs.YtfdilnfmcpbkgaaGreatDoor
open Go.RowKit Mth

set_option maxHeartbeats 4000000 in
set_option maxRecDepth 100000 in
theorem quo_full (u v : Value) (m n : Nat) (w : World) (h1 : Num w u m) (h2 : Num w v n) (h0 : n ≠ 0) (hm : m < HugeN) (hn : n < HugeN) : QuoOk w u v m n := by
  by_cases hs : m < Big ∧ n < Big
  · exact quo_short u v m n w h1 h2 hs.1 hs.2 h0
  unfold QuoOk
  have N1 := Lib.hid h1; have N2 := Lib.hid h2
  obtain ⟨xs, s1, l1, t1, rfl⟩ := h1
  obtain ⟨ys, s2, l2, t2, rfl⟩ := h2
  have x1 : xs.length ≤ 4000001 := by
    have := len_huge (m := 1) t1 (by omega) (by omega)
    unfold Lm at this; omega
  have y0 : 0 < ys.length := Nat.pos_of_ne_zero (fun e => h0 (by rw [List.eq_nil_of_length_eq_zero e]; rfl))
  have CMP := Lib.hid (fun c => wcmp_any u v (val B64 xs) (val B64 ys) w N1.out N2.out c)
  have FR : Hid (∀ w1, Below w.heap.size w w1 → Calls Tryz.prog 71 #[u] w1 fun e w' => ∃ v', e = .returned v' ∧ Ow w' w1.heap.size v' (val B64 xs) ∧ Below w1.heap.size w1 w') := Lib.hid (fun w1 hb => (wfresh_any u xs w1 (s1.below hb) l1 t1).mono fun e w' ⟨v', h1, h2, _, h3⟩ => ⟨v', h1, h2, h3⟩)
  have HAND : Hid (¬ val B64 xs < val B64 ys → ∀ w1, Below w.heap.size w w1 → Calls Tryz.prog 91 #[u, v] w1 fun e w' => ∃ q r, e = .returned (.tuple #[q, r]) ∧ Ow w' w1.heap.size q (val B64 xs / val B64 ys) ∧ Ow w' w1.heap.size r (val B64 xs % val B64 ys) ∧ Below w1.heap.size w1 w') := Lib.hid (fun hge w1 hb => by
    have hl : ys.length ≤ xs.length := by
      rcases Nat.lt_or_ge xs.length ys.length with h | h
      · have e1 := val_ge_top (B := B64) t2 y0
        have e2 := val_lt l1
        have e3 : B64 ^ xs.length ≤ B64 ^ (ys.length - 1) := pow_mono' (by omega)
        omega
      · exact h
    exact byHand_any u v xs ys (xs.length - ys.length) ys.length w1 (s1.below hb) (s2.below hb) l1 l2 t1 t2 y0 rfl (by omega) (by omega))
  obtain ⟨a1, c1, rfl⟩ := s1.shape
  obtain ⟨a2, c2, rfl⟩ := s2.shape
  have L1 := num_long N1.out
  have L2 := num_long N2.out
  clear s1 s2 l1 l2 t1 t2 h0 hm hn
  generalize val B64 xs = m at *
  generalize val B64 ys = n at *
  generalize xs.length = k1 at *
  generalize ys.length = k2 at *
  by_cases hlt : m < n
  · have LT := Lib.hid hlt
    have CL := Lib.hid (CMP.out (-1) (by unfold cmp3; rw [if_pos hlt]))
    have hd2 : decide ((4096 : Int) < (k2 : Int)) = true := decide_eq_true (by have := L2.2; omega)
    by_cases ha : Big ≤ m
    · have hd1 : decide ((4096 : Int) < (k1 : Int)) = true := decide_eq_true (by have := L1.2 ha; omega)
      clear ha hlt hs L1 L2
      go_enter Tryz.func70, Tryz.ntmps70
      go_wp2_with (first | (go_at_call 23; refine (long_is _ _ _ _).mono ?_; rintro e w' ⟨rfl, rfl⟩))
      refine (CL.out).mono ?_
      rintro e w2 ⟨rfl, hb2⟩
      have F2 := Lib.hid (FR.out w2 hb2)
      have B2 := Lib.hid hb2
      clear hb2
      go_wp2_with fail
      refine F2.out.mono ?_
      rintro e w3 ⟨v3, rfl, o3, hb3⟩
      obtain ⟨a3, k3, c3, rfl⟩ := o3.shape
      have O3 := Lib.hid (o3.mono B2.out.size); have B3 := Lib.hid (below_of B2.out hb3)
      clear o3 hb3
      go_wp2
      go_ret2
      exact ⟨_, _, rfl, by rw [Nat.div_eq_of_lt LT.out]; exact ow_nil _ _, by rw [Nat.mod_eq_of_lt LT.out]; exact O3.out, B3.out⟩
    · have hd1 : decide ((4096 : Int) < (k1 : Int)) = false := decide_eq_false (by have := L1.1; omega)
      clear ha hlt hs L1 L2
      go_enter Tryz.func70, Tryz.ntmps70
      go_wp2_with (first | (go_at_call 23; refine (long_is _ _ _ _).mono ?_; rintro e w' ⟨rfl, rfl⟩))
      refine (CL.out).mono ?_
      rintro e w2 ⟨rfl, hb2⟩
      have F2 := Lib.hid (FR.out w2 hb2)
      have B2 := Lib.hid hb2
      clear hb2
      go_wp2_with fail
      refine F2.out.mono ?_
      rintro e w3 ⟨v3, rfl, o3, hb3⟩
      obtain ⟨a3, k3, c3, rfl⟩ := o3.shape
      have O3 := Lib.hid (o3.mono B2.out.size); have B3 := Lib.hid (below_of B2.out hb3)
      clear o3 hb3
      go_wp2
      go_ret2
      exact ⟨_, _, rfl, by rw [Nat.div_eq_of_lt LT.out]; exact ow_nil _ _, by rw [Nat.mod_eq_of_lt LT.out]; exact O3.out, B3.out⟩
  · have HH := Lib.hid (HAND.out hlt)
    obtain ⟨c, hc⟩ : ∃ c, cmp3 m n = c := ⟨_, rfl⟩
    have CL := Lib.hid (CMP.out c hc)
    have hd3 : decide (c < 0) = false := decide_eq_false (by rw [← hc]; unfold cmp3; rw [if_neg hlt]; split <;> omega)
    have hd1 : decide ((4096 : Int) < (k1 : Int)) = true := decide_eq_true (by have := L1.2; omega)
    clear hc hlt hs L1 L2
    go_enter Tryz.func70, Tryz.ntmps70
    go_wp2_with (first | (go_at_call 23; refine (long_is _ _ _ _).mono ?_; rintro e w' ⟨rfl, rfl⟩))
    refine (CL.out).mono ?_
    rintro e w2 ⟨rfl, hb2⟩
    have F2 := Lib.hid (HH.out w2 hb2)
    have B2 := Lib.hid hb2
    clear hb2
    go_wp2_with fail
    refine F2.out.mono ?_
    rintro e w3 ⟨q, r, rfl, oq, orr, hb3⟩
    have OQ := Lib.hid (oq.mono B2.out.size); have OR := Lib.hid (orr.mono B2.out.size); have B3 := Lib.hid (below_of B2.out hb3)
    clear oq orr hb3
    go_wp2
    go_ret2
    exact ⟨_, _, rfl, OQ.out, OR.out, B3.out⟩
end Go.Proofs.YtfdilnfmcpbkgaaGreatDoor
