/- BitsOrders: the walk. -/
import Derived.Test.YtccofiakblmkhaaGreatC99LD
import Derived.Test.YtccofiakblmkhaaGreatC99LE
import Derived.Test.YtccofiakblmkhaaGreatC9N8
import Derived.Test.YtccofiakblmkhaaGreatC9N5
set_option linter.unusedVariables false
set_option linter.unusedSimpArgs false
namespace Go.Proofs.YtccofiakblmkhaaGreat
open Go.RowKit Mth

theorem sgV_inj {wd m n : Nat} (hm : m < 2 ^ wd) (hn : n < 2 ^ wd) (h : sgV wd m = sgV wd n) : m = n := by
  unfold sgV at h
  split at h <;> split at h <;> omega
theorem vec1 {n : Nat} (h : n < 2) : vecN 1 (n : Int) = n := by rw [vec_nat]; exact Nat.mod_eq_of_lt h
theorem comp_len {w : World} {base m n : Nat} {v : Value} (h : BvO w base v 1 (vecN 1 (compZ m n))) : ∃ a c, v = .agg #[.int .i64 1, .slice a (if m = n then 1 else 0) c] := by
  obtain ⟨u, rfl, ho⟩ := h
  obtain ⟨xs, s, l, t, e⟩ := ho.sl
  obtain ⟨a, c, rfl⟩ := s.shape
  refine ⟨a, c, ?_⟩
  have hl : xs.length = if m = n then 1 else 0 := by
    unfold compZ at e
    split at e <;> rename_i hmn
    · rw [show (1 : Int) = ((1 : Nat) : Int) from rfl, vec1 (by omega)] at e
      have : xs = [1] := top_uniq B64_pos l (fun j => by
        match j with
        | 0 => show 1 < B64; unfold B64; omega
        | j + 1 => show 0 < B64; unfold B64; omega) t (by unfold Top; decide) (by rw [e]; simp [val])
      rw [this, if_pos hmn]; rfl
    · rw [show (0 : Int) = ((0 : Nat) : Int) from rfl, vec1 (by omega)] at e
      have : xs = [] := top_uniq B64_pos l (lim_nil (by have := B64_pos; omega)) t rfl (by rw [e]; rfl)
      rw [this, if_neg hmn]; rfl
  rw [hl]
  rfl
theorem orders9_walk (v0 v1 : Value) (x y : Int) (xs ys : List Nat) (w : World) (s0 : BvA w v0 x xs) (s1 : BvA w v1 y ys) :
    Calls Tryz.prog 10 #[v0, v1] w fun e w' => e = .returned (.bool true) ∧ Below w.heap.size w w' := by
  cases hr : rightF x (val B64 xs)
  · refine orders_f90 v0 v1 x y xs ys w s0 s1 (fun w1 hw => holds_a 68 (by omega) (ordNum 68) (ordHolds 68) (by kernel_rfl) (by kernel_rfl) v0 v1 x y xs ys hr w1 (s0.below hw) (s1.below hw)) (fun w1 hw => holds_a 69 (by omega) (ordNum 69) (ordHolds 69) (by kernel_rfl) (by kernel_rfl) v0 v1 x y xs ys hr w1 (s0.below hw) (s1.below hw)) (fun w1 hw => holds_a 70 (by omega) (ordNum 70) (ordHolds 70) (by kernel_rfl) (by kernel_rfl) v0 v1 x y xs ys hr w1 (s0.below hw) (s1.below hw)) (fun w1 hw => holds_a 71 (by omega) (ordNum 71) (ordHolds 71) (by kernel_rfl) (by kernel_rfl) v0 v1 x y xs ys hr w1 (s0.below hw) (s1.below hw)) (fun w1 hw => holds_a 72 (by omega) (ordNum 72) (ordHolds 72) (by kernel_rfl) (by kernel_rfl) v0 v1 x y xs ys hr w1 (s0.below hw) (s1.below hw)) (fun w1 hw => holds_a 74 (by omega) (ordNum 74) (ordHolds 74) (by kernel_rfl) (by kernel_rfl) v0 v1 x y xs ys hr w1 (s0.below hw) (s1.below hw)) (fun w1 hw => holds_a 73 (by omega) (ordNum 73) (ordHolds 73) (by kernel_rfl) (by kernel_rfl) v0 v1 x y xs ys hr w1 (s0.below hw) (s1.below hw)) (fun w1 hw => holds_a 75 (by omega) (ordNum 75) (ordHolds 75) (by kernel_rfl) (by kernel_rfl) v0 v1 x y xs ys hr w1 (s0.below hw) (s1.below hw)) ?_
    exact fun w1 av hw h => apply_comp90 _ av _ w1 ⟨_, _, _, rfl⟩ h rfl (fun hh => by
      have := hh (x, xs) (by simp)
      rw [show rightX (x, xs) = rightF x (val B64 xs) from rfl, hr] at this
      cases this)
  · cases hs : rightF y (val B64 ys)
    · refine orders_f90 v0 v1 x y xs ys w s0 s1 (fun w1 hw => holds_b 68 (by omega) (ordNum 68) (ordHolds 68) (by kernel_rfl) (by kernel_rfl) v0 v1 x y xs ys hr hs w1 (s0.below hw) (s1.below hw)) (fun w1 hw => holds_b 69 (by omega) (ordNum 69) (ordHolds 69) (by kernel_rfl) (by kernel_rfl) v0 v1 x y xs ys hr hs w1 (s0.below hw) (s1.below hw)) (fun w1 hw => holds_b 70 (by omega) (ordNum 70) (ordHolds 70) (by kernel_rfl) (by kernel_rfl) v0 v1 x y xs ys hr hs w1 (s0.below hw) (s1.below hw)) (fun w1 hw => holds_b 71 (by omega) (ordNum 71) (ordHolds 71) (by kernel_rfl) (by kernel_rfl) v0 v1 x y xs ys hr hs w1 (s0.below hw) (s1.below hw)) (fun w1 hw => holds_b 72 (by omega) (ordNum 72) (ordHolds 72) (by kernel_rfl) (by kernel_rfl) v0 v1 x y xs ys hr hs w1 (s0.below hw) (s1.below hw)) (fun w1 hw => holds_b 74 (by omega) (ordNum 74) (ordHolds 74) (by kernel_rfl) (by kernel_rfl) v0 v1 x y xs ys hr hs w1 (s0.below hw) (s1.below hw)) (fun w1 hw => holds_b 73 (by omega) (ordNum 73) (ordHolds 73) (by kernel_rfl) (by kernel_rfl) v0 v1 x y xs ys hr hs w1 (s0.below hw) (s1.below hw)) (fun w1 hw => holds_b 75 (by omega) (ordNum 75) (ordHolds 75) (by kernel_rfl) (by kernel_rfl) v0 v1 x y xs ys hr hs w1 (s0.below hw) (s1.below hw)) ?_
      exact fun w1 av hw h => apply_comp90 _ av _ w1 ⟨_, _, _, rfl⟩ h rfl (fun hh => by
        have := hh (y, ys) (by simp)
        rw [show rightX (y, ys) = rightF y (val B64 ys) from rfl, hs] at this
        cases this)
    · have hall : ∀ p ∈ [(x, xs), (y, ys)], rightX p = true := fun p hp => by
        simp only [List.mem_cons, List.not_mem_nil, or_false] at hp
        rcases hp with rfl | rfl
        · exact hr
        · exact hs
      obtain ⟨wd, rfl, h1, h2, h3⟩ := right_nat hr
      obtain ⟨wd', rfl, h1', h2', h3'⟩ := right_nat hs
      by_cases hne : wd = wd'
      · subst hne
        have HB : ∀ w1 av, BvLX w1 av [((wd : Int), xs), ((wd : Int), ys)] → BvL w1 av [(wd, val B64 xs), (wd, val B64 ys)] := fun w1 av h => (h.fine hall).1
        have hz := @sgV_inj wd _ _ h3 h3'
        have hzz : val B64 xs = val B64 ys → sgV wd (val B64 xs) = sgV wd (val B64 ys) := fun e => by rw [e]
        have A := s0.v
        have B := s1.v
        have HC : ∀ w1 av, Below w.heap.size w w1 → BvLX w1 av [((wd : Int), xs), ((wd : Int), ys)] → Calls Tryz.prog 25 #[.int .i64 51, .slice none 0 0, av] w1 fun e w' => ∃ a c, e = .returned (.tuple #[.agg #[.int .i64 1, .slice a (if val B64 xs = val B64 ys then 1 else 0) c], .int .i64 0]) ∧ Below w1.heap.size w1 w' := fun w1 av hw h =>
          (apply_comp _ av wd _ _ h1 h2 h3 h3' w1 ⟨_, _, _, rfl⟩ (HB w1 av h)).mono fun e w' ⟨v', he, ho, hb⟩ => by
            obtain ⟨a, c, rfl⟩ := comp_len ho
            exact ⟨a, c, he, hb⟩
        have K0 := fun w1 (hw : Below w.heap.size w w1) => holds_ult v0 v1 wd _ _ h1 h2 h3 h3' w1 (A.below hw) (B.below hw)
        have K1 := fun w1 (hw : Below w.heap.size w w1) => holds_ule v0 v1 wd _ _ h1 h2 h3 h3' w1 (A.below hw) (B.below hw)
        have K2 := fun w1 (hw : Below w.heap.size w w1) => holds_ugt v0 v1 wd _ _ h1 h2 h3 h3' w1 (A.below hw) (B.below hw)
        have K3 := fun w1 (hw : Below w.heap.size w w1) => holds_uge v0 v1 wd _ _ h1 h2 h3 h3' w1 (A.below hw) (B.below hw)
        have K4 := fun w1 (hw : Below w.heap.size w w1) => holds_slt v0 v1 wd _ _ h1 h2 h3 h3' w1 (A.below hw) (B.below hw)
        have K5 := fun w1 (hw : Below w.heap.size w w1) => holds_sgt v0 v1 wd _ _ h1 h2 h3 h3' w1 (A.below hw) (B.below hw)
        have K6 := fun w1 (hw : Below w.heap.size w w1) => holds_sle v0 v1 wd _ _ h1 h2 h3 h3' w1 (A.below hw) (B.below hw)
        have K7 := fun w1 (hw : Below w.heap.size w w1) => holds_sge v0 v1 wd _ _ h1 h2 h3 h3' w1 (A.below hw) (B.below hw)
        have K8 := fun w1 (hw : Below w.heap.size w w1) => holds_ult v1 v0 wd _ _ h1 h2 h3' h3 w1 (B.below hw) (A.below hw)
        generalize sgV wd (val B64 xs) = sm at *
        generalize sgV wd (val B64 ys) = sn at *
        generalize hm : val B64 xs = m at *
        generalize hn : val B64 ys = n at *
        rcases Nat.lt_trichotomy m n with hu | hu | hu
        · rw [if_neg (by omega)] at HC
          rw [decide_eq_true (by omega)] at K0 K1; rw [decide_eq_false (by omega)] at K2 K3 K8
          rcases Int.lt_trichotomy sm sn with ht | ht | ht
          · rw [decide_eq_true (by omega)] at K4 K6; rw [decide_eq_false (by omega)] at K5 K7
            exact orders_ll v0 v1 _ _ xs ys w s0 s1 K0 K1 K2 K3 K4 K5 K6 K7 K8 HC
          · exact absurd (hz ht) (by omega)
          · rw [decide_eq_false (by omega)] at K4 K6; rw [decide_eq_true (by omega)] at K5 K7
            exact orders_lg v0 v1 _ _ xs ys w s0 s1 K0 K1 K2 K3 K4 K5 K6 K7 K8 HC
        · rw [if_pos hu] at HC
          rw [decide_eq_false (by omega)] at K0 K2 K8; rw [decide_eq_true (by omega)] at K1 K3
          have ht : sm = sn := hzz hu
          subst ht
          rw [decide_eq_false (by omega)] at K4 K5; rw [decide_eq_true (by omega)] at K6 K7
          exact orders_ee v0 v1 _ _ xs ys w s0 s1 K0 K1 K2 K3 K4 K5 K6 K7 K8 HC
        · rw [if_neg (by omega)] at HC
          rw [decide_eq_false (by omega)] at K0 K1; rw [decide_eq_true (by omega)] at K2 K3 K8
          rcases Int.lt_trichotomy sm sn with ht | ht | ht
          · rw [decide_eq_true (by omega)] at K4 K6; rw [decide_eq_false (by omega)] at K5 K7
            exact orders_gl v0 v1 _ _ xs ys w s0 s1 K0 K1 K2 K3 K4 K5 K6 K7 K8 HC
          · exact absurd (hz ht) (by omega)
          · rw [decide_eq_false (by omega)] at K4 K6; rw [decide_eq_true (by omega)] at K5 K7
            exact orders_gg v0 v1 _ _ xs ys w s0 s1 K0 K1 K2 K3 K4 K5 K6 K7 K8 HC
      · have hne' : (wd : Int) ≠ (wd' : Int) := by omega
        refine orders_f52 v0 v1 _ _ xs ys w s0 s1 (fun w1 hw => holds_w 68 (by omega) (ordNum 68) (ordHolds 68) (by kernel_rfl) (by kernel_rfl) v0 v1 _ _ xs ys hr hs hne' w1 (s0.below hw) (s1.below hw)) (fun w1 hw => holds_w 69 (by omega) (ordNum 69) (ordHolds 69) (by kernel_rfl) (by kernel_rfl) v0 v1 _ _ xs ys hr hs hne' w1 (s0.below hw) (s1.below hw)) (fun w1 hw => holds_w 70 (by omega) (ordNum 70) (ordHolds 70) (by kernel_rfl) (by kernel_rfl) v0 v1 _ _ xs ys hr hs hne' w1 (s0.below hw) (s1.below hw)) (fun w1 hw => holds_w 71 (by omega) (ordNum 71) (ordHolds 71) (by kernel_rfl) (by kernel_rfl) v0 v1 _ _ xs ys hr hs hne' w1 (s0.below hw) (s1.below hw)) (fun w1 hw => holds_w 72 (by omega) (ordNum 72) (ordHolds 72) (by kernel_rfl) (by kernel_rfl) v0 v1 _ _ xs ys hr hs hne' w1 (s0.below hw) (s1.below hw)) (fun w1 hw => holds_w 74 (by omega) (ordNum 74) (ordHolds 74) (by kernel_rfl) (by kernel_rfl) v0 v1 _ _ xs ys hr hs hne' w1 (s0.below hw) (s1.below hw)) (fun w1 hw => holds_w 73 (by omega) (ordNum 73) (ordHolds 73) (by kernel_rfl) (by kernel_rfl) v0 v1 _ _ xs ys hr hs hne' w1 (s0.below hw) (s1.below hw)) (fun w1 hw => holds_w 75 (by omega) (ordNum 75) (ordHolds 75) (by kernel_rfl) (by kernel_rfl) v0 v1 _ _ xs ys hr hs hne' w1 (s0.below hw) (s1.below hw)) ?_
        exact fun w1 av hw h => apply_comp52 _ av wd wd' _ _ hne w1 ⟨_, _, _, rfl⟩ (h.fine hall).1 (h.fine hall).2
end Go.Proofs.YtccofiakblmkhaaGreat
