/- BitsHolds: the walk (gen9r.py). -/
import Derived.Test.YtccofiakblmkhaaGreatE99RF
import Derived.Test.YtccofiakblmkhaaGreatE99RG
import Derived.Test.YtccofiakblmkhaaGreatE9N7
import Derived.Test.YtccofiakblmkhaaGreatE9N5
import Derived.Test.YtccofiakblmkhaaGreatE9N8
set_option linter.unusedVariables false
set_option linter.unusedSimpArgs false
namespace Go.Proofs.YtccofiakblmkhaaGreat
open Go.RowKit Mth

set_option maxHeartbeats 8000000 in
set_option maxRecDepth 100000 in
theorem holds9_core (op : Int) (v0 v1 : Value) (x y : Int) (xs ys : List Nat) (b : Bool) (er : Int) (w : World) (s0 : BvA w v0 x xs) (s1 : BvA w v1 y ys)
    (H1 : ∀ w1, Below w.heap.size w w1 → Calls Tryz.prog 27 #[.int .i64 op, v0, v1] w1 fun e w' => e = .returned (.tuple #[.bool b, .int .i64 er]) ∧ Below w1.heap.size w1 w')
    (H2 : ∀ w1, Below w.heap.size w w1 → Calls Tryz.prog 28 #[.int .i64 op, v0, v1] w1 fun e w' => e = .returned (.tuple #[.bool b, .int .i64 er]) ∧ Below w1.heap.size w1 w') :
    Calls Tryz.prog 5 #[.int .i64 op, v0, v1] w fun e w' => e = .returned (.bool true) ∧ Below w.heap.size w w' := by
  have J1 := Lib.hid H1; have J2 := Lib.hid H2
  have de : (er == er) = true := beq_self_eq_true er
  clear H1 H2
  obtain ⟨u1, rfl, t1, -, -⟩ := s0
  obtain ⟨u2, rfl, t2, -, -⟩ := s1
  obtain ⟨a1, c1, rfl⟩ := t1.shape
  obtain ⟨a2, c2, rfl⟩ := t2.shape
  generalize xs.length = k1 at *
  generalize ys.length = k2 at *
  obtain ⟨W, eW, g1, g2, bel, hsz⟩ := alloc2 w (Obj.cells #[.int .i64 x, .slice a1 k1 c1] 28) (Obj.cells #[.int .i64 y, .slice a2 k2 c2] 28)
  have G1 := Lib.hid g1; have G2 := Lib.hid g2; have BL := Lib.hid bel
  obtain ⟨p0, p1, -, -, _⟩ := blk2 g1
  obtain ⟨q0, q1, -, -, _⟩ := blk2 g2
  clear t1 t2 g1 g2 bel
  cases b
  all_goals
    go_enter Tryz.func5, Tryz.ntmps5
    go_wp2_with fail
    try rw [eW]
    refine (J1.out _ BL.out).mono ?_
    rintro e w2 ⟨rfl, hb⟩
    have B2 := Lib.hid (below_of BL.out hb)
    obtain ⟨p0', p1', -, -, _⟩ := blk2 (car hb G1.out)
    obtain ⟨q0', q1', -, -, _⟩ := blk2 (car hb G2.out)
    clear hb p0 p1 q0 q1
    go_wp2_with fail
    refine (J2.out _ B2.out).mono ?_
    rintro e w3 ⟨rfl, hb⟩
    have B3 := Lib.hid (below_of B2.out hb)
    clear hb p0' p1' q0' q1'
    go_wp2_with fail
    refine (alive9 _).mono ?_
    rintro e w4 ⟨rfl, hb⟩
    have B4 := Lib.hid (below_of B3.out hb)
    clear hb
    go_wp2
    go_ret
    exact ⟨rfl, B4.out⟩
theorem holds9_walk (op : Int) (v0 v1 : Value) (x y : Int) (xs ys : List Nat) (w : World) (s0 : BvA w v0 x xs) (s1 : BvA w v1 y ys) :
    Calls Tryz.prog 5 #[.int .i64 op, v0, v1] w fun e w' => e = .returned (.bool true) ∧ Below w.heap.size w w' := by
  by_cases hop : op < 68 ∨ 75 < op
  · refine holds9_core op v0 v1 x y xs ys false 50 w s0 s1 (fun w1 hw => ?_) (fun w1 hw => ?_)
    · obtain ⟨u1, rfl, t1, -, -⟩ := s0
      obtain ⟨u2, rfl, t2, -, -⟩ := s1
      obtain ⟨a1, c1, rfl⟩ := t1.shape
      obtain ⟨a2, c2, rfl⟩ := t2.shape
      exact holds_none op hop x y a1 a2 _ c1 _ c2 w1
    · exact rholds_err op v0 v1 x y xs ys 50 (by omega) w1 (s0.below hw) (s1.below hw) (fun w2 av _ => (check_out op hop _ av w2).mono fun e w' ⟨he, hb⟩ => ⟨he, hb ▸ Below.refl _ _⟩)
  · have h1 : 68 ≤ op := by omega
    have h2 : op ≤ 75 := by omega
    cases hr : rightF x (val B64 xs)
    · have R := fun w1 (hw : Below w.heap.size w w1) => rholds_err op v0 v1 x y xs ys 90 (by omega) w1 (s0.below hw) (s1.below hw) (fun w2 av h => check_in op h1 h2 av x y xs ys 0 90 w2 h (Or.inl ⟨rfl, hr, rfl⟩))
      clear hop
      rcases (show op = 68 ∨ op = 69 ∨ op = 70 ∨ op = 71 ∨ op = 72 ∨ op = 73 ∨ op = 74 ∨ op = 75 by omega) with rfl | rfl | rfl | rfl | rfl | rfl | rfl | rfl
      · exact holds9_core 68 v0 v1 x y xs ys false 90 w s0 s1 (fun w1 hw => holds_a 68 (by omega) (ordNum 68) (ordHolds 68) (by kernel_rfl) (by kernel_rfl) v0 v1 x y xs ys hr w1 (s0.below hw) (s1.below hw)) R
      · exact holds9_core 69 v0 v1 x y xs ys false 90 w s0 s1 (fun w1 hw => holds_a 69 (by omega) (ordNum 69) (ordHolds 69) (by kernel_rfl) (by kernel_rfl) v0 v1 x y xs ys hr w1 (s0.below hw) (s1.below hw)) R
      · exact holds9_core 70 v0 v1 x y xs ys false 90 w s0 s1 (fun w1 hw => holds_a 70 (by omega) (ordNum 70) (ordHolds 70) (by kernel_rfl) (by kernel_rfl) v0 v1 x y xs ys hr w1 (s0.below hw) (s1.below hw)) R
      · exact holds9_core 71 v0 v1 x y xs ys false 90 w s0 s1 (fun w1 hw => holds_a 71 (by omega) (ordNum 71) (ordHolds 71) (by kernel_rfl) (by kernel_rfl) v0 v1 x y xs ys hr w1 (s0.below hw) (s1.below hw)) R
      · exact holds9_core 72 v0 v1 x y xs ys false 90 w s0 s1 (fun w1 hw => holds_a 72 (by omega) (ordNum 72) (ordHolds 72) (by kernel_rfl) (by kernel_rfl) v0 v1 x y xs ys hr w1 (s0.below hw) (s1.below hw)) R
      · exact holds9_core 73 v0 v1 x y xs ys false 90 w s0 s1 (fun w1 hw => holds_a 73 (by omega) (ordNum 73) (ordHolds 73) (by kernel_rfl) (by kernel_rfl) v0 v1 x y xs ys hr w1 (s0.below hw) (s1.below hw)) R
      · exact holds9_core 74 v0 v1 x y xs ys false 90 w s0 s1 (fun w1 hw => holds_a 74 (by omega) (ordNum 74) (ordHolds 74) (by kernel_rfl) (by kernel_rfl) v0 v1 x y xs ys hr w1 (s0.below hw) (s1.below hw)) R
      · exact holds9_core 75 v0 v1 x y xs ys false 90 w s0 s1 (fun w1 hw => holds_a 75 (by omega) (ordNum 75) (ordHolds 75) (by kernel_rfl) (by kernel_rfl) v0 v1 x y xs ys hr w1 (s0.below hw) (s1.below hw)) R
    · cases hs : rightF y (val B64 ys)
      · have R := fun w1 (hw : Below w.heap.size w w1) => rholds_err op v0 v1 x y xs ys 90 (by omega) w1 (s0.below hw) (s1.below hw) (fun w2 av h => check_in op h1 h2 av x y xs ys 1 90 w2 h (Or.inr (Or.inl ⟨rfl, hr, hs, rfl⟩)))
        clear hop
        rcases (show op = 68 ∨ op = 69 ∨ op = 70 ∨ op = 71 ∨ op = 72 ∨ op = 73 ∨ op = 74 ∨ op = 75 by omega) with rfl | rfl | rfl | rfl | rfl | rfl | rfl | rfl
        · exact holds9_core 68 v0 v1 x y xs ys false 90 w s0 s1 (fun w1 hw => holds_b 68 (by omega) (ordNum 68) (ordHolds 68) (by kernel_rfl) (by kernel_rfl) v0 v1 x y xs ys hr hs w1 (s0.below hw) (s1.below hw)) R
        · exact holds9_core 69 v0 v1 x y xs ys false 90 w s0 s1 (fun w1 hw => holds_b 69 (by omega) (ordNum 69) (ordHolds 69) (by kernel_rfl) (by kernel_rfl) v0 v1 x y xs ys hr hs w1 (s0.below hw) (s1.below hw)) R
        · exact holds9_core 70 v0 v1 x y xs ys false 90 w s0 s1 (fun w1 hw => holds_b 70 (by omega) (ordNum 70) (ordHolds 70) (by kernel_rfl) (by kernel_rfl) v0 v1 x y xs ys hr hs w1 (s0.below hw) (s1.below hw)) R
        · exact holds9_core 71 v0 v1 x y xs ys false 90 w s0 s1 (fun w1 hw => holds_b 71 (by omega) (ordNum 71) (ordHolds 71) (by kernel_rfl) (by kernel_rfl) v0 v1 x y xs ys hr hs w1 (s0.below hw) (s1.below hw)) R
        · exact holds9_core 72 v0 v1 x y xs ys false 90 w s0 s1 (fun w1 hw => holds_b 72 (by omega) (ordNum 72) (ordHolds 72) (by kernel_rfl) (by kernel_rfl) v0 v1 x y xs ys hr hs w1 (s0.below hw) (s1.below hw)) R
        · exact holds9_core 73 v0 v1 x y xs ys false 90 w s0 s1 (fun w1 hw => holds_b 73 (by omega) (ordNum 73) (ordHolds 73) (by kernel_rfl) (by kernel_rfl) v0 v1 x y xs ys hr hs w1 (s0.below hw) (s1.below hw)) R
        · exact holds9_core 74 v0 v1 x y xs ys false 90 w s0 s1 (fun w1 hw => holds_b 74 (by omega) (ordNum 74) (ordHolds 74) (by kernel_rfl) (by kernel_rfl) v0 v1 x y xs ys hr hs w1 (s0.below hw) (s1.below hw)) R
        · exact holds9_core 75 v0 v1 x y xs ys false 90 w s0 s1 (fun w1 hw => holds_b 75 (by omega) (ordNum 75) (ordHolds 75) (by kernel_rfl) (by kernel_rfl) v0 v1 x y xs ys hr hs w1 (s0.below hw) (s1.below hw)) R
      · by_cases hxy : x = y
        · subst hxy
          obtain ⟨wd, rfl, g1, g2, g3⟩ := right_nat hr
          have g3' : val B64 ys < 2 ^ wd := by
            obtain ⟨wd', e, -, -, g⟩ := right_nat hs
            obtain rfl : wd = wd' := by omega
            exact g
          have CK := fun w1 (av : Value) (h : BvLX w1 av [((wd : Int), xs), ((wd : Int), ys)]) => check_in op h1 h2 av wd wd xs ys 2 0 w1 h (Or.inr (Or.inr ⟨rfl, hr, hs, Or.inr ⟨rfl, rfl⟩⟩))
          clear hop
          rcases (show op = 68 ∨ op = 69 ∨ op = 70 ∨ op = 71 ∨ op = 72 ∨ op = 73 ∨ op = 74 ∨ op = 75 by omega) with rfl | rfl | rfl | rfl | rfl | rfl | rfl | rfl
          · exact holds9_core 68 v0 v1 _ _ xs ys _ 0 w s0 s1 (fun w1 hw => holds_ult v0 v1 wd _ _ g1 g2 g3 g3' w1 (s0.below hw).v (s1.below hw).v) (fun w1 hw => rholds_ult wd g1 g2 v0 v1 xs ys g3 g3' w1 (s0.below hw) (s1.below hw) CK)
          · exact holds9_core 69 v0 v1 _ _ xs ys _ 0 w s0 s1 (fun w1 hw => holds_ule v0 v1 wd _ _ g1 g2 g3 g3' w1 (s0.below hw).v (s1.below hw).v) (fun w1 hw => rholds_ule wd g1 g2 v0 v1 xs ys g3 g3' w1 (s0.below hw) (s1.below hw) CK)
          · exact holds9_core 70 v0 v1 _ _ xs ys _ 0 w s0 s1 (fun w1 hw => holds_ugt v0 v1 wd _ _ g1 g2 g3 g3' w1 (s0.below hw).v (s1.below hw).v) (fun w1 hw => rholds_ugt wd g1 g2 v0 v1 xs ys g3 g3' w1 (s0.below hw) (s1.below hw) CK)
          · exact holds9_core 71 v0 v1 _ _ xs ys _ 0 w s0 s1 (fun w1 hw => holds_uge v0 v1 wd _ _ g1 g2 g3 g3' w1 (s0.below hw).v (s1.below hw).v) (fun w1 hw => rholds_uge wd g1 g2 v0 v1 xs ys g3 g3' w1 (s0.below hw) (s1.below hw) CK)
          · exact holds9_core 72 v0 v1 _ _ xs ys _ 0 w s0 s1 (fun w1 hw => holds_slt v0 v1 wd _ _ g1 g2 g3 g3' w1 (s0.below hw).v (s1.below hw).v) (fun w1 hw => rholds_slt wd g1 g2 v0 v1 xs ys g3 g3' w1 (s0.below hw) (s1.below hw) CK)
          · exact holds9_core 73 v0 v1 _ _ xs ys _ 0 w s0 s1 (fun w1 hw => holds_sle v0 v1 wd _ _ g1 g2 g3 g3' w1 (s0.below hw).v (s1.below hw).v) (fun w1 hw => rholds_sle wd g1 g2 v0 v1 xs ys g3 g3' w1 (s0.below hw) (s1.below hw) CK)
          · exact holds9_core 74 v0 v1 _ _ xs ys _ 0 w s0 s1 (fun w1 hw => holds_sgt v0 v1 wd _ _ g1 g2 g3 g3' w1 (s0.below hw).v (s1.below hw).v) (fun w1 hw => rholds_sgt wd g1 g2 v0 v1 xs ys g3 g3' w1 (s0.below hw) (s1.below hw) CK)
          · exact holds9_core 75 v0 v1 _ _ xs ys _ 0 w s0 s1 (fun w1 hw => holds_sge v0 v1 wd _ _ g1 g2 g3 g3' w1 (s0.below hw).v (s1.below hw).v) (fun w1 hw => rholds_sge wd g1 g2 v0 v1 xs ys g3 g3' w1 (s0.below hw) (s1.below hw) CK)
        · have R := fun w1 (hw : Below w.heap.size w w1) => rholds_err op v0 v1 x y xs ys 52 (by omega) w1 (s0.below hw) (s1.below hw) (fun w2 av h => check_in op h1 h2 av x y xs ys 2 52 w2 h (Or.inr (Or.inr ⟨rfl, hr, hs, Or.inl ⟨hxy, rfl⟩⟩)))
          clear hop
          rcases (show op = 68 ∨ op = 69 ∨ op = 70 ∨ op = 71 ∨ op = 72 ∨ op = 73 ∨ op = 74 ∨ op = 75 by omega) with rfl | rfl | rfl | rfl | rfl | rfl | rfl | rfl
          · exact holds9_core 68 v0 v1 x y xs ys false 52 w s0 s1 (fun w1 hw => holds_w 68 (by omega) (ordNum 68) (ordHolds 68) (by kernel_rfl) (by kernel_rfl) v0 v1 x y xs ys hr hs hxy w1 (s0.below hw) (s1.below hw)) R
          · exact holds9_core 69 v0 v1 x y xs ys false 52 w s0 s1 (fun w1 hw => holds_w 69 (by omega) (ordNum 69) (ordHolds 69) (by kernel_rfl) (by kernel_rfl) v0 v1 x y xs ys hr hs hxy w1 (s0.below hw) (s1.below hw)) R
          · exact holds9_core 70 v0 v1 x y xs ys false 52 w s0 s1 (fun w1 hw => holds_w 70 (by omega) (ordNum 70) (ordHolds 70) (by kernel_rfl) (by kernel_rfl) v0 v1 x y xs ys hr hs hxy w1 (s0.below hw) (s1.below hw)) R
          · exact holds9_core 71 v0 v1 x y xs ys false 52 w s0 s1 (fun w1 hw => holds_w 71 (by omega) (ordNum 71) (ordHolds 71) (by kernel_rfl) (by kernel_rfl) v0 v1 x y xs ys hr hs hxy w1 (s0.below hw) (s1.below hw)) R
          · exact holds9_core 72 v0 v1 x y xs ys false 52 w s0 s1 (fun w1 hw => holds_w 72 (by omega) (ordNum 72) (ordHolds 72) (by kernel_rfl) (by kernel_rfl) v0 v1 x y xs ys hr hs hxy w1 (s0.below hw) (s1.below hw)) R
          · exact holds9_core 73 v0 v1 x y xs ys false 52 w s0 s1 (fun w1 hw => holds_w 73 (by omega) (ordNum 73) (ordHolds 73) (by kernel_rfl) (by kernel_rfl) v0 v1 x y xs ys hr hs hxy w1 (s0.below hw) (s1.below hw)) R
          · exact holds9_core 74 v0 v1 x y xs ys false 52 w s0 s1 (fun w1 hw => holds_w 74 (by omega) (ordNum 74) (ordHolds 74) (by kernel_rfl) (by kernel_rfl) v0 v1 x y xs ys hr hs hxy w1 (s0.below hw) (s1.below hw)) R
          · exact holds9_core 75 v0 v1 x y xs ys false 52 w s0 s1 (fun w1 hw => holds_w 75 (by omega) (ordNum 75) (ordHolds 75) (by kernel_rfl) (by kernel_rfl) v0 v1 x y xs ys hr hs hxy w1 (s0.below hw) (s1.below hw)) R
end Go.Proofs.YtccofiakblmkhaaGreat
