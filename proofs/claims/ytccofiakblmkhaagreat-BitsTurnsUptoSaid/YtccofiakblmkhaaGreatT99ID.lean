/- bits: fault of any operator: 9ID (gen9h.py). -/
import Derived.Test.YtccofiakblmkhaaGreatT9N3
set_option linter.unusedVariables false
set_option linter.unusedSimpArgs false
namespace Go.Proofs.YtccofiakblmkhaaGreat
open Go.RowKit Mth

set_option maxHeartbeats 8000000 in
set_option maxRecDepth 100000 in
theorem fault_n_0m (n : Int) (d : Value) (f : Nat) (hd : d.oneCell' = true) (pv av : Value) (w : World) (hpv : ∃ po pn pc, pv = .slice po pn pc) (ao : Option Addr) (ak ac : Nat) (hav : av = .slice ao ak ac) (hne : (ak : Int) = n) (hR : ∀ w1, Below w.heap.size w w1 → Calls Tryz.prog 82 #[av] w1 fun e w' => e = .returned (.bool true) ∧ Below w1.heap.size w1 w') (x : Int) (hx : isW x = true) (hW : ∀ w1, Below w.heap.size w w1 → Calls Tryz.prog 50 #[.agg #[.int .i64 n, .nilFunc, .bool true, d, .func (.func f) #[] #[]], .agg #[pv, av]] w1 fun e w' => e = .returned (.int .i64 x) ∧ Below w1.heap.size w1 w') :
    Calls Tryz.prog 49 #[.agg #[.int .i64 n, .nilFunc, .bool true, d, .func (.func f) #[] #[]], .agg #[pv, av]] w fun e w' => e = .returned (.int .i64 0) ∧ Below w.heap.size w w' := by
  obtain ⟨po, pn, pc, rfl⟩ := hpv
  subst hav
  obtain ⟨W, eW, g1, g2, bel, hsz⟩ := alloc2 w (Obj.cells #[.int .i64 n, .nilFunc, .bool true, d, .func (.func f) #[] #[]] 88) (Obj.cells #[.slice po pn pc, .slice ao ak ac] 92)
  have G1 := Lib.hid g1; have G2 := Lib.hid g2; have BL := Lib.hid bel
  obtain ⟨c0, c1, c2, c3, c4⟩ := blk5o g1
  obtain ⟨q0, q1, r0, r1, _⟩ := blk2 g2
  subst hne
  have d1 : ((ak : Int) != (ak : Int)) = false := bne_self_eq_false _
  have HR : Hid (∀ w1, Below W.heap.size W w1 → _) := Lib.hid (fun w1 h => hR w1 (below_of bel h))
  have HW : Hid (∀ w1, Below W.heap.size W w1 → _) := Lib.hid (fun w1 h => hW w1 (below_of bel h))
  have IW : Hid (∀ w1, Calls Tryz.prog 35 #[.int .i64 x] w1 fun e w' => e = .returned (.bool true) ∧ w' = w1) := Lib.hid (fun w1 => by
    have h := isWidth_any x w1
    rw [hx] at h
    exact h)
  have hbn : ∀ W, Sem.run Tryz.prog (binOp BinOp.neq 84 Value.nilFunc Value.nilFunc) W = .ok (.bool false) W := fun W => by kernel_rfl
  have hfl := field0_bits
  clear g1 g2 bel hR hW hx
  go_enter Tryz.func49, Tryz.ntmps49
  go_wp2_with fail
  try rw [eW]
  refine (HR.out _ (Below.refl _ _)).mono ?_
  rintro e u1 ⟨rfl, hb⟩
  have B1 := Lib.hid (below_of (Below.refl _ _) hb)
  have GA1 := Lib.hid (car hb G1.out); have GB1 := Lib.hid (car hb G2.out)
  clear c0 c1 c2 c3 c4 q0 q1 r0 r1
  obtain ⟨x10, x11, x12, x13, x14⟩ := blk5o GA1.out
  obtain ⟨y10, y11, -, -, _⟩ := blk2 GB1.out
  clear hb
  go_wp2_with fail
  go_region_with fail
  all_goals
    go_wp2_with fail
    refine (HW.out _ (by first | exact B1.out | exact B1.out.drew | exact B1.out.drew.drew)).mono ?_
    rintro e w5 ⟨rfl, hb5⟩
    have B5 := Lib.hid (below_of BL.out (below_of (by first | exact B1.out | exact B1.out.drew | exact B1.out.drew.drew) hb5))
    clear hb5
    go_wp2_with fail
    refine (IW.out w5).mono ?_
    rintro e w6 ⟨rfl, rfl⟩
    go_wp2
    go_ret
    exact ⟨rfl, B5.out⟩
end Go.Proofs.YtccofiakblmkhaaGreat
