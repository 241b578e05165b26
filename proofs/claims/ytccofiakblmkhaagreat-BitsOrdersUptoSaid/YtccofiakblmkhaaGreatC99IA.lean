/- bits: fault of any operator: 9IA (gen9h.py). -/
import Derived.Test.YtccofiakblmkhaaGreatC9N3
set_option linter.unusedVariables false
set_option linter.unusedSimpArgs false
namespace Go.Proofs.YtccofiakblmkhaaGreat
open Go.RowKit Mth

set_option maxHeartbeats 8000000 in
set_option maxRecDepth 100000 in
theorem fault_n_90 (n : Int) (d : Value) (f : Nat) (hd : d.oneCell' = true) (mx : Bool) (pv av : Value) (w : World) (hpv : ∃ po pn pc, pv = .slice po pn pc) (ao : Option Addr) (ak ac : Nat) (hav : av = .slice ao ak ac) (hne : (ak : Int) = n) (hR : ∀ w1, Below w.heap.size w w1 → Calls Tryz.prog 82 #[av] w1 fun e w' => e = .returned (.bool false) ∧ Below w1.heap.size w1 w') :
    Calls Tryz.prog 49 #[.agg #[.int .i64 n, .nilFunc, .bool mx, d, .func (.func f) #[] #[]], .agg #[pv, av]] w fun e w' => e = .returned (.int .i64 90) ∧ Below w.heap.size w w' := by
  obtain ⟨po, pn, pc, rfl⟩ := hpv
  subst hav
  obtain ⟨W, eW, g1, g2, bel, hsz⟩ := alloc2 w (Obj.cells #[.int .i64 n, .nilFunc, .bool mx, d, .func (.func f) #[] #[]] 88) (Obj.cells #[.slice po pn pc, .slice ao ak ac] 92)
  have G1 := Lib.hid g1; have G2 := Lib.hid g2; have BL := Lib.hid bel
  obtain ⟨c0, c1, c2, c3, c4⟩ := blk5o g1
  obtain ⟨q0, q1, r0, r1, _⟩ := blk2 g2
  subst hne
  have d1 : ((ak : Int) != (ak : Int)) = false := bne_self_eq_false _
  have HR : Hid (∀ w1, Below W.heap.size W w1 → _) := Lib.hid (fun w1 h => hR w1 (below_of bel h))
  have hbn : ∀ W, Sem.run Tryz.prog (binOp BinOp.neq 84 Value.nilFunc Value.nilFunc) W = .ok (.bool false) W := fun W => by kernel_rfl
  have hfl := field0_bits
  clear g1 g2 bel hR
  go_enter Tryz.func49, Tryz.ntmps49
  go_wp2_with fail
  try rw [eW]
  refine (HR.out _ (Below.refl _ _)).mono ?_
  rintro e u1 ⟨rfl, hb⟩
  have B1 := Lib.hid (below_of (Below.refl _ _) hb)
  have GA1 := Lib.hid (car hb G1.out); have GB1 := Lib.hid (car hb G2.out)
  clear c0 c1 c2 c3 c4 q0 q1 r0 r1
  obtain ⟨x10, x11, x12, x13, x14⟩ := blk5o GA1.out
  obtain ⟨y10, y11, -, -, _⟩ := blk2 GB1.out
  clear hb
  go_wp2
  go_ret
  exact ⟨rfl, below_of BL.out B1.out⟩
end Go.Proofs.YtccofiakblmkhaaGreat
