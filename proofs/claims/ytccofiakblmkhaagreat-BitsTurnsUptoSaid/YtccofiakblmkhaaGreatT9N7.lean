/- 9K 9LA 9LB. -/
import Derived.Test.YtccofiakblmkhaaGreatT9N3
import Derived.Lib.SmallJoins
import Derived.Test.YtccofiakblmkhaaGreatT99ID
import Derived.Test.YtccofiakblmkhaaGreatT99IC
import Derived.Test.YtccofiakblmkhaaGreatT99IB
import Derived.Test.YtccofiakblmkhaaGreatT99IA
import Derived.Test.YtccofiakblmkhaaGreatT9N4
import Derived.Test.YtccofiakblmkhaaGreatT9LiftV
set_option linter.unusedVariables false
set_option linter.unusedSimpArgs false
/- bits: Apply with a fault; what is no operator. -/
namespace Go.Proofs.YtccofiakblmkhaaGreat
open Go.RowKit Mth

set_option maxHeartbeats 16000000 in
set_option maxRecDepth 100000 in
theorem apply_err (kk n er : Int) (p d : Value) (mx : Bool) (f : Nat) (hp : p.oneCell' = true) (hd : d.oneCell' = true) (her : er ≠ 0)
    (pv av : Value) (w : World) (hpv : ∃ po pn pc, pv = .slice po pn pc) (hav : ∃ ao ak ac, av = .slice ao ak ac)
    (hO : ∀ w1, Calls Tryz.prog 48 #[.int .i64 kk] w1 fun e w' => e = .returned (.tuple #[.agg #[.int .i64 n, p, .bool mx, d, .func (.func f) #[] #[]], .bool true]) ∧ Below w1.heap.size w1 w')
    (hF : ∀ w1, Below w.heap.size w w1 → Calls Tryz.prog 49 #[.agg #[.int .i64 n, p, .bool mx, d, .func (.func f) #[] #[]], .agg #[pv, av]] w1 fun e w' => e = .returned (.int .i64 er) ∧ Below w1.heap.size w1 w') :
    Calls Tryz.prog 25 #[.int .i64 kk, pv, av] w fun e w' => e = .returned (.tuple #[BvE, .int .i64 er]) ∧ Below w.heap.size w w' := by
  obtain ⟨po, pn, pc, rfl⟩ := hpv
  obtain ⟨ao, ak, ac, rfl⟩ := hav
  obtain ⟨W, eW, gW, bW, hWs⟩ := alloc1n w (Obj.cells #[.int .i64 0, .slice none 0 0] 28)
  have OP := Lib.hid (hO W)
  have FT : Hid (∀ w1, Below W.heap.size W w1 → _) := Lib.hid (fun w1 h => hF w1 (below_of bW h))
  have hs1 : ∀ (a : Addr) (W : World) m, Sem.run Tryz.prog (store a p m) W = stored Tryz.prog W a p m := fun a W m => run_store Tryz.prog W a _ m hp
  have hs2 : ∀ (a : Addr) (W : World) m, Sem.run Tryz.prog (store a (.func (.func f) #[] #[]) m) W = stored Tryz.prog W a (.func (.func f) #[] #[]) m := fun a W m => run_store Tryz.prog W a _ m rfl
  have hs3 : ∀ (a : Addr) (W : World) m, Sem.run Tryz.prog (store a d m) W = stored Tryz.prog W a d m := fun a W m => run_store Tryz.prog W a _ m hd
  have GW := Lib.hid gW; have BW := Lib.hid bW
  have d1 : (er != 0) = true := bne_iff_ne.2 her
  clear gW bW hF hO hp hd her
  have EW := Lib.hid eW
  clear eW
  go_enter Tryz.func25, Tryz.ntmps25
  go_wp2_with fail
  rw [EW.out]
  refine OP.out.mono ?_
  rintro e w2 ⟨rfl, hb2⟩
  obtain ⟨V, eV, gV1, gV2, bV, hVs⟩ := alloc2 w2 (Obj.cells #[.int .i64 n, p, .bool mx, d, .func (.func f) #[] #[]] 88) (Obj.cells #[.slice po pn pc, .slice ao ak ac] 92)
  have BV := Lib.hid (below_of hb2 bV)
  have FF := Lib.hid (FT.out V BV.out)
  have G0 := Lib.hid (car BV.out GW.out)
  have hw2 : W.heap.size ≤ w2.heap.size := hb2.size
  have hz : W.heap.size ≤ V.heap.size := BV.out.size
  have hw0 : w.heap.size < W.heap.size := hWs
  obtain ⟨x0, x1, x2, x3, x4⟩ := blk5o gV1
  obtain ⟨y0, y1, -, -, _⟩ := blk2 gV2
  clear hb2 gV1 gV2 bV
  go_wp2_with fail
  try rw [eV]
  refine FF.out.mono ?_
  rintro e w5 ⟨rfl, hb5⟩
  have B5 := Lib.hid (below_of BV.out hb5)
  have GC := Lib.hid (car hb5 G0.out)
  have hz5 := hb5.size
  obtain ⟨s0, s1, s2, s3, _⟩ := blk2 GC.out
  clear hb5 x0 x1 x2 x3 x4 y0 y1
  go_wp2
  exact bodyPost_ret (results_bte rfl rfl rfl (set2_row _ _ GC.out)) rfl ⟨rfl, ((below_of BW.out B5.out).setCell (Nat.le_refl _) _).setCell (Nat.le_refl _) _⟩
end Go.Proofs.YtccofiakblmkhaaGreat

/- bits: comp; its Apply. -/
namespace Go.Proofs.YtccofiakblmkhaaGreat
open Go.RowKit Mth

end Go.Proofs.YtccofiakblmkhaaGreat

/- bits: Holds with a fault; Apply comp (gen9o.py). -/
namespace Go.Proofs.YtccofiakblmkhaaGreat
open Go.RowKit Mth

theorem BvA.below {w w' : World} {v : Value} {x : Int} {xs : List Nat} (h : BvA w v x xs) (hb : Below w.heap.size w w') : BvA w' v x xs := by
  obtain ⟨u, h0, h1, h2⟩ := h; exact ⟨u, h0, h1.below hb, h2⟩
theorem BvA.right {w : World} {v : Value} {x : Int} {xs : List Nat} (h : BvA w v x xs) : Calls Tryz.prog 22 #[v] w fun e w' => e = .returned (.bool (rightF x (val B64 xs))) ∧ Below w.heap.size w w' := by
  obtain ⟨u, rfl, h1, h2, h3⟩ := h; exact right_any x u xs w h1 h2
theorem right_nat {x : Int} {n : Nat} (h : rightF x n = true) : ∃ wd : Nat, x = (wd : Int) ∧ 1 ≤ wd ∧ wd ≤ 4096 ∧ n < 2 ^ wd := by
  unfold rightF isW at h
  simp only [Bool.and_eq_true, decide_eq_true_eq] at h
  obtain ⟨⟨a, b⟩, c⟩ := h
  refine ⟨x.toNat, by omega, by omega, by omega, Nat.lt_of_lt_of_le (lt_bl _) (Nat.pow_le_pow_right (by omega) (by omega))⟩
theorem BvA.v {w : World} {v : Value} {wd : Nat} {xs : List Nat} (h : BvA w v (wd : Int) xs) : BvV w v wd (val B64 xs) := by
  obtain ⟨u, rfl, h1, h2, h3⟩ := h; exact ⟨u, xs, rfl, h1, h2, h3, rfl⟩
end Go.Proofs.YtccofiakblmkhaaGreat
