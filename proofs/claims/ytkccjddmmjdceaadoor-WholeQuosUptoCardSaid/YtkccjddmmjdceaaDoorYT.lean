/- Quo of the program and of the reference 02, whatever the numbers. -/
import Derived.Test.YtkccjddmmjdceaaDoorYS
import Derived.Test.YtkccjddmmjdceaaDoorHG
import Derived.Test.YtkccjddmmjdceaaDoorZV
set_option linter.unusedVariables false
set_option linter.unusedSimpArgs false
namespace Go.Proofs.YtkccjddmmjdceaaDoor
open Go.RowKit Mth

/-- what Quo answers -/
def qzE (x y : Int) : Int := if y = 0 then 11 else twE (qC x y) (rC x y)
def qzQ (x y : Int) : Int := if y = 0 then 0 else twZ (qC x y) (rC x y) (qC x y)
def qzR (x y : Int) : Int := if y = 0 then 0 else twZ (qC x y) (rC x y) (rC x y)

set_option maxHeartbeats 4000000 in
set_option maxRecDepth 100000 in
theorem rquo_zero (va vb : Value) (x : Int) (w : World) (ha : IntV w va x) (hb : IntV w vb 0) :
    Calls Tryd.prog 6 #[va, vb] w fun e w' => e = .returned (.tuple #[.agg #[.bool false, .slice none 0 0], .agg #[.bool false, .slice none 0 0], .int .i64 11]) ∧ Below w.heap.size w w' := by
  obtain ⟨n1, a1, k1, c1, rfl⟩ := ha.shape
  obtain ⟨n2, a2, k2, c2, rfl⟩ := hb.shape
  have HB := Lib.hid hb
  clear ha hb
  go_enter Tryd.func6, Tryd.ntmps6
  go_wp2_with fail
  obtain ⟨W, eW, h1, h2, h3, h4, bel, hsz⟩ := alloc4 w (Obj.cells #[Value.bool n1, Value.slice a1 k1 c1] 25) (Obj.cells #[Value.bool n2, Value.slice a2 k2 c2] 25) (Obj.cells #[Value.bool false, Value.slice none 0 0] 25) (Obj.cells #[Value.bool false, Value.slice none 0 0] 25)
  rw [eW]
  have H3 := Lib.hid h3; have H4 := Lib.hid h4
  have BW := Lib.hid bel
  clear eW h1 h2 h3 h4 bel hsz
  refine (from_any2 _ 0 W (HB.out.below BW.out)).mono ?_
  rintro e w1 ⟨v1, rfl, z1, hb1⟩
  obtain ⟨m1, d1, l1, e1, rfl⟩ := z1.shape
  have HL : Hid (l1 = 0) := Lib.hid (by
    obtain ⟨_, ys, _, _, ht, hv, rfl⟩ := z1.parts
    rcases Nat.eq_zero_or_pos ys.length with h | h
    · exact h
    · have h1 := val_ge_top (B := B16) ht h
      have h2 : 0 < B16 ^ (ys.length - 1) := Nat.pow_pos (by unfold B16; omega)
      have h3 : val B16 ys = 0 := hv
      omega)
  obtain ⟨V, eV, hV, belV, hszV⟩ := alloc1 w1 (Obj.cells #[Value.bool m1, Value.slice d1 l1 e1] 51)
  have BV := Lib.hid (below_of (below_of BW.out hb1) belV)
  obtain ⟨y0, y1, _, _, _⟩ := blk2 hV
  obtain ⟨k0, k1', g0, g1, _⟩ := blk2 (blk_below' belV (blk_below' hb1 H3.out))
  obtain ⟨k3, k4, g3, g4, _⟩ := blk2 (blk_below' belV (blk_below' hb1 H4.out))
  have hd : ((l1 : Int) == 0) = true := by rw [HL.out]; rfl
  have hL3 : w.heap.size ≤ w.heap.size + 1 + 1 := by omega
  have hL4 : w.heap.size ≤ w.heap.size + 1 + 1 + 1 := by omega
  clear z1 hV belV hb1
  go_wp2
  refine bodyPost_ret (v := .tuple #[.agg #[.bool false, .slice none 0 0], .agg #[.bool false, .slice none 0 0], .int .i64 11]) ?_ rfl ⟨rfl, set_below (set_below (set_below (set_below BV.out hL3) hL3) hL4) hL4⟩
  simp [results, Tryd.results6, go_sem, *]

theorem quoI_all (va vb : Value) (x y : Int) (w : World) (ha : IntV w va x) (hb : IntV w vb y) :
    Calls Tryd.prog 5 #[va, vb] w fun e w' => ∃ v1 v2, e = .returned (.tuple #[v1, v2, .int .i64 (qzE x y)]) ∧ IntK w' v1 (qzQ x y) ∧ IntK w' v2 (qzR x y) ∧ Below w.heap.size w w' := by
  by_cases h0 : y = 0
  · subst h0
    refine (quoI_zero va vb x w ha hb).mono ?_
    rintro e w' ⟨rfl, hb'⟩
    exact ⟨_, _, by rw [qzE, if_pos rfl], by rw [qzQ, if_pos rfl]; exact intk_zero _, by rw [qzR, if_pos rfl]; exact intk_zero _, hb'⟩
  · rw [qzE, qzQ, qzR, if_neg h0, if_neg h0, if_neg h0]
    exact quoI_full va vb x y w ha hb h0
theorem rquo_all (va vb : Value) (x y : Int) (w : World) (ha : IntV w va x) (hb : IntV w vb y) :
    Calls Tryd.prog 6 #[va, vb] w fun e w' => ∃ v1 v2, e = .returned (.tuple #[v1, v2, .int .i64 (qzE x y)]) ∧ IntK w' v1 (qzQ x y) ∧ IntK w' v2 (qzR x y) ∧ Below w.heap.size w w' := by
  by_cases h0 : y = 0
  · subst h0
    refine (rquo_zero va vb x w ha hb).mono ?_
    rintro e w' ⟨rfl, hb'⟩
    exact ⟨_, _, by rw [qzE, if_pos rfl], by rw [qzQ, if_pos rfl]; exact intk_zero _, by rw [qzR, if_pos rfl]; exact intk_zero _, hb'⟩
  · rw [qzE, qzQ, qzR, if_neg h0, if_neg h0, if_neg h0]
    exact rquo_full va vb x y w ha hb h0
end Go.Proofs.YtkccjddmmjdceaaDoor
