/- tribunalref02: Round; Floor and Ceil of the program and of the reference, whatever the numbers. -/
import Derived.Test.YtkccjddmmjdceaaGreatDoorYV
import Derived.Test.YtkccjddmmjdceaaGreatDoorHJ
import Derived.Test.YtkccjddmmjdceaaGreatDoorHK
import Derived.Deep.RegionWith
set_option linter.unusedVariables false
set_option linter.unusedSimpArgs false
namespace Go.Proofs.YtkccjddmmjdceaaGreatDoor
open Go.RowKit Mth

/-- what is answered for z, unless y is 0 -/
def roE (y z : Int) : Int := if y = 0 then 11 else zE z
def roN (y z : Int) : Int := if y = 0 then 0 else zN z

set_option maxHeartbeats 8000000 in
set_option maxRecDepth 100000 in
theorem rround_full (va vb : Value) (x y : Int) (up : Bool) (w : World) (ha : IntV w va x) (hb : IntV w vb y) (h0 : y ≠ 0) :
    Calls Tryz.prog 14 #[va, vb, .bool up] w fun e w' => ∃ v1, e = .returned (.tuple #[v1, .int .i64 (zE (rUF up x y))]) ∧ IntK w' v1 (zN (rUF up x y)) ∧ Below w.heap.size w w' := by
  obtain ⟨n1, a1, k1, c1, rfl⟩ := ha.shape
  obtain ⟨n2, a2, k2, c2, rfl⟩ := hb.shape
  have LX : Hid (LtZ x) := Lib.hid ⟨Nat.lt_of_lt_of_le ha.huge huge_d⟩
  have LY : Hid (LtZ y) := Lib.hid ⟨Nat.lt_of_lt_of_le hb.huge huge_d⟩
  have HA := Lib.hid ha; have HB := Lib.hid hb; have H0 := Lib.hid h0
  clear ha hb h0
  go_enter Tryz.func14, Tryz.ntmps14
  go_wp2_with fail
  obtain ⟨W, eW, h1, h2, h3, bel, hsz⟩ := alloc3 w (Obj.cells #[Value.bool n1, Value.slice a1 k1 c1] 25) (Obj.cells #[Value.bool n2, Value.slice a2 k2 c2] 25) (Obj.cells #[Value.bool false, Value.slice none 0 0] 25)
  rw [eW]
  have H1 := Lib.hid h1; have H3 : Hid (W.heap[w.heap.size + 1 + 1]? = _) := Lib.hid h3
  have BW := Lib.hid bel
  clear eW h1 h2 h3 bel hsz
  refine (from_any2 _ y W (HB.out.below BW.out)).mono ?_
  rintro e w1 ⟨v1, rfl, z1, hb1⟩
  obtain ⟨m1, d1, l1, e1, rfl⟩ := z1.shape
  have HL := Lib.hid (zv_len z1)
  obtain ⟨V, eV, hV, belV, hszV⟩ := alloc1 w1 (Obj.cells #[Value.bool m1, Value.slice d1 l1 e1] 65)
  have Z1 := Lib.hid (z1.below belV)
  have BV := Lib.hid (below_of (below_of BW.out hb1) belV)
  have HRES := Lib.hid (blk_below' belV (blk_below' hb1 H3.out))
  obtain ⟨x0, x1, _, _, hlx⟩ := blk2 (blk_below' belV (blk_below' hb1 H1.out))
  obtain ⟨y0, y1, _, _, hly⟩ := blk2 hV
  have hlr := (Array.getElem?_eq_some_iff.1 HRES.out).1
  have hd : ((l1 : Int) == 0) = false := by rw [beq_eq_false_iff_ne]; intro e; exact H0.out (HL.out.1 (by omega))
  have hl2 : w.heap.size ≤ w.heap.size + 1 + 1 := by omega
  have FR : Hid (∀ w1, Below V.heap.size V w1 → Calls Tryz.prog 36 #[.agg #[.bool n1, .slice a1 k1 c1]] w1 fun e w' => ∃ v', e = .returned v' ∧ ZV w' v' x ∧ Below w1.heap.size w1 w') := Lib.hid (fun w1 h => from_any2 _ x w1 (HA.out.below (below_of BV.out h)))
  have KEEP : Hid (∀ w', Below V.heap.size V w' → w'.cell? ⟨w1.heap.size, 0, none⟩ = some (.bool m1) ∧ w'.cell? ⟨w1.heap.size, 1, none⟩ = some (.slice d1 l1 e1) ∧ w'.heap[w.heap.size + 1 + 1]? = some (.cells #[.bool false, .slice none 0 0] 25 (0, 0))) :=
    Lib.hid (fun w' h => ⟨cell_to h y0 hly, cell_to h y1 hly, (h.block _ hlr).trans HRES.out⟩)
  have KX : Hid (∀ w', Below V.heap.size V w' → w'.cell? ⟨w.heap.size, 0, none⟩ = some (.bool n1) ∧ w'.cell? ⟨w.heap.size, 1, none⟩ = some (.slice a1 k1 c1)) :=
    Lib.hid (fun w' h => ⟨cell_to h x0 hlx, cell_to h x1 hlx⟩)
  clear z1 hV belV hb1 H1 H3
  go_wp2
  clear eV
  go_region_with (first
    | (go_at_call 36; refine Calls.mono (FR.out _ ?_) ?_; (first | exact (Below.refl _ _).drew | exact Below.refl _ _); rintro e w4 ⟨v4, rfl, z4, hb4⟩; obtain ⟨n4, a4, k4, c4, rfl⟩ := z4.shape; have hB4 := Lib.hid (below_of (Below.refl V.heap.size V).drew hb4); have HZ4 := Lib.hid z4; obtain ⟨o0, o1, hG4⟩ := KEEP.out _ hB4.out; clear z4 hb4 hG4)
    | (go_at_call 43; refine Calls.mono (rounded_any _ _ x y up _ ?_ ?_ LX.out.out LY.out.out H0.out) ?_; (exact HZ4.out); (exact Z1.out.below hB4.out); rintro e w5 ⟨v5, rfl, z5, hb5⟩; obtain ⟨n5, a5, k5, c5, rfl⟩ := z5.shape; have hB5 := Lib.hid (below_of hB4.out hb5); have HZ5 := Lib.hid z5; clear z5 hb5 o0 o1)
    | (go_at_call 42; refine Calls.mono (out_any2 _ (rUF up x y) _ ?_) ?_; (exact HZ5.out); rintro e w6 ⟨v6, rfl, i6, hb6⟩; obtain ⟨n6, a6, k6, c6, rfl⟩ := i6.shape; have hB6 := Lib.hid (below_of hB5.out hb6); have I6 := Lib.hid i6; obtain ⟨u0, u1, hG6⟩ := KEEP.out _ hB6.out; obtain ⟨j0, j1, l0, l1', _⟩ := blk2 hG6; have HG6 := Lib.hid hG6; clear i6 hb6 hG6 u0 u1))
  all_goals
    have I7 := Lib.hid (I6.out.far (y0 := .bool n6) (y1 := .slice a6 k6 c6) HG6.out)
    have B7 := Lib.hid (((below_of BV.out hB6.out).setCell (p := ⟨w.heap.size + 1 + 1, 0, none⟩) hl2 (.bool n6)).setCell (p := ⟨w.heap.size + 1 + 1, 1, none⟩) hl2 (.slice a6 k6 c6))
    go_wp2
    refine bodyPost_ret (v := .tuple #[.agg #[.bool n6, .slice a6 k6 c6], .int .i64 (zE (rUF up x y))]) ?_ rfl ⟨_, rfl, I7.out, B7.out⟩
    simp [results, Tryz.results14, go_sem, *]

set_option maxHeartbeats 4000000 in
set_option maxRecDepth 100000 in
theorem rround_zero (va vb : Value) (x : Int) (up : Bool) (w : World) (ha : IntV w va x) (hb : IntV w vb 0) :
    Calls Tryz.prog 14 #[va, vb, .bool up] w fun e w' => e = .returned (.tuple #[.agg #[.bool false, .slice none 0 0], .int .i64 11]) ∧ Below w.heap.size w w' := by
  obtain ⟨n1, a1, k1, c1, rfl⟩ := ha.shape
  obtain ⟨n2, a2, k2, c2, rfl⟩ := hb.shape
  have HB := Lib.hid hb
  clear ha hb
  go_enter Tryz.func14, Tryz.ntmps14
  go_wp2_with fail
  obtain ⟨W, eW, h1, h2, h3, bel, hsz⟩ := alloc3 w (Obj.cells #[Value.bool n1, Value.slice a1 k1 c1] 25) (Obj.cells #[Value.bool n2, Value.slice a2 k2 c2] 25) (Obj.cells #[Value.bool false, Value.slice none 0 0] 25)
  rw [eW]
  have H3 : Hid (W.heap[w.heap.size + 1 + 1]? = _) := Lib.hid h3
  have BW := Lib.hid bel
  clear eW h1 h2 h3 bel hsz
  refine (from_any2 _ 0 W (HB.out.below BW.out)).mono ?_
  rintro e w1 ⟨v1, rfl, z1, hb1⟩
  obtain ⟨m1, d1, l1, e1, rfl⟩ := z1.shape
  have HL := Lib.hid ((zv_len z1).2 rfl)
  obtain ⟨V, eV, hV, belV, hszV⟩ := alloc1 w1 (Obj.cells #[Value.bool m1, Value.slice d1 l1 e1] 65)
  have BV := Lib.hid (below_of (below_of BW.out hb1) belV)
  obtain ⟨k0, k1', g0, g1, _⟩ := blk2 (blk_below' belV (blk_below' hb1 H3.out))
  obtain ⟨y0, y1, _, _, hly⟩ := blk2 hV
  have hd : ((l1 : Int) == 0) = true := by rw [HL.out]; rfl
  have hl2 : w.heap.size ≤ w.heap.size + 1 + 1 := by omega
  clear z1 hV belV hb1 H3
  go_wp2
  refine bodyPost_ret (v := .tuple #[.agg #[.bool false, .slice none 0 0], .int .i64 11]) ?_ rfl ⟨rfl, set_below (set_below BV.out hl2) hl2⟩
  simp [results, Tryz.results14, go_sem, *]

theorem rround_all (va vb : Value) (x y : Int) (up : Bool) (w : World) (ha : IntV w va x) (hb : IntV w vb y) :
    Calls Tryz.prog 14 #[va, vb, .bool up] w fun e w' => ∃ v1, e = .returned (.tuple #[v1, .int .i64 (roE y (rUF up x y))]) ∧ IntK w' v1 (roN y (rUF up x y)) ∧ Below w.heap.size w w' := by
  by_cases h0 : y = 0
  · subst h0
    refine (rround_zero va vb x up w ha hb).mono ?_
    rintro e w' ⟨rfl, hb'⟩
    exact ⟨_, by rw [roE, if_pos rfl], by rw [roN, if_pos rfl]; exact intk_zero _, hb'⟩
  · rw [roE, roN, if_neg h0, if_neg h0]
    exact rround_full va vb x y up w ha hb h0
theorem floor_all (va vb : Value) (x y : Int) (w : World) (ha : IntV w va x) (hb : IntV w vb y) :
    Calls Tryz.prog 13 #[va, vb] w fun e w' => ∃ v1, e = .returned (.tuple #[v1, .int .i64 (roE y (rUF false x y))]) ∧ IntK w' v1 (roN y (rUF false x y)) ∧ Below w.heap.size w w' := by
  rw [rUF_f]
  by_cases h0 : y = 0
  · subst h0
    refine (floorI_zero va vb x w ha hb).mono ?_
    rintro e w' ⟨rfl, hb'⟩
    exact ⟨_, by rw [roE, if_pos rfl], by rw [roN, if_pos rfl]; exact intk_zero _, hb'⟩
  · rw [roE, roN, if_neg h0, if_neg h0]
    exact florI_full va vb x y w ha hb h0
theorem ceil_all (va vb : Value) (x y : Int) (w : World) (ha : IntV w va x) (hb : IntV w vb y) :
    Calls Tryz.prog 15 #[va, vb] w fun e w' => ∃ v1, e = .returned (.tuple #[v1, .int .i64 (roE y (rUF true x y))]) ∧ IntK w' v1 (roN y (rUF true x y)) ∧ Below w.heap.size w w' := by
  rw [rUF_t]
  by_cases h0 : y = 0
  · subst h0
    refine (ceilI_zero va vb x w ha hb).mono ?_
    rintro e w' ⟨rfl, hb'⟩
    exact ⟨_, by rw [roE, if_pos rfl], by rw [roN, if_pos rfl]; exact intk_zero _, hb'⟩
  · rw [roE, roN, if_neg h0, if_neg h0]
    exact ceiI_full va vb x y w ha hb h0
end Go.Proofs.YtkccjddmmjdceaaGreatDoor
