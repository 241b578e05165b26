/- Package whole: Norm; tribunalref02: Of, Norm, Neg, Abs, Cmp1, Cmp, Sign. -/
import Derived.Test.YtckmpnfadpnaeaaGreatDoorYJ
import Derived.Test.YtckmpnfadpnaeaaGreatDoorZS
import Derived.Deep.RegionHeld3
set_option linter.unusedVariables false
set_option linter.unusedSimpArgs false
namespace Go.Proofs.YtckmpnfadpnaeaaGreatDoor
open Go.RowKit Mth

theorem field_digits (ao : Option Addr) (k c : Nat) (b : Bool) (w : World) : (Instr.field 53 (.agg #[.bool b, .slice ao k c]) 1).run Tryz.prog w = .ok (.slice ao k c) w := by kernel_rfl

/-- Make(false, z.D) -/
theorem make_digits {n : Bool} {ao : Option Addr} {k c : Nat} {z : Int} {w : World} (h : ZV w (.agg #[.bool n, .slice ao k c]) z) :
    Calls Tryz.prog 42 #[.bool false, .slice ao k c] w fun e w' => ∃ v', e = .returned v' ∧ ZV w' v' (z.natAbs : Int) ∧ Below w.heap.size w w' := by
  obtain ⟨_, ys, s, l, _, hv, rfl⟩ := h.parts
  refine (make_any false _ ys w s l).mono ?_
  rintro e w' ⟨v', he, hz, hb⟩
  rw [hv, sg_false] at hz
  exact ⟨v', he, hz.below hb, hb⟩

set_option maxHeartbeats 1000000 in
set_option maxRecDepth 100000 in
theorem rof_any2 (n : Int) (w : World) (hn1 : -9223372036854775808 ≤ n) (hn2 : n ≤ 9223372036854775807) : Calls Tryz.prog 10 #[.int .i64 n] w fun e w' => ∃ v', e = .returned v' ∧ IntK w' v' n ∧ Below w.heap.size w w' := by
  go_enter Tryz.func10, Tryz.ntmps10
  go_wp2_with fail
  obtain ⟨W, eW, h2, bel, hsz⟩ := alloc1 w (Obj.cells #[Value.bool false, Value.slice none 0 0] 25)
  rw [eW]
  have H2 := Lib.hid h2; have HSZ := Lib.hid hsz; have B := Lib.hid bel
  clear eW h2 hsz bel
  refine (small1_any n W hn1 hn2).mono ?_
  rintro e w1 ⟨v0, rfl, hz, hb⟩
  obtain ⟨n0, a0, k0, c0, rfl⟩ := hz.shape
  have Z0 := Lib.hid hz
  have H2' := Lib.hid ((hb.block _ HSZ.out).trans H2.out); have HSZ' := Lib.hid (size_to hb HSZ.out); have B' := Lib.hid (below_of B.out hb)
  clear hz hb H2 HSZ B
  have H2 := H2'; have HSZ := HSZ'; have B := B'
  clear H2' HSZ' B'
  go_wp2_with fail
  refine (to_any2 _ n w1 Z0.out).mono ?_
  rintro e w9 ⟨v9, rfl, hi, hb9⟩
  have hR := (hb9.block _ HSZ.out).trans H2.out
  obtain ⟨n9, a9, k9, c9, rfl⟩ := hi.shape
  obtain ⟨x0, x1, g0, g1, hlt⟩ := blk2 hR
  have HF := Lib.hid (hi.far (y0 := .bool n9) (y1 := .slice a9 k9 c9) hR)
  have B9 := Lib.hid (below_of B.out hb9)
  clear hi hb9 hR hlt
  go_wp2
  refine bodyPost_ret (v := .agg #[.bool n9, .slice a9 k9 c9]) ?_ rfl ⟨_, rfl, HF.out, (B9.out.setCell (p := ⟨w.heap.size, 0, none⟩) (Nat.le_refl _) _).setCell (p := ⟨w.heap.size, 1, none⟩) (Nat.le_refl _) _⟩
  simp [results, Tryz.results10, go_sem, *]

set_option maxHeartbeats 1000000 in
set_option maxRecDepth 100000 in
theorem rnorm_any (v : Value) (z : Int) (w : World) (h : IntV w v z) : Calls Tryz.prog 12 #[v] w fun e w' => ∃ v', e = .returned v' ∧ IntK w' v' z ∧ Below w.heap.size w w' := by
  obtain ⟨n, ao, k, c, rfl⟩ := h.shape
  have H := Lib.hid h; clear h
  go_enter Tryz.func12, Tryz.ntmps12
  go_wp2_with fail
  obtain ⟨W, eW, h1, h2, bel, hsz⟩ := alloc2 w (Obj.cells #[Value.bool n, Value.slice ao k c] 25) (Obj.cells #[Value.bool false, Value.slice none 0 0] 25)
  rw [eW]
  have H2 := Lib.hid h2; have HSZ := Lib.hid hsz; have B := Lib.hid bel
  clear eW h1 h2 hsz bel
  refine (from_any2 _ z W (H.out.below B.out)).mono ?_
  rintro e w1 ⟨v0, rfl, hz, hb⟩
  obtain ⟨n0, a0, k0, c0, rfl⟩ := hz.shape
  have Z0 := Lib.hid hz
  have H2' := Lib.hid ((hb.block _ HSZ.out).trans H2.out); have HSZ' := Lib.hid (size_to hb HSZ.out); have B' := Lib.hid (below_of B.out hb)
  clear hz hb H2 HSZ B
  have H2 := H2'; have HSZ := HSZ'; have B := B'
  clear H2' HSZ' B'
  go_wp2_with fail
  refine (to_any2 _ z w1 Z0.out).mono ?_
  rintro e w9 ⟨v9, rfl, hi, hb9⟩
  have hR := (hb9.block _ HSZ.out).trans H2.out
  obtain ⟨n9, a9, k9, c9, rfl⟩ := hi.shape
  obtain ⟨x0, x1, g0, g1, hlt⟩ := blk2 hR
  have HF := Lib.hid (hi.far (y0 := .bool n9) (y1 := .slice a9 k9 c9) hR)
  have B9 := Lib.hid (below_of B.out hb9)
  clear hi hb9 hR hlt
  go_wp2
  refine bodyPost_ret (v := .agg #[.bool n9, .slice a9 k9 c9]) ?_ rfl ⟨_, rfl, HF.out, (B9.out.setCell (p := ⟨w.heap.size + 1, 0, none⟩) (Nat.le_add_right _ _) _).setCell (p := ⟨w.heap.size + 1, 1, none⟩) (Nat.le_add_right _ _) _⟩
  simp [results, Tryz.results12, go_sem, *]

set_option maxHeartbeats 1000000 in
set_option maxRecDepth 100000 in
theorem rneg_any (v : Value) (z : Int) (w : World) (h : IntV w v z) : Calls Tryz.prog 18 #[v] w fun e w' => ∃ v', e = .returned v' ∧ IntK w' v' (-z) ∧ Below w.heap.size w w' := by
  obtain ⟨n, ao, k, c, rfl⟩ := h.shape
  have H := Lib.hid h; clear h
  go_enter Tryz.func18, Tryz.ntmps18
  go_wp2_with fail
  obtain ⟨W, eW, h1, h2, bel, hsz⟩ := alloc2 w (Obj.cells #[Value.bool n, Value.slice ao k c] 25) (Obj.cells #[Value.bool false, Value.slice none 0 0] 25)
  rw [eW]
  have H2 := Lib.hid h2; have HSZ := Lib.hid hsz; have B := Lib.hid bel
  clear eW h1 h2 hsz bel
  refine (from_any2 _ z W (H.out.below B.out)).mono ?_
  rintro e w1 ⟨v0, rfl, hz, hb⟩
  obtain ⟨n0, a0, k0, c0, rfl⟩ := hz.shape
  have Z0 := Lib.hid hz
  have H2' := Lib.hid ((hb.block _ HSZ.out).trans H2.out); have HSZ' := Lib.hid (size_to hb HSZ.out); have B' := Lib.hid (below_of B.out hb)
  clear hz hb H2 HSZ B
  have H2 := H2'; have HSZ := HSZ'; have B := B'
  clear H2' HSZ' B'
  go_wp2_with fail
  refine (minus_any2 _ z w1 Z0.out).mono ?_
  rintro e w2 ⟨v1, rfl, hz, hb⟩
  obtain ⟨n1, a1, k1, c1, rfl⟩ := hz.shape
  have Z1 := Lib.hid hz
  have H2' := Lib.hid ((hb.block _ HSZ.out).trans H2.out); have HSZ' := Lib.hid (size_to hb HSZ.out); have B' := Lib.hid (below_of B.out hb)
  clear hz hb H2 HSZ B
  have H2 := H2'; have HSZ := HSZ'; have B := B'
  clear H2' HSZ' B'
  go_wp2_with fail
  refine (to_any2 _ (-z) w2 Z1.out).mono ?_
  rintro e w9 ⟨v9, rfl, hi, hb9⟩
  have hR := (hb9.block _ HSZ.out).trans H2.out
  obtain ⟨n9, a9, k9, c9, rfl⟩ := hi.shape
  obtain ⟨x0, x1, g0, g1, hlt⟩ := blk2 hR
  have HF := Lib.hid (hi.far (y0 := .bool n9) (y1 := .slice a9 k9 c9) hR)
  have B9 := Lib.hid (below_of B.out hb9)
  clear hi hb9 hR hlt
  go_wp2
  refine bodyPost_ret (v := .agg #[.bool n9, .slice a9 k9 c9]) ?_ rfl ⟨_, rfl, HF.out, (B9.out.setCell (p := ⟨w.heap.size + 1, 0, none⟩) (Nat.le_add_right _ _) _).setCell (p := ⟨w.heap.size + 1, 1, none⟩) (Nat.le_add_right _ _) _⟩
  simp [results, Tryz.results18, go_sem, *]

set_option maxHeartbeats 1000000 in
set_option maxRecDepth 100000 in
theorem rabs_any (v : Value) (z : Int) (w : World) (h : IntV w v z) : Calls Tryz.prog 20 #[v] w fun e w' => ∃ v', e = .returned v' ∧ IntK w' v' (z.natAbs : Int) ∧ Below w.heap.size w w' := by
  obtain ⟨n, ao, k, c, rfl⟩ := h.shape
  have H := Lib.hid h; clear h
  have hfd := field_digits
  go_enter Tryz.func20, Tryz.ntmps20
  go_wp2_with fail
  obtain ⟨W, eW, h1, h2, bel, hsz⟩ := alloc2 w (Obj.cells #[Value.bool n, Value.slice ao k c] 25) (Obj.cells #[Value.bool false, Value.slice none 0 0] 25)
  rw [eW]
  have H2 := Lib.hid h2; have HSZ := Lib.hid hsz; have B := Lib.hid bel
  clear eW h1 h2 hsz bel
  refine (from_any2 _ z W (H.out.below B.out)).mono ?_
  rintro e w1 ⟨v0, rfl, hz, hb⟩
  obtain ⟨n0, a0, k0, c0, rfl⟩ := hz.shape
  have Z0 := Lib.hid hz
  have H2' := Lib.hid ((hb.block _ HSZ.out).trans H2.out); have HSZ' := Lib.hid (size_to hb HSZ.out); have B' := Lib.hid (below_of B.out hb)
  clear hz hb H2 HSZ B
  have H2 := H2'; have HSZ := HSZ'; have B := B'
  clear H2' HSZ' B'
  go_wp2_with fail
  refine (make_digits Z0.out).mono ?_
  rintro e w2 ⟨v1, rfl, hz, hb⟩
  obtain ⟨n1, a1, k1, c1, rfl⟩ := hz.shape
  have Z1 := Lib.hid hz
  have H2' := Lib.hid ((hb.block _ HSZ.out).trans H2.out); have HSZ' := Lib.hid (size_to hb HSZ.out); have B' := Lib.hid (below_of B.out hb)
  clear hz hb H2 HSZ B
  have H2 := H2'; have HSZ := HSZ'; have B := B'
  clear H2' HSZ' B'
  go_wp2_with fail
  refine (to_any2 _ (z.natAbs : Int) w2 Z1.out).mono ?_
  rintro e w9 ⟨v9, rfl, hi, hb9⟩
  have hR := (hb9.block _ HSZ.out).trans H2.out
  obtain ⟨n9, a9, k9, c9, rfl⟩ := hi.shape
  obtain ⟨x0, x1, g0, g1, hlt⟩ := blk2 hR
  have HF := Lib.hid (hi.far (y0 := .bool n9) (y1 := .slice a9 k9 c9) hR)
  have B9 := Lib.hid (below_of B.out hb9)
  clear hi hb9 hR hlt
  go_wp2
  refine bodyPost_ret (v := .agg #[.bool n9, .slice a9 k9 c9]) ?_ rfl ⟨_, rfl, HF.out, (B9.out.setCell (p := ⟨w.heap.size + 1, 0, none⟩) (Nat.le_add_right _ _) _).setCell (p := ⟨w.heap.size + 1, 1, none⟩) (Nat.le_add_right _ _) _⟩
  simp [results, Tryz.results20, go_sem, *]

set_option maxRecDepth 100000 in
theorem normI_any (v : Value) (z : Int) (w : World) (h : IntV w v z) : Calls Tryz.prog 11 #[v] w fun e w' => ∃ v', e = .returned v' ∧ IntC w' w.heap.size v' z ∧ Below w.heap.size w w' := by
  obtain ⟨n, ao, k, c, t, rfl, N, R⟩ := h.rd
  have N := Lib.hid N; have R := Lib.hid R
  clear h
  go_enter Tryz.func11, Tryz.ntmps11
  go_wp2_with fail
  obtain ⟨W, eW, h1, h2, bel, hsz⟩ := alloc2 w (Obj.cells #[Value.bool n, Value.slice ao k c] 25) (Obj.cells #[Value.bool false, Value.slice none 0 0] 25)
  rw [eW]
  have H2 := Lib.hid h2
  clear eW h1 h2
  refine (R.out W bel).mono ?_
  rintro e w1 ⟨rfl, hb1, hs1⟩
  clear hs1
  have B2 := below_of bel hb1
  go_wp2_with fail
  refine (copied_any _ z w1 (N.out.below B2)).mono ?_
  rintro e w3 ⟨v3, rfl, hi, hb3⟩
  have hR := (hb3.block _ (size_to hb1 hsz)).trans ((hb1.block _ hsz).trans H2.out)
  obtain ⟨n2, a2, k2, c2, rfl⟩ := hi.shape
  obtain ⟨k0, k1, g0, g1, hlt⟩ := blk2 hR
  have hs2 : w.heap.size + 1 < w1.heap.size := size_to hb1 hsz
  go_wp2
  refine bodyPost_ret (v := .agg #[.bool n2, .slice a2 k2 c2]) ?_ rfl ⟨_, rfl, ((hi.far hs2).far hs2).mono B2.size, ((below_of B2 hb3).setCell (p := ⟨w.heap.size + 1, 0, none⟩) (Nat.le_add_right _ _) _).setCell (p := ⟨w.heap.size + 1, 1, none⟩) (Nat.le_add_right _ _) _⟩
  simp [results, Tryz.results11, go_sem, *]

theorem zcmp_tt {x y : Int} (hx : x < 0) (hy : y < 0) : zcmp x y = cmp3 y.natAbs x.natAbs := by
  rw [← zcmp_neg y x, zcmp_abs_pos (by omega) (by omega), Int.natAbs_neg, Int.natAbs_neg]
set_option maxHeartbeats 2000000 in
set_option maxRecDepth 100000 in
theorem cmp1_any (va vb : Value) (x y : Int) (w : World) (ha : ZV w va x) (hb : ZV w vb y) : Calls Tryz.prog 32 #[va, vb] w fun e w' => e = .returned (.int .i64 (zcmp x y)) ∧ Below w.heap.size w w' := by
  obtain ⟨n1, a1, k1, c1, rfl⟩ := ha.shape
  obtain ⟨n2, a2, k2, c2, rfl⟩ := hb.shape
  obtain ⟨rfl, xs, s1, l1, t1, e1, rfl⟩ := ha.parts
  obtain ⟨rfl, ys, s2, l2, t2, e2, rfl⟩ := hb.parts
  have C12 : Hid (∀ w1, Below w.heap.size w w1 → Calls Tryz.prog 54 #[.slice a1 xs.length c1, .slice a2 ys.length c2] w1 fun e w' => e = .returned (.int .i64 (cmp3 x.natAbs y.natAbs)) ∧ Below w1.heap.size w1 w') := Lib.hid (fun w1 hb => by
    rw [← e1, ← e2]; exact cmpD_any _ _ xs ys w1 (s1.below hb) (s2.below hb) l1 l2 t1 t2)
  have C21 : Hid (∀ w1, Below w.heap.size w w1 → Calls Tryz.prog 54 #[.slice a2 ys.length c2, .slice a1 xs.length c1] w1 fun e w' => e = .returned (.int .i64 (cmp3 y.natAbs x.natAbs)) ∧ Below w1.heap.size w1 w') := Lib.hid (fun w1 hb => by
    rw [← e1, ← e2]; exact cmpD_any _ _ ys xs w1 (s2.below hb) (s1.below hb) l2 l1 t2 t1)
  clear ha hb s1 s2 l1 l2 t1 t2 e1 e2
  generalize xs.length = k1 at *
  generalize ys.length = k2 at *
  by_cases hx : x < 0 <;> by_cases hy : y < 0
  · have E := Lib.hid (zcmp_tt hx hy)
    rw [sgn_neg hx, sgn_neg hy]
    clear hx hy
    go_enter Tryz.func32, Tryz.ntmps32
    go_wp2_with fail
    obtain ⟨W, eW, h1, h2, bel, hsz⟩ := alloc2 w (Obj.cells #[Value.bool true, Value.slice a1 k1 c1] 53) (Obj.cells #[Value.bool true, Value.slice a2 k2 c2] 53)
    rw [eW]
    clear eW h1 h2 hsz
    refine (C21.out W bel).mono ?_
    rintro e w1 ⟨rfl, hb1⟩
    go_wp2
    go_ret
    exact ⟨by rw [E.out]; rfl, below_of bel hb1⟩
  · have E := Lib.hid (zcmp_lt (a := x) (b := y) (by omega))
    rw [sgn_neg hx, sgn_pos (z := y) (by omega)]
    clear hx hy
    go_enter Tryz.func32, Tryz.ntmps32
    go_wp2
    go_ret
    exact ⟨by rw [E.out]; rfl, ((Below.refl _ _).alloc (Nat.le_refl _) _).alloc (by simp) _⟩
  · have E := Lib.hid (zcmp_gt (a := x) (b := y) (by omega))
    rw [sgn_pos (z := x) (by omega), sgn_neg hy]
    clear hx hy
    go_enter Tryz.func32, Tryz.ntmps32
    go_wp2
    go_ret
    exact ⟨by rw [E.out]; rfl, ((Below.refl _ _).alloc (Nat.le_refl _) _).alloc (by simp) _⟩
  · have E := Lib.hid (zcmp_abs_pos (a := x) (b := y) (by omega) (by omega))
    rw [sgn_pos (z := x) (by omega), sgn_pos (z := y) (by omega)]
    clear hx hy
    go_enter Tryz.func32, Tryz.ntmps32
    go_wp2_with fail
    obtain ⟨W, eW, h1, h2, bel, hsz⟩ := alloc2 w (Obj.cells #[Value.bool false, Value.slice a1 k1 c1] 53) (Obj.cells #[Value.bool false, Value.slice a2 k2 c2] 53)
    rw [eW]
    clear eW h1 h2 hsz
    refine (C12.out W bel).mono ?_
    rintro e w1 ⟨rfl, hb1⟩
    go_wp2
    go_ret
    exact ⟨by rw [E.out]; rfl, below_of bel hb1⟩

set_option maxHeartbeats 1000000 in
set_option maxRecDepth 100000 in
theorem rsign_any2 (v : Value) (z : Int) (w : World) (h : IntV w v z) : Calls Tryz.prog 16 #[v] w fun e w' => e = .returned (.int .i64 (zcmp z 0)) ∧ Below w.heap.size w w' := by
  obtain ⟨n, ao, k, c, rfl⟩ := h.shape
  have H := Lib.hid h; clear h
  go_enter Tryz.func16, Tryz.ntmps16
  go_wp2_with fail
  obtain ⟨W, eW, h1, bel, hsz⟩ := alloc1 w (Obj.cells #[Value.bool n, Value.slice ao k c] 25)
  rw [eW]
  have B := Lib.hid bel
  clear eW h1 hsz bel
  refine (from_any2 _ z W (H.out.below B.out)).mono ?_
  rintro e w1 ⟨v1, rfl, hz, hb⟩
  obtain ⟨n1, a1, k1, c1, rfl⟩ := hz.shape
  have Z1 := Lib.hid hz; have B1 := Lib.hid (below_of B.out hb)
  clear hz hb
  go_wp2_with fail
  refine (cmp1_any _ _ z 0 w1 Z1.out (zv_nil _)).mono ?_
  rintro e w2 ⟨rfl, hb2⟩
  have B2 := Lib.hid (below_of B1.out hb2)
  clear hb2
  go_wp2
  go_ret
  exact ⟨rfl, B2.out⟩

set_option maxHeartbeats 2000000 in
set_option maxRecDepth 100000 in
theorem rcmp_any2 (va vb : Value) (x y : Int) (w : World) (ha : IntV w va x) (hb : IntV w vb y) : Calls Tryz.prog 14 #[va, vb] w fun e w' => e = .returned (.int .i64 (zcmp x y)) ∧ Below w.heap.size w w' := by
  obtain ⟨n1, a1, k1, c1, rfl⟩ := ha.shape
  obtain ⟨n2, a2, k2, c2, rfl⟩ := hb.shape
  have HA := Lib.hid ha; have HB := Lib.hid hb
  clear ha hb
  go_enter Tryz.func14, Tryz.ntmps14
  go_wp2
  obtain ⟨W, eW, h1, h2, bel, hsz⟩ := alloc2 w (Obj.cells #[Value.bool n1, Value.slice a1 k1 c1] 25) (Obj.cells #[Value.bool n2, Value.slice a2 k2 c2] 25)
  rw [eW]
  obtain ⟨p0, p1, _, _, _⟩ := blk2 h1
  obtain ⟨q0, q1, _, _, _⟩ := blk2 h2
  have BEL := Lib.hid bel
  have STAY : Hid (∀ w', Below W.heap.size W w' → w'.cell? ⟨w.heap.size, 0, none⟩ = some (.bool n1) ∧ w'.cell? ⟨w.heap.size, 1, none⟩ = some (.slice a1 k1 c1) ∧ w'.cell? ⟨w.heap.size + 1, 0, none⟩ = some (.bool n2) ∧ w'.cell? ⟨w.heap.size + 1, 1, none⟩ = some (.slice a2 k2 c2) ∧ Below W.heap.size W w') :=
    Lib.hid (fun w' h => ⟨cell_to h p0 (by omega), cell_to h p1 (by omega), cell_to h q0 (by omega), cell_to h q1 (by omega), h⟩)
  have hB0 := (Below.refl W.heap.size W).drew
  clear eW h1 h2 bel p0 p1 q0 q1
  go_region_held3 (fun w' => w'.cell? ⟨w.heap.size, 0, none⟩ = some (.bool n1) ∧ w'.cell? ⟨w.heap.size, 1, none⟩ = some (.slice a1 k1 c1) ∧ w'.cell? ⟨w.heap.size + 1, 0, none⟩ = some (.bool n2) ∧ w'.cell? ⟨w.heap.size + 1, 1, none⟩ = some (.slice a2 k2 c2) ∧ Below W.heap.size W w')
    ((try go_split_ands; refine STAY.out _ ?_; first | assumption | exact below_to (by assumption) (by assumption)))
    (first
    | (go_at_call 31; go_split_ands; first | (refine Calls.mono (from_any2 _ x _ ?_) ?_; (exact HA.out.below (below_of BEL.out (by assumption))); rintro e w1 ⟨v1, rfl, hz1, hb1⟩; obtain ⟨m1, d1, l1, e1, rfl⟩ := hz1.shape) | (refine Calls.mono (from_any2 _ y _ ?_) ?_; (exact HB.out.below (below_of BEL.out (by assumption))); rintro e w2 ⟨v2, rfl, hz2, hb2⟩; have hz1' := hz1.below hb2; obtain ⟨m2, d2, l2, e2, rfl⟩ := hz2.shape))
    | (go_at_call 32; go_split_ands; refine (cmp1_any _ _ x y _ (by assumption) (by assumption)).mono ?_; rintro e w3 ⟨rfl, hb3⟩))
  go_wp2
  go_ret
  exact ⟨rfl, below_of BEL.out (by first | assumption | (go_split_ands; assumption))⟩
end Go.Proofs.YtckmpnfadpnaeaaGreatDoor
