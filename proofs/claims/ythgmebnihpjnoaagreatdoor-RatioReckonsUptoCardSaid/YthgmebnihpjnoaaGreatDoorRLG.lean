/- tribunalref03: Low where the denominator is below nought (written by genrlg.py). -/
import Derived.Test.YthgmebnihpjnoaaGreatDoorQB6
import Derived.Test.YthgmebnihpjnoaaGreatDoorYV
import Derived.Deep.RegionHeld3
set_option linter.unusedVariables false
set_option linter.unusedSimpArgs false
namespace Go.Proofs.YthgmebnihpjnoaaGreatDoor
open Go.RowKit Mth

theorem sgn_negd {d : Nat} (h : 0 < d) : sgn (-(d : Int)) = true := sgn_neg (by omega)
theorem low_negx (x : Int) (d : Nat) : lowN (-x) d = -(lowN x d) ∧ lowD (-x) d = lowD x d := by
  refine ⟨?_, by unfold lowD; rw [Int.natAbs_neg]⟩
  rcases Int.lt_trichotomy x 0 with h | h | h
  · unfold lowN; rw [Int.natAbs_neg, sgn_neg h, sgn_pos (by omega)]; simp [sg]
  · subst h; unfold lowN; simp [sg, sgn]
  · unfold lowN; rw [Int.natAbs_neg, sgn_neg (by omega), sgn_pos (by omega)]; simp [sg]
theorem low_qCn (x : Int) {d : Nat} (h : 0 < d) : qC x ((Nat.gcd x.natAbs d : Nat) : Int) = lowN x d ∧ qC (-(d : Int)) ((Nat.gcd x.natAbs d : Nat) : Int) = -(lowD x d : Int) := by
  refine ⟨(low_qC x h).1, ?_⟩
  unfold qC lowD
  rw [sgn_negd h, sgn_nat, Int.natAbs_neg, Int.natAbs_natCast, Int.natAbs_natCast]
  rfl
set_option maxRecDepth 100000 in
set_option maxHeartbeats 16000000 in
theorem rlow_neg (va vb : Value) (x : Int) (d : Nat) (w : World) (ha : ZV w va x) (hb : ZV w vb (-(d : Int))) (h0 : 0 < d) (hd : d < HugeD) :
    Calls Tryz.prog 61 #[va, vb] w fun e w' => ∃ v', e = .returned v' ∧ QV w' v' (lowN (-x) d) (lowD (-x) d) ∧ Below w.heap.size w w' := by
  obtain ⟨n1, a1, k1, c1, rfl⟩ := ha.shape
  obtain ⟨n2, a2, k2, c2, rfl⟩ := hb.shape
  obtain ⟨e2, _⟩ := hb.parts
  rw [sgn_negd h0] at e2
  subst e2
  have HA := Lib.hid ha; have HB := Lib.hid hb
  have hg0 : (((Nat.gcd x.natAbs d : Nat) : Int)) ≠ 0 := by have := gcd_posD (n := x.natAbs) h0; omega
  have hg1 : (((Nat.gcd x.natAbs d : Nat) : Int)).natAbs < HugeD := by rw [Int.natAbs_natCast]; exact Nat.lt_of_le_of_lt (Nat.gcd_le_right _ h0) hd
  have LQ := Lib.hid (low_qCn x h0)
  have GC : Hid (∀ w1, Below w.heap.size w w1 → Calls Tryz.prog 47 #[.agg #[.bool n1, .slice a1 k1 c1], .agg #[.bool true, .slice a2 k2 c2]] w1 fun e w' => ∃ v', e = .returned v' ∧ ZV w' v' ((Nat.gcd x.natAbs d : Nat) : Int) ∧ Below w1.heap.size w1 w') :=
    Lib.hid (fun w1 h => by have := rgcd3_any _ _ x (-(d : Int)) w1 (HA.out.below h) (HB.out.below h) (by rw [Int.natAbs_neg, Int.natAbs_natCast]; exact hd); rwa [Int.natAbs_neg, Int.natAbs_natCast] at this)
  have CA : Hid (∀ v w1, Below w.heap.size w w1 → ZV w1 v ((Nat.gcd x.natAbs d : Nat) : Int) → Calls Tryz.prog 90 #[.agg #[.bool n1, .slice a1 k1 c1], v] w1 fun e w' => ∃ v1 v2, e = .returned (.tuple #[v1, v2]) ∧ ZV w' v1 (lowN x d) ∧ ZV w' v2 (rC x ((Nat.gcd x.natAbs d : Nat) : Int)) ∧ Below w1.heap.size w1 w') :=
    Lib.hid (fun v w1 h hv => by rw [← LQ.out.1]; exact cut_any _ _ x _ w1 (HA.out.below h) hv hg1 hg0)
  have CB : Hid (∀ v w1, Below w.heap.size w w1 → ZV w1 v ((Nat.gcd x.natAbs d : Nat) : Int) → Calls Tryz.prog 90 #[.agg #[.bool true, .slice a2 k2 c2], v] w1 fun e w' => ∃ v1 v2, e = .returned (.tuple #[v1, v2]) ∧ ZV w' v1 (-(lowD x d : Int)) ∧ ZV w' v2 (rC (-(d : Int)) ((Nat.gcd x.natAbs d : Nat) : Int)) ∧ Below w1.heap.size w1 w') :=
    Lib.hid (fun v w1 h hv => by rw [← LQ.out.2]; exact cut_any _ _ (-(d : Int)) _ w1 (HB.out.below h) hv hg1 hg0)
  clear ha hb hg0 hg1 HA HB h0 hd LQ
  go_enter Tryz.func61, Tryz.ntmps61
  go_wp2_with fail
  obtain ⟨W, eW, h1, h2, h3, bel, hsz⟩ := alloc3 w (Obj.cells #[Value.bool n1, Value.slice a1 k1 c1] 66) (Obj.cells #[Value.bool true, Value.slice a2 k2 c2] 66) (Obj.cells #[Value.bool false, Value.slice none 0 0, Value.bool false, Value.slice none 0 0] 71)
  try rw [eW]
  have BW := Lib.hid bel; have H1 := Lib.hid h1; have H2 := Lib.hid h2; have H3 : Hid (W.heap[w.heap.size + 1 + 1]? = _) := Lib.hid h3
  obtain ⟨p0, p1, _, _, lp⟩ := blk2 h1
  obtain ⟨q0, q1, _, _, lq⟩ := blk2 h2
  have hszW0 := hsz
  clear eW h1 h2 h3 bel hsz
  try go_wp2_with fail
  refine (GC.out W BW.out).mono ?_
  rintro e w3 ⟨v3, rfl, z3, hb3⟩
  obtain ⟨n3, a3, k3, c3, rfl⟩ := z3.shape
  obtain ⟨U, eU, hG, belU, hsU⟩ := alloc1q w3 (Obj.cells #[Value.bool n3, Value.slice a3 k3 c3] 66)
  have BU := Lib.hid (below_of (below_of BW.out hb3) belU)
  have ZU := Lib.hid (z3.below belU)
  have U1 := Lib.hid (blk_below' belU (blk_below' hb3 H1.out)); have U2 := Lib.hid (blk_below' belU (blk_below' hb3 H2.out)); have U3 := Lib.hid (blk_below' belU (blk_below' hb3 H3.out)); have UG := Lib.hid hG
  have hz3 := hb3.size
  clear p0 p1 q0 q1
  obtain ⟨p0, p1, _, _, lp'⟩ := blk2 U1.out
  obtain ⟨g0, g1, _, _, lg'⟩ := blk2 hG
  clear z3 hb3 hG belU H1 H2 H3 BW
  go_wp2_with fail
  try rw [eU]
  clear eU p0 p1 g0 g1
  refine (CA.out _ U BU.out ZU.out).mono ?_
  rintro e w4 ⟨v4, v5, rfl, z4, z5, hb4⟩
  obtain ⟨n4, a4, k4, c4, rfl⟩ := z4.shape
  obtain ⟨n5, a5, k5, c5, rfl⟩ := z5.shape
  obtain ⟨Y, eY, hQ, -, belY, hsY⟩ := alloc2 w4 (Obj.cells #[Value.bool n4, Value.slice a4 k4 c4] 66) (Obj.cells #[Value.bool n5, Value.slice a5 k5 c5] 66)
  have BY := Lib.hid (below_of (below_of BU.out hb4) belY)
  have ZY := Lib.hid ((ZU.out.below hb4).below belY)
  have ZN := Lib.hid (z4.below belY)
  have Y2 := Lib.hid (blk_below' belY (blk_below' hb4 U2.out)); have Y3 := Lib.hid (blk_below' belY (blk_below' hb4 U3.out)); have YG := Lib.hid (blk_below' belY (blk_below' hb4 UG.out)); have YQ := Lib.hid hQ
  have hz4 := hb4.size
  obtain ⟨q0, q1, _, _, lq2⟩ := blk2 Y2.out
  obtain ⟨g0, g1, _, _, lg2⟩ := blk2 YG.out
  clear z4 z5 hb4 hQ belY U1 U2 U3 UG BU ZU
  go_wp2_with fail
  try rw [eY]
  clear eY q0 q1 g0 g1
  refine (CB.out _ Y BY.out ZY.out).mono ?_
  rintro e w6 ⟨v6, v7, rfl, z6, z7, hb6⟩
  obtain ⟨n6, a6, k6, c6, rfl⟩ := z6.shape
  obtain ⟨n7, a7, k7, c7, rfl⟩ := z7.shape
  obtain ⟨X, eX, hP, -, belX, hsX⟩ := alloc2 w6 (Obj.cells #[Value.bool n6, Value.slice a6 k6 c6] 66) (Obj.cells #[Value.bool n7, Value.slice a7 k7 c7] 66)
  have BX := Lib.hid (below_of (below_of BY.out hb6) belX)
  have hXD := Lib.hid (blk_below' belX (blk_below' hb6 Y2.out)); have hXR := Lib.hid (blk_below' belX (blk_below' hb6 Y3.out)); have hXQ := Lib.hid (blk_below' belX (blk_below' hb6 YQ.out)); have hYQ := Lib.hid hP
  have MN : Hid (∀ u, Below X.heap.size X u → Calls Tryz.prog 58 #[.agg #[.bool n4, .slice a4 k4 c4]] u fun e w' => ResZ u w' e (-(lowN x d))) := Lib.hid (fun u hu => (minus_any2 _ _ u (((ZN.out.below hb6).below belX).below hu)).mono (by rintro e w' ⟨v', rfl, hv, hb⟩; obtain ⟨n, a, k, c, rfl⟩ := hv.shape; exact ⟨_, _, _, _, rfl, hv, hb⟩))
  have MD : Hid (∀ u, Below X.heap.size X u → Calls Tryz.prog 58 #[.agg #[.bool n6, .slice a6 k6 c6]] u fun e w' => ResZ u w' e (lowD x d : Int)) := Lib.hid (fun u hu => (minus_any2 _ _ u ((z6.below belX).below hu)).mono (by rintro e w' ⟨v', rfl, hv, hb⟩; obtain ⟨n, a, k, c, rfl⟩ := hv.shape; rw [Int.neg_neg] at hv; exact ⟨_, _, _, _, rfl, hv, hb⟩))
  have hz6 := hb6.size
  have hsX' : w6.heap.size + 1 < X.heap.size := hsX
  have hsYY : w4.heap.size + 1 < Y.heap.size := hsY
  have hsUU : w3.heap.size < U.heap.size := hsU
  have hszW : w.heap.size + 1 + 1 < W.heap.size := hszW0
  have hne1 : w6.heap.size ≠ w4.heap.size := by omega
  have hne2 : w.heap.size + 1 + 1 ≠ w4.heap.size := by omega
  have hne3 : w.heap.size + 1 + 1 ≠ w6.heap.size := by omega
  have hlx : w.heap.size ≤ w4.heap.size := by omega
  have hly : w.heap.size ≤ w6.heap.size := by omega
  have hle : w.heap.size ≤ w.heap.size + 1 + 1 := by omega
  obtain ⟨q0, q1, _, _, lq3⟩ := blk2 hXD.out
  obtain ⟨s0, s1, _, _, ls3⟩ := blk2 hXQ.out
  obtain ⟨t0, t1, _, _, lt3⟩ := blk2 hYQ.out
  have STAY : Hid (∀ w', Below X.heap.size X w' → w'.cell? ⟨w4.heap.size, 0, none⟩ = some (.bool n4) ∧ w'.cell? ⟨w4.heap.size, 1, none⟩ = some (.slice a4 k4 c4) ∧ w'.cell? ⟨w6.heap.size, 0, none⟩ = some (.bool n6) ∧ w'.cell? ⟨w6.heap.size, 1, none⟩ = some (.slice a6 k6 c6) ∧ Below X.heap.size X w' ∧ X.heap.size ≤ w'.heap.size) := Lib.hid (fun w' h => ⟨cell_to h s0 ls3, cell_to h s1 ls3, cell_to h t0 lt3, cell_to h t1 lt3, h, h.size⟩)
  have hB0 := (Below.refl X.heap.size X).drew
  have LNEG : Hid (lowN (-x) d = -(lowN x d) ∧ lowD (-x) d = lowD x d) := Lib.hid (low_negx x d)
  clear z6 z7 hb6 belX Y2 Y3 YG YQ BY ZY ZN hP
  go_wp2_with fail
  try rw [eX]
  try clear eX
  clear q0 q1
  go_region_with (go_at_call 58; first
    | ((with_reducible refine Calls.mono (MN.out _ (by first | exact Below.refl _ _ | exact (Below.refl _ _).drew | exact hkD | exact hkD.drew | exact (Below.refl _ _).drew.drew)) ?_); rintro e wB ⟨mB, dB, lB, eB, rfl, jj1, hbB⟩; have hkB := below_of (w := X) (by first | exact Below.refl _ _ | exact (Below.refl _ _).drew | exact hkD | exact hkD.drew | exact (Below.refl _ _).drew.drew) hbB; obtain ⟨x0B, x1B, xf0B, xf1B, _⟩ := blk2 (blk_below' hkB hXQ.out); obtain ⟨y0B, y1B, yf0B, yf1B, _⟩ := blk2 (blk_below' hkB hYQ.out))
    | ((with_reducible refine Calls.mono (MD.out _ (by first | exact Below.refl _ _ | exact (Below.refl _ _).drew | exact hkB | exact hkB.drew | exact (Below.refl _ _).drew.drew)) ?_); rintro e wD ⟨mD, dD, lD, eD, rfl, jj2, hbD⟩; have hkD := below_of (w := X) (by first | exact Below.refl _ _ | exact (Below.refl _ _).drew | exact hkB | exact hkB.drew | exact (Below.refl _ _).drew.drew) hbD; obtain ⟨x0D, x1D, xf0D, xf1D, _⟩ := blk2 (blk_below' hkD hXQ.out); obtain ⟨y0D, y1D, yf0D, yf1D, _⟩ := blk2 (blk_below' hkD hYQ.out)))
  all_goals
    (try clear x0B x1B xf0B xf1B y0B y1B yf0B yf1B)
    (try clear x0D x1D xf0D xf1D y0D y1D yf0D yf1D)
    first
    | (have GXL := blk_below' hkD hXQ.out
       have GYL := blk_below' hkD hYQ.out
       have GRL := blk_below' hkD hXR.out
       have Z1 : ZV wD (.agg #[.bool mB, .slice dB lB eB]) (-(lowN x d)) := zv_callzQ hbD (by first | exact jj1 | exact zv_drewz jj1)
       have Z2 : ZV wD (.agg #[.bool mD, .slice dD lD eD]) (lowD x d : Int) := jj2
       have GY1 := blk_far2 (y0 := .bool mB) (y1 := .slice dB lB eB) GYL hne1
       have V1 := Lib.hid ((Z1.far (y0 := .bool mB) (y1 := .slice dB lB eB) GXL).far (y0 := .bool mD) (y1 := .slice dD lD eD) GY1)
       have V2 := Lib.hid ((Z2.far (y0 := .bool mB) (y1 := .slice dB lB eB) GXL).far (y0 := .bool mD) (y1 := .slice dD lD eD) GY1)
       have HX := Lib.hid (blk_far2 (y0 := .bool mD) (y1 := .slice dD lD eD) (blk_to2 (x := .bool mB) (y := .slice dB lB eB) GXL) hne1.symm)
       have HY := Lib.hid (blk_to2 (x := .bool mD) (y := .slice dD lD eD) GY1)
       have HRR := Lib.hid (blk_far2 (y0 := .bool mD) (y1 := .slice dD lD eD) (blk_far2 (y0 := .bool mB) (y1 := .slice dB lB eB) GRL hne2) hne3)
       have BV := Lib.hid (set_below (set_below (set_below (set_below (below_of BX.out hkD) hlx (v := .bool mB) (i := 0)) hlx (v := .slice dB lB eB) (i := 1)) hly (v := .bool mD) (i := 0)) hly (v := .slice dD lD eD) (i := 1))
       clear GXL GYL GRL Z1 Z2 GY1
       go_upto_region 6 with fail
       generalize ((((wD.setCell ⟨w4.heap.size, 0, none⟩ (.bool mB)).setCell ⟨w4.heap.size, 1, none⟩ (.slice dB lB eB)).setCell ⟨w6.heap.size, 0, none⟩ (.bool mD)).setCell ⟨w6.heap.size, 1, none⟩ (.slice dD lD eD)) = V at *
       obtain ⟨s0, s1, _, _, _⟩ := blk2 HX.out
       obtain ⟨t0, t1, _, _, _⟩ := blk2 HY.out
       obtain ⟨⟨r0, r1, r2, r3⟩, ⟨f0, f1, f2, f3⟩, _⟩ := blk4q HRR.out
       have F1 := Lib.hid (V1.out.far4 (y0 := .bool mB) (y1 := .slice dB lB eB) (y2 := .bool mD) (y3 := .slice dD lD eD) HRR.out)
       have F2 := Lib.hid (V2.out.far4 (y0 := .bool mB) (y1 := .slice dB lB eB) (y2 := .bool mD) (y3 := .slice dD lD eD) HRR.out)
       go_wp2
       refine bodyPost_ret (v := .agg #[.bool mB, .slice dB lB eB, .bool mD, .slice dD lD eD]) ?_ rfl ⟨_, rfl, ⟨_, _, _, _, _, _, _, _, rfl, by rw [LNEG.out.1]; exact F1.out, by rw [LNEG.out.2]; exact F2.out⟩, (((BV.out.setCell (p := ⟨w.heap.size + 1 + 1, 0, none⟩) hle _).setCell (p := ⟨w.heap.size + 1 + 1, 1, none⟩) hle _).setCell (p := ⟨w.heap.size + 1 + 1, 2, none⟩) hle _).setCell (p := ⟨w.heap.size + 1 + 1, 3, none⟩) hle _⟩
       simp [results, Tryz.results61, go_sem, *])
    | (have GXL := blk_below' hkB hXQ.out
       have GYL := blk_below' hkB hYQ.out
       have GRL := blk_below' hkB hXR.out
       have Z1 : ZV wB (.agg #[.bool mB, .slice dB lB eB]) (-(lowN x d)) := jj1
       have Z2 : ZV wB (.agg #[.bool mD, .slice dD lD eD]) (lowD x d : Int) := zv_callzQ hbB (by first | exact jj2 | exact zv_drewz jj2)
       have GY1 := blk_far2 (y0 := .bool mB) (y1 := .slice dB lB eB) GYL hne1
       have V1 := Lib.hid ((Z1.far (y0 := .bool mB) (y1 := .slice dB lB eB) GXL).far (y0 := .bool mD) (y1 := .slice dD lD eD) GY1)
       have V2 := Lib.hid ((Z2.far (y0 := .bool mB) (y1 := .slice dB lB eB) GXL).far (y0 := .bool mD) (y1 := .slice dD lD eD) GY1)
       have HX := Lib.hid (blk_far2 (y0 := .bool mD) (y1 := .slice dD lD eD) (blk_to2 (x := .bool mB) (y := .slice dB lB eB) GXL) hne1.symm)
       have HY := Lib.hid (blk_to2 (x := .bool mD) (y := .slice dD lD eD) GY1)
       have HRR := Lib.hid (blk_far2 (y0 := .bool mD) (y1 := .slice dD lD eD) (blk_far2 (y0 := .bool mB) (y1 := .slice dB lB eB) GRL hne2) hne3)
       have BV := Lib.hid (set_below (set_below (set_below (set_below (below_of BX.out hkB) hlx (v := .bool mB) (i := 0)) hlx (v := .slice dB lB eB) (i := 1)) hly (v := .bool mD) (i := 0)) hly (v := .slice dD lD eD) (i := 1))
       clear GXL GYL GRL Z1 Z2 GY1
       go_upto_region 6 with fail
       generalize ((((wB.setCell ⟨w4.heap.size, 0, none⟩ (.bool mB)).setCell ⟨w4.heap.size, 1, none⟩ (.slice dB lB eB)).setCell ⟨w6.heap.size, 0, none⟩ (.bool mD)).setCell ⟨w6.heap.size, 1, none⟩ (.slice dD lD eD)) = V at *
       obtain ⟨s0, s1, _, _, _⟩ := blk2 HX.out
       obtain ⟨t0, t1, _, _, _⟩ := blk2 HY.out
       obtain ⟨⟨r0, r1, r2, r3⟩, ⟨f0, f1, f2, f3⟩, _⟩ := blk4q HRR.out
       have F1 := Lib.hid (V1.out.far4 (y0 := .bool mB) (y1 := .slice dB lB eB) (y2 := .bool mD) (y3 := .slice dD lD eD) HRR.out)
       have F2 := Lib.hid (V2.out.far4 (y0 := .bool mB) (y1 := .slice dB lB eB) (y2 := .bool mD) (y3 := .slice dD lD eD) HRR.out)
       go_wp2
       refine bodyPost_ret (v := .agg #[.bool mB, .slice dB lB eB, .bool mD, .slice dD lD eD]) ?_ rfl ⟨_, rfl, ⟨_, _, _, _, _, _, _, _, rfl, by rw [LNEG.out.1]; exact F1.out, by rw [LNEG.out.2]; exact F2.out⟩, (((BV.out.setCell (p := ⟨w.heap.size + 1 + 1, 0, none⟩) hle _).setCell (p := ⟨w.heap.size + 1 + 1, 1, none⟩) hle _).setCell (p := ⟨w.heap.size + 1 + 1, 2, none⟩) hle _).setCell (p := ⟨w.heap.size + 1 + 1, 3, none⟩) hle _⟩
       simp [results, Tryz.results61, go_sem, *])
end Go.Proofs.YthgmebnihpjnoaaGreatDoor
