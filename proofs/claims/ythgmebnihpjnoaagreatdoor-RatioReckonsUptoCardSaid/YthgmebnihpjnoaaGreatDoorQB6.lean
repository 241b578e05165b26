/- RL RN RO. -/
import Derived.Test.YthgmebnihpjnoaaGreatDoorQB5
import Derived.Test.YthgmebnihpjnoaaGreatDoorQB2
set_option linter.unusedVariables false
set_option linter.unusedSimpArgs false
/- tribunalref03: To. -/
namespace Go.Proofs.YthgmebnihpjnoaaGreatDoor
open Go.RowKit Mth

theorem IntK.num {w : World} {n : Bool} {ao : Option Addr} {k c : Nat} {z : Int} (h : IntK w (.agg #[.bool n, .slice ao k c]) z) : n = sgn z ∧ Num w (.slice ao k c) z.natAbs := by
  obtain ⟨u, e, hn⟩ := h
  simp only [Value.agg.injEq, Array.mk.injEq, List.cons.injEq, Value.bool.injEq, and_true] at e
  obtain ⟨rfl, rfl⟩ := e
  exact ⟨rfl, hn⟩
set_option maxRecDepth 100000 in
set_option maxHeartbeats 4000000 in
theorem rto_big (v : Value) (x : Int) (d : Nat) (w : World) (h : QV w v x d) (h0 : 0 < d) (hd : d < HugeD) (hbig : BigR ≤ (lowN x d).natAbs ∨ BigR ≤ lowD x d) :
    Calls Tryz.prog 41 #[v] w fun e w' => e = .returned (.tuple #[.agg #[.bool false, .slice none 0 0, .slice none 0 0], .int .i64 5]) ∧ Below w.heap.size w w' := by
  obtain ⟨n1, a1, k1, c1, n2, a2, k2, c2, rfl, hN, hD⟩ := h
  have LO : Hid (∀ w1, Below w.heap.size w w1 → Calls Tryz.prog 61 #[.agg #[.bool n1, .slice a1 k1 c1], .agg #[.bool n2, .slice a2 k2 c2]] w1 fun e w' => ∃ v', e = .returned v' ∧ QV w' v' (lowN x d) (lowD x d) ∧ Below w1.heap.size w1 w') := Lib.hid (fun w1 h => rlow_any _ _ x d w1 (hN.below h) (hD.below h) h0 hd)
  have HB := Lib.hid hbig
  clear hN hD h0 hd hbig
  go_enter Tryz.func41, Tryz.ntmps41
  go_wp2_with fail
  obtain ⟨W, eW, h1, h2, bel, hsz⟩ := alloc2 w (Obj.cells #[Value.bool n1, Value.slice a1 k1 c1, Value.bool n2, Value.slice a2 k2 c2] 71) (Obj.cells #[Value.bool false, Value.slice none 0 0, Value.slice none 0 0] 27)
  try rw [eW]
  have BW := Lib.hid bel; have H2 : Hid (W.heap[w.heap.size + 1]? = _) := Lib.hid h2
  obtain ⟨⟨p0, p1, p2, p3⟩, _, lp⟩ := blk4q h1
  clear eW h1 h2 bel hsz
  try go_wp2_with fail
  refine (LO.out W BW.out).mono ?_
  rintro e w3 ⟨v3, rfl, ⟨m, a, k, c, m', a', k', c', rfl, zN, zD⟩, hb3⟩
  obtain ⟨U, eU, hG, belU, hsU⟩ := alloc1q w3 (Obj.cells #[Value.bool m, Value.slice a k c, Value.bool m', Value.slice a' k' c'] 71)
  have BU := Lib.hid (below_of (below_of BW.out hb3) belU)
  have ZN := Lib.hid (zN.below belU); have ZD := Lib.hid (zD.below belU)
  have U2 := Lib.hid (blk_below' belU (blk_below' hb3 H2.out)); have UG := Lib.hid hG
  have hz3 := hb3.size
  obtain ⟨⟨g0, g1, g2, g3⟩, _, lg⟩ := blk4q hG
  have hle : w.heap.size ≤ w.heap.size + 1 := by omega
  clear zN zD hb3 p0 p1 p2 p3 hG belU H2 BW
  by_cases hb : BigR ≤ (lowN x d).natAbs
  · have L1 := Lib.hid (long3_any _ _ true U ZN.out (decide_eq_true hb))
    clear hb
    go_wp2_with fail
    try rw [eU]
    clear eU
    refine L1.out.mono ?_
    rintro e w4 ⟨rfl, hb4⟩
    have h24 := blk_below' hb4 U2.out
    obtain ⟨⟨r0, r1, r2⟩, ⟨f0, f1, f2⟩, lr⟩ := blk3 h24
    have B4 := Lib.hid (below_of BU.out hb4)
    clear h24 hb4 g0 g1 g2 g3
    go_wp2
    refine bodyPost_ret (v := .tuple #[.agg #[.bool false, .slice none 0 0, .slice none 0 0], .int .i64 5]) ?_ rfl ⟨rfl, ((B4.out.setCell (p := ⟨w.heap.size + 1, 0, none⟩) hle _).setCell (p := ⟨w.heap.size + 1, 1, none⟩) hle _).setCell (p := ⟨w.heap.size + 1, 2, none⟩) hle _⟩
    simp [results, Tryz.results41, go_sem, *]
  · have hb' : BigR ≤ lowD x d := by rcases HB.out with h | h; exact absurd h hb; exact h
    have L1 := Lib.hid (long3_any _ _ false U ZN.out (decide_eq_false hb))
    have L2 : Hid (∀ w1, Below U.heap.size U w1 → Calls Tryz.prog 40 #[.agg #[.bool m', .slice a' k' c']] w1 fun e w' => e = .returned (.bool true) ∧ Below w1.heap.size w1 w') := Lib.hid (fun w1 h => long3_any _ _ true w1 (ZD.out.below h) (by rw [Int.natAbs_natCast]; exact decide_eq_true hb'))
    clear hb hb'
    go_wp2_with fail
    try rw [eU]
    clear eU
    refine L1.out.mono ?_
    rintro e w4 ⟨rfl, hb4⟩
    have h24 := blk_below' hb4 U2.out
    obtain ⟨⟨g0', g1', g2', g3'⟩, _, lg'⟩ := blk4q (blk_below' hb4 UG.out)
    have B4 := Lib.hid (below_of BU.out hb4)
    have C4 := Lib.hid (L2.out w4 hb4)
    have hh := Lib.hid h24
    clear h24 hb4 g0 g1 g2 g3
    go_wp2_with fail
    refine C4.out.mono ?_
    rintro e w5 ⟨rfl, hb5⟩
    obtain ⟨⟨r0, r1, r2⟩, ⟨f0, f1, f2⟩, lr⟩ := blk3 (blk_below' hb5 hh.out)
    have B5 := Lib.hid (below_of B4.out hb5)
    clear hb5 g0' g1' g2' g3'
    go_wp2
    refine bodyPost_ret (v := .tuple #[.agg #[.bool false, .slice none 0 0, .slice none 0 0], .int .i64 5]) ?_ rfl ⟨rfl, ((B5.out.setCell (p := ⟨w.heap.size + 1, 0, none⟩) hle _).setCell (p := ⟨w.heap.size + 1, 1, none⟩) hle _).setCell (p := ⟨w.heap.size + 1, 2, none⟩) hle _⟩
    simp [results, Tryz.results41, go_sem, *]
end Go.Proofs.YthgmebnihpjnoaaGreatDoor

/- tribunalref03: To, where it is not long. -/
namespace Go.Proofs.YthgmebnihpjnoaaGreatDoor
open Go.RowKit Mth

theorem ZV.zrn3 {W w1 : World} {v : Value} {z : Int} {R k0 : Nat} {T : TypeId} {x : Bool} {ao ao' : Option Addr} {n c n' c' : Nat} (h : ZV W v z) (hR : W.heap[R]? = some (.cells #[.bool x, .slice ao n c, .slice ao' n' c'] T (0, 0))) (hz : ZrN W w1 R T k0) : ZV w1 v z := by
  obtain ⟨u, e, ys, h1, h2⟩ := h
  exact ⟨u, e, ys, h1.zr hz.zr (fun b off cap e hp => h1.ne3 hR e hp), h2⟩
set_option maxRecDepth 100000 in
set_option maxHeartbeats 8000000 in
theorem rto_fine (v : Value) (x : Int) (d : Nat) (w : World) (h : QV w v x d) (h0 : 0 < d) (hd : d < HugeD) (hs1 : (lowN x d).natAbs < BigR) (hs2 : lowD x d < BigR) :
    Calls Tryz.prog 41 #[v] w fun e w' => ∃ v', e = .returned (.tuple #[v', .int .i64 0]) ∧ FrV w' v' (lowN x d) (lowD x d) ∧ Below w.heap.size w w' := by
  obtain ⟨n1, a1, k1, c1, n2, a2, k2, c2, rfl, hN, hD⟩ := h
  have LO : Hid (∀ w1, Below w.heap.size w w1 → Calls Tryz.prog 61 #[.agg #[.bool n1, .slice a1 k1 c1], .agg #[.bool n2, .slice a2 k2 c2]] w1 fun e w' => ∃ v', e = .returned v' ∧ QV w' v' (lowN x d) (lowD x d) ∧ Below w1.heap.size w1 w') := Lib.hid (fun w1 h => rlow_any _ _ x d w1 (hN.below h) (hD.below h) h0 hd)
  clear hN hD h0 hd
  go_enter Tryz.func41, Tryz.ntmps41
  go_wp2_with fail
  obtain ⟨W, eW, h1, h2, bel, hsz⟩ := alloc2 w (Obj.cells #[Value.bool n1, Value.slice a1 k1 c1, Value.bool n2, Value.slice a2 k2 c2] 71) (Obj.cells #[Value.bool false, Value.slice none 0 0, Value.slice none 0 0] 27)
  try rw [eW]
  have BW := Lib.hid bel; have H2 : Hid (W.heap[w.heap.size + 1]? = _) := Lib.hid h2
  obtain ⟨⟨p0, p1, p2, p3⟩, _, lp⟩ := blk4q h1
  have hszk : w.heap.size + 1 < W.heap.size := hsz
  clear eW h1 h2 bel hsz
  try go_wp2_with fail
  refine (LO.out W BW.out).mono ?_
  rintro e w3 ⟨v3, rfl, ⟨m, a, k, c, m', a', k', c', rfl, zN, zD⟩, hb3⟩
  obtain ⟨U, eU, hG, belU, hsU⟩ := alloc1q w3 (Obj.cells #[Value.bool m, Value.slice a k c, Value.bool m', Value.slice a' k' c'] 71)
  have BU := Lib.hid (below_of (below_of BW.out hb3) belU)
  have ZN := Lib.hid (zN.below belU); have ZD := Lib.hid (zD.below belU)
  have U2 := Lib.hid (blk_below' belU (blk_below' hb3 H2.out)); have UG := Lib.hid hG
  have hz3 := hb3.size
  obtain ⟨⟨g0, g1, g2, g3⟩, _, lg⟩ := blk4q hG
  have hle : w.heap.size ≤ w.heap.size + 1 := by omega
  have lgR : w.heap.size + 1 < w3.heap.size := by omega
  clear zN zD hb3 p0 p1 p2 p3 hG belU H2 BW
  have L1 := Lib.hid (long3_any _ _ false U ZN.out (decide_eq_false (Nat.not_le.mpr hs1)))
  have L2 : Hid (∀ w1, Below U.heap.size U w1 → Calls Tryz.prog 40 #[.agg #[.bool m', .slice a' k' c']] w1 fun e w' => e = .returned (.bool false) ∧ Below w1.heap.size w1 w') := Lib.hid (fun w1 h => long3_any _ _ false w1 (ZD.out.below h) (by rw [Int.natAbs_natCast]; exact decide_eq_false (Nat.not_le.mpr hs2)))
  have hB1 : (lowN x d).natAbs < Big := bigR_lt hs1
  have hB2 : ((lowD x d : Nat) : Int).natAbs < Big := by rw [Int.natAbs_natCast]; exact bigR_lt hs2
  have HBB : Hid ((lowN x d).natAbs < Big ∧ ((lowD x d : Nat) : Int).natAbs < Big) := Lib.hid ⟨hB1, hB2⟩
  clear hs1 hs2 hB1 hB2
  go_wp2_with fail
  try rw [eU]
  clear eU
  refine L1.out.mono ?_
  rintro e w4 ⟨rfl, hb4⟩
  have G4 := Lib.hid (blk_below' hb4 UG.out); have R4 := Lib.hid (blk_below' hb4 U2.out)
  obtain ⟨⟨g0', g1', g2', g3'⟩, _, lg'⟩ := blk4q G4.out
  have B4 := Lib.hid (below_of BU.out hb4)
  have C4 := Lib.hid (L2.out w4 hb4)
  have ZN4 := Lib.hid (ZN.out.below hb4); have ZD4 := Lib.hid (ZD.out.below hb4)
  clear hb4 g0 g1 g2 g3
  go_wp2_with fail
  refine C4.out.mono ?_
  rintro e V ⟨rfl, hb5⟩
  have G5 := Lib.hid (blk_below' hb5 G4.out); have R5 := Lib.hid (blk_below' hb5 R4.out)
  obtain ⟨⟨s0, s1, s2, s3⟩, _, lg5⟩ := blk4q G5.out
  have B5 := Lib.hid (below_of B4.out hb5)
  have ZN5 := Lib.hid (ZN4.out.below hb5); have ZD5 := Lib.hid (ZD4.out.below hb5)
  have NI0 : NoInt #[.bool false, .slice none 0 0, .slice none 0 0] := by
    intro i k n
    rcases i with _ | _ | _ | i <;> simp
  have STAY : Hid (∀ w', ZrN V w' (w.heap.size + 1) 27 3 → w'.cell? ⟨w3.heap.size, 0, none⟩ = some (.bool m) ∧ w'.cell? ⟨w3.heap.size, 1, none⟩ = some (.slice a k c) ∧ w'.cell? ⟨w3.heap.size, 2, none⟩ = some (.bool m') ∧ w'.cell? ⟨w3.heap.size, 3, none⟩ = some (.slice a' k' c') ∧ ZrN V w' (w.heap.size + 1) 27 3) :=
    Lib.hid (fun w' h => ⟨h.cell s0 (by omega), h.cell s1 (by omega), h.cell s2 (by omega), h.cell s3 (by omega), h⟩)
  have T1 : Hid (∀ w1, ZrN V w1 (w.heap.size + 1) 27 3 → Calls Tryz.prog 69 #[.agg #[.bool m, .slice a k c]] w1 fun e w' => Res0 w1 w' e (lowN x d)) := Lib.hid (fun w1 h => (to_any2 _ _ w1 (ZN5.out.zrn3 R5.out h)).mono (by rintro e w' ⟨v', rfl, hv, hb⟩; obtain ⟨n, a, k, c, rfl⟩ := hv.shape; exact ⟨_, _, _, _, rfl, hv.r HBB.out.1, hb⟩))
  have T2 : Hid (∀ w1, ZrN V w1 (w.heap.size + 1) 27 3 → Calls Tryz.prog 69 #[.agg #[.bool m', .slice a' k' c']] w1 fun e w' => Res0 w1 w' e (lowD x d : Int)) := Lib.hid (fun w1 h => (to_any2 _ _ w1 (ZD5.out.zrn3 R5.out h)).mono (by rintro e w' ⟨v', rfl, hv, hb⟩; obtain ⟨n, a, k, c, rfl⟩ := hv.shape; exact ⟨_, _, _, _, rfl, hv.r HBB.out.2, hb⟩))
  have hZ0 : ZrN V V.drew (w.heap.size + 1) 27 3 := (zrn_start R5.out NI0).drew
  have hfn : ∀ (b : Bool) (ao : Option Addr) (k c : Nat) (w : World), (Instr.field 25 (.agg #[.bool b, .slice ao k c]) 1).run Tryz.prog w = .ok (.slice ao k c) w := by intros; kernel_rfl
  clear hb5 g0' g1' g2' g3' s0 s1 s2 s3 NI0
  go_wp2_with fail
  go_region_held3 (fun w' => w'.cell? ⟨w3.heap.size, 0, none⟩ = some (.bool m) ∧ w'.cell? ⟨w3.heap.size, 1, none⟩ = some (.slice a k c) ∧ w'.cell? ⟨w3.heap.size, 2, none⟩ = some (.bool m') ∧ w'.cell? ⟨w3.heap.size, 3, none⟩ = some (.slice a' k' c') ∧ ZrN V w' (w.heap.size + 1) 27 3)
    (((try go_split_ands); refine STAY.out _ ?_; repeat (first | (with_reducible assumption) | (with_reducible refine ZrN.drew ?_) | (with_reducible refine ZrN.setS ?_) | (with_reducible refine ZrN.setB ?_))))
    (first | (go_at_call 69; go_split_ands; first
      | ((with_reducible refine Calls.mono (T1.out _ (by with_reducible assumption)) ?_); rintro e wC ⟨mC, dC, lC, eC, rfl, jj3, hbC⟩; have hkC := ZrN.call hbC (by with_reducible assumption); obtain ⟨x0C, x1C, x2C, hRC⟩ := zrn_three hkC; obtain ⟨⟨r0C, r1C, r2C⟩, ⟨f0C, f1C, f2C⟩, lRC⟩ := blk3 hRC)
      | ((with_reducible refine Calls.mono (T2.out _ (by with_reducible assumption)) ?_); rintro e wD ⟨mD, dD, lD, eD, rfl, jj4, hbD⟩; have hkD := ZrN.call hbD (by with_reducible assumption); obtain ⟨x0D, x1D, x2D, hRD⟩ := zrn_three hkD; obtain ⟨⟨r0D, r1D, r2D⟩, ⟨f0D, f1D, f2D⟩, lRD⟩ := blk3 hRD)))
  all_goals
    first
    | (have i1 : IntR wC (.agg #[.bool mC, .slice dC lC eC]) (lowN x d) := by (repeat (first | (with_reducible assumption) | (with_reducible refine ri_drewz ?_) | (with_reducible refine ri_callz hbD ?_) | (with_reducible refine ri_callz hbC ?_)))
       have i2 : IntR wC (.agg #[.bool mD, .slice dD lD eD]) (lowD x d : Int) := by (repeat (first | (with_reducible assumption) | (with_reducible refine ri_drewz ?_) | (with_reducible refine ri_callz hbD ?_) | (with_reducible refine ri_callz hbC ?_)))
       have ZF : Hid (ZrN V (((wC.setCell ⟨w.heap.size + 1, 0, none⟩ (.bool mC)).setCell ⟨w.heap.size + 1, 1, none⟩ (.slice dC lC eC)).setCell ⟨w.heap.size + 1, 2, none⟩ (.slice dD lD eD)) (w.heap.size + 1) 27 3) := Lib.hid (((hkC.setB).setS).setS)
       have N1 := Lib.hid (hkC.notIn i1)
       have N2 := Lib.hid (hkC.notIn i2)
       have J1 := Lib.hid (((i1.setNe N1.out (j := 0) (y := .bool mC)).setNe N1.out (j := 1) (y := .slice dC lC eC)).setNe N1.out (j := 2) (y := .slice dD lD eD))
       have J2 := Lib.hid (((i2.setNe N2.out (j := 0) (y := .bool mC)).setNe N2.out (j := 1) (y := .slice dC lC eC)).setNe N2.out (j := 2) (y := .slice dD lD eD))
       clear i1 i2
       go_wp2
       refine bodyPost_ret (v := .tuple #[.agg #[.bool mC, .slice dC lC eC, .slice dD lD eD], .int .i64 0]) ?_ rfl ⟨_, rfl, ⟨dC, lC, eC, dD, lD, eD, by rw [J1.out.num.1], J1.out.num.2, by have := J2.out.num.2; rwa [Int.natAbs_natCast] at this⟩, ZF.out.zr.below B5.out hle⟩
       simp [results, Tryz.results41, go_sem, *])
    | (have i1 : IntR wD (.agg #[.bool mC, .slice dC lC eC]) (lowN x d) := by (repeat (first | (with_reducible assumption) | (with_reducible refine ri_drewz ?_) | (with_reducible refine ri_callz hbD ?_) | (with_reducible refine ri_callz hbC ?_)))
       have i2 : IntR wD (.agg #[.bool mD, .slice dD lD eD]) (lowD x d : Int) := by (repeat (first | (with_reducible assumption) | (with_reducible refine ri_drewz ?_) | (with_reducible refine ri_callz hbD ?_) | (with_reducible refine ri_callz hbC ?_)))
       have ZF : Hid (ZrN V (((wD.setCell ⟨w.heap.size + 1, 0, none⟩ (.bool mC)).setCell ⟨w.heap.size + 1, 1, none⟩ (.slice dC lC eC)).setCell ⟨w.heap.size + 1, 2, none⟩ (.slice dD lD eD)) (w.heap.size + 1) 27 3) := Lib.hid (((hkD.setB).setS).setS)
       have N1 := Lib.hid (hkD.notIn i1)
       have N2 := Lib.hid (hkD.notIn i2)
       have J1 := Lib.hid (((i1.setNe N1.out (j := 0) (y := .bool mC)).setNe N1.out (j := 1) (y := .slice dC lC eC)).setNe N1.out (j := 2) (y := .slice dD lD eD))
       have J2 := Lib.hid (((i2.setNe N2.out (j := 0) (y := .bool mC)).setNe N2.out (j := 1) (y := .slice dC lC eC)).setNe N2.out (j := 2) (y := .slice dD lD eD))
       clear i1 i2
       go_wp2
       refine bodyPost_ret (v := .tuple #[.agg #[.bool mC, .slice dC lC eC, .slice dD lD eD], .int .i64 0]) ?_ rfl ⟨_, rfl, ⟨dC, lC, eC, dD, lD, eD, by rw [J1.out.num.1], J1.out.num.2, by have := J2.out.num.2; rwa [Int.natAbs_natCast] at this⟩, ZF.out.zr.below B5.out hle⟩
       simp [results, Tryz.results41, go_sem, *])
end Go.Proofs.YthgmebnihpjnoaaGreatDoor

/- tribunalref03: TimesQ. -/
namespace Go.Proofs.YthgmebnihpjnoaaGreatDoor
open Go.RowKit Mth

theorem ZV.zrnN {W w1 : World} {v : Value} {z : Int} {R k0 : Nat} {T : TypeId} {cs : Array Value} (h : ZV W v z) (hR : W.heap[R]? = some (.cells cs T (0, 0))) (hn : NoInt cs) (hz : ZrN W w1 R T k0) : ZV w1 v z := by
  obtain ⟨u, e, ys, h1, h2⟩ := h
  exact ⟨u, e, ys, h1.zr hz.zr (fun b off cap e hp => h1.neN hR hn e hp), h2⟩
theorem ZV.farN {W w : World} {v y0 y1 y2 y3 : Value} {z : Int} {R k0 : Nat} {T : TypeId} (h : ZV w v z) (hz : ZrN W w R T k0) : ZV ((((w.setCell ⟨R, 0, none⟩ y0).setCell ⟨R, 1, none⟩ y1).setCell ⟨R, 2, none⟩ y2).setCell ⟨R, 3, none⟩ y3) v z := by
  obtain ⟨_, cs, hR, _, hn⟩ := hz
  obtain ⟨u, e, ys, h1, h2⟩ := h
  have hne : ∀ b off cap, u = .slice (some ⟨b, off, none⟩) ys.length cap → 0 < ys.length → b ≠ R := fun b off cap e hp => h1.neN hR hn e hp
  exact ⟨u, e, ys, (((h1.set_far hne).set_far hne).set_far hne).set_far hne, h2⟩
theorem zv_drewz {w : World} {v : Value} {z : Int} (h : ZV w v z) : ZV w.drew v z := h.below ((Below.refl _ _).drew)
theorem zv_callzQ {w w' : World} {v : Value} {z : Int} (hb : Below w.heap.size w w') (h : ZV w v z) : ZV w' v z := h.below hb
theorem zrn_four {W w1 : World} {R : Nat} {T : TypeId} (h : ZrN W w1 R T 4) : ∃ x0 x1 x2 x3, w1.heap[R]? = some (.cells #[x0, x1, x2, x3] T (0, 0)) := by
  obtain ⟨_, cs, h2, h3, _⟩ := h
  obtain ⟨l⟩ := cs
  match l, h3 with
  | [x0, x1, x2, x3], _ => exact ⟨x0, x1, x2, x3, h2⟩
/-- the reference's product of Z, its value a box -/
def ResZ (w w' : World) (e : Ending) (z : Int) : Prop := ∃ (m : Bool) (a : Option Addr) (k c : Nat), e = .returned (.agg #[.bool m, .slice a k c]) ∧ ZV w' (.agg #[.bool m, .slice a k c]) z ∧ Below w.heap.size w w'

set_option maxRecDepth 100000 in
set_option maxHeartbeats 8000000 in
theorem rtimesq_any (va vb : Value) (x1 x2 : Int) (d1 d2 p q : Nat) (w : World) (ha : QV w va x1 d1) (hb : QV w vb x2 d2) (b1 : x1.natAbs < B16 ^ p) (e1 : d1 < B16 ^ p) (b2 : x2.natAbs < B16 ^ q) (e2 : d2 < B16 ^ q) (hpq : p + q ≤ 16777216) (h0 : 0 < d1 * d2) (hh : d1 * d2 < HugeD) :
    Calls Tryz.prog 67 #[va, vb] w fun e w' => ∃ v', e = .returned v' ∧ QV w' v' (lowN (x1 * x2) (d1 * d2)) (lowD (x1 * x2) (d1 * d2)) ∧ Below w.heap.size w w' := by
  obtain ⟨m1, a1, k1, c1, n1, s1, t1, u1, rfl, zN1, zD1⟩ := ha
  obtain ⟨m2, a2, k2, c2, n2, s2, t2, u2, rfl, zN2, zD2⟩ := hb
  have TN : Hid (∀ w1, ZV w1 (.agg #[.bool m1, .slice a1 k1 c1]) x1 → ZV w1 (.agg #[.bool m2, .slice a2 k2 c2]) x2 → Calls Tryz.prog 62 #[.agg #[.bool m1, .slice a1 k1 c1], .agg #[.bool m2, .slice a2 k2 c2]] w1 fun e w' => ResZ w1 w' e (x1 * x2)) := Lib.hid (fun w1 h1 h2 => (times_any2 _ _ x1 x2 w1 h1 h2 p q b1 b2 hpq).mono (by rintro e w' ⟨v', rfl, hv, hb⟩; obtain ⟨n, a, k, c, rfl⟩ := hv.shape; exact ⟨_, _, _, _, rfl, hv, hb⟩))
  have TD : Hid (∀ w1, ZV w1 (.agg #[.bool n1, .slice s1 t1 u1]) (d1 : Int) → ZV w1 (.agg #[.bool n2, .slice s2 t2 u2]) (d2 : Int) → Calls Tryz.prog 62 #[.agg #[.bool n1, .slice s1 t1 u1], .agg #[.bool n2, .slice s2 t2 u2]] w1 fun e w' => ResZ w1 w' e ((d1 * d2 : Nat) : Int)) := Lib.hid (fun w1 h1 h2 => (times_any2 _ _ (d1 : Int) (d2 : Int) w1 h1 h2 p q (by rw [Int.natAbs_natCast]; exact e1) (by rw [Int.natAbs_natCast]; exact e2) hpq).mono (by rintro e w' ⟨v', rfl, hv, hb⟩; obtain ⟨n, a, k, c, rfl⟩ := hv.shape; rw [← Int.natCast_mul] at hv; exact ⟨_, _, _, _, rfl, hv, hb⟩))
  have LO : Hid (∀ va vb w1, ZV w1 va (x1 * x2) → ZV w1 vb ((d1 * d2 : Nat) : Int) → Calls Tryz.prog 61 #[va, vb] w1 fun e w' => ∃ v', e = .returned v' ∧ QV w' v' (lowN (x1 * x2) (d1 * d2)) (lowD (x1 * x2) (d1 * d2)) ∧ Below w1.heap.size w1 w') := Lib.hid (fun va vb w1 h1 h2 => rlow_any va vb _ _ w1 h1 h2 h0 hh)
  have HN1 := Lib.hid zN1; have HN2 := Lib.hid zN2; have HD1 := Lib.hid zD1; have HD2 := Lib.hid zD2
  clear zN1 zN2 zD1 zD2 b1 b2 e1 e2 hpq h0 hh
  go_enter Tryz.func67, Tryz.ntmps67
  go_wp2_with fail
  obtain ⟨W, eW, h1, h2, h3, bel, hsz⟩ := alloc3 w (Obj.cells #[Value.bool m1, Value.slice a1 k1 c1, Value.bool n1, Value.slice s1 t1 u1] 71) (Obj.cells #[Value.bool m2, Value.slice a2 k2 c2, Value.bool n2, Value.slice s2 t2 u2] 71) (Obj.cells #[Value.bool false, Value.slice none 0 0, Value.bool false, Value.slice none 0 0] 71)
  rw [eW]
  obtain ⟨⟨p0, p1, p2, p3⟩, _, lp⟩ := blk4q h1
  obtain ⟨⟨q0, q1, q2, q3⟩, _, lq⟩ := blk4q h2
  have HR : Hid (W.heap[w.heap.size + 1 + 1]? = _) := Lib.hid h3; have BW := Lib.hid bel
  have NI0 : NoInt #[.bool false, .slice none 0 0, .bool false, .slice none 0 0] := by
    intro i k n
    rcases i with _ | _ | _ | _ | i <;> simp
  have HNI := Lib.hid NI0
  have STAY : Hid (∀ w', ZrN W w' (w.heap.size + 1 + 1) 71 4 → w'.cell? ⟨w.heap.size, 0, none⟩ = some (.bool m1) ∧ w'.cell? ⟨w.heap.size, 1, none⟩ = some (.slice a1 k1 c1) ∧ w'.cell? ⟨w.heap.size, 2, none⟩ = some (.bool n1) ∧ w'.cell? ⟨w.heap.size, 3, none⟩ = some (.slice s1 t1 u1) ∧ w'.cell? ⟨w.heap.size + 1, 0, none⟩ = some (.bool m2) ∧ w'.cell? ⟨w.heap.size + 1, 1, none⟩ = some (.slice a2 k2 c2) ∧ w'.cell? ⟨w.heap.size + 1, 2, none⟩ = some (.bool n2) ∧ w'.cell? ⟨w.heap.size + 1, 3, none⟩ = some (.slice s2 t2 u2) ∧ ZrN W w' (w.heap.size + 1 + 1) 71 4) :=
    Lib.hid (fun w' h => ⟨h.cell p0 (by omega), h.cell p1 (by omega), h.cell p2 (by omega), h.cell p3 (by omega), h.cell q0 (by omega), h.cell q1 (by omega), h.cell q2 (by omega), h.cell q3 (by omega), h⟩)
  have TN' : Hid (∀ w1, ZrN W w1 (w.heap.size + 1 + 1) 71 4 → Calls Tryz.prog 62 #[.agg #[.bool m1, .slice a1 k1 c1], .agg #[.bool m2, .slice a2 k2 c2]] w1 fun e w' => ResZ w1 w' e (x1 * x2)) := Lib.hid (fun w1 h => TN.out w1 ((HN1.out.below BW.out).zrnN HR.out HNI.out h) ((HN2.out.below BW.out).zrnN HR.out HNI.out h))
  have TD' : Hid (∀ w1, ZrN W w1 (w.heap.size + 1 + 1) 71 4 → Calls Tryz.prog 62 #[.agg #[.bool n1, .slice s1 t1 u1], .agg #[.bool n2, .slice s2 t2 u2]] w1 fun e w' => ResZ w1 w' e ((d1 * d2 : Nat) : Int)) := Lib.hid (fun w1 h => TD.out w1 ((HD1.out.below BW.out).zrnN HR.out HNI.out h) ((HD2.out.below BW.out).zrnN HR.out HNI.out h))
  have hZ0 : ZrN W W.drew (w.heap.size + 1 + 1) 71 4 := (zrn_start HR.out HNI.out).drew
  have hle : w.heap.size ≤ w.heap.size + 1 + 1 := by omega
  clear eW h1 h2 h3 bel p0 p1 p2 p3 q0 q1 q2 q3 NI0 TN TD lp lq
  go_region_held3 (fun w' => w'.cell? ⟨w.heap.size, 0, none⟩ = some (.bool m1) ∧ w'.cell? ⟨w.heap.size, 1, none⟩ = some (.slice a1 k1 c1) ∧ w'.cell? ⟨w.heap.size, 2, none⟩ = some (.bool n1) ∧ w'.cell? ⟨w.heap.size, 3, none⟩ = some (.slice s1 t1 u1) ∧ w'.cell? ⟨w.heap.size + 1, 0, none⟩ = some (.bool m2) ∧ w'.cell? ⟨w.heap.size + 1, 1, none⟩ = some (.slice a2 k2 c2) ∧ w'.cell? ⟨w.heap.size + 1, 2, none⟩ = some (.bool n2) ∧ w'.cell? ⟨w.heap.size + 1, 3, none⟩ = some (.slice s2 t2 u2) ∧ ZrN W w' (w.heap.size + 1 + 1) 71 4)
    (((try go_split_ands); refine STAY.out _ ?_; repeat (first | (with_reducible assumption) | (with_reducible refine ZrN.drew ?_) | (with_reducible refine ZrN.setS ?_) | (with_reducible refine ZrN.setB ?_))))
    (first
    | (go_at_call 62; go_split_ands; first
      | ((with_reducible refine Calls.mono (TN'.out _ (by with_reducible assumption)) ?_); rintro e wB ⟨mB, dB, lB, eB, rfl, jj1, hbB⟩; have hkB := ZrN.call hbB (by with_reducible assumption))
      | ((with_reducible refine Calls.mono (TD'.out _ (by with_reducible assumption)) ?_); rintro e wC ⟨mC, dC, lC, eC, rfl, jj2, hbC⟩; have hkC := ZrN.call hbC (by with_reducible assumption)))
    | (go_at_call 61; go_split_ands; (with_reducible refine Calls.mono (LO.out _ _ _ ?_ ?_) ?_); (repeat (first | (with_reducible assumption) | (with_reducible refine zv_drewz ?_) | (with_reducible refine zv_callzQ hbB ?_) | (with_reducible refine zv_callzQ hbC ?_))); rintro e wE ⟨v', rfl, ⟨mE, aE, kE, cE, nE, sE, tE, uE, rfl, jj3, jj4⟩, hbE⟩; have hkE := ZrN.call hbE (by with_reducible assumption); obtain ⟨z0, z1, z2, z3, hRE⟩ := zrn_four hkE; obtain ⟨⟨r0, r1, r2, r3⟩, ⟨f0, f1, f2, f3⟩, lR⟩ := blk4q hRE))
  all_goals
    have ZF : Hid (ZrN W ((((wE.setCell ⟨w.heap.size + 1 + 1, 0, none⟩ (.bool mE)).setCell ⟨w.heap.size + 1 + 1, 1, none⟩ (.slice aE kE cE)).setCell ⟨w.heap.size + 1 + 1, 2, none⟩ (.bool nE)).setCell ⟨w.heap.size + 1 + 1, 3, none⟩ (.slice sE tE uE)) (w.heap.size + 1 + 1) 71 4) := Lib.hid ((((hkE.setB).setS).setB).setS)
    have J1 := Lib.hid (jj3.farN (y0 := .bool mE) (y1 := .slice aE kE cE) (y2 := .bool nE) (y3 := .slice sE tE uE) hkE)
    have J2 := Lib.hid (jj4.farN (y0 := .bool mE) (y1 := .slice aE kE cE) (y2 := .bool nE) (y3 := .slice sE tE uE) hkE)
    go_wp2
    refine bodyPost_ret (v := .agg #[.bool mE, .slice aE kE cE, .bool nE, .slice sE tE uE]) ?_ rfl ⟨_, rfl, ⟨_, _, _, _, _, _, _, _, rfl, J1.out, J2.out⟩, ZF.out.zr.below BW.out hle⟩
    simp [results, Tryz.results67, go_sem, *]
end Go.Proofs.YthgmebnihpjnoaaGreatDoor
