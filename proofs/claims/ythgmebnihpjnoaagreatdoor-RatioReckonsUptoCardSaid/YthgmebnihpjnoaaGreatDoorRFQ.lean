/- tribunalref03: From. -/
import Derived.Test.YthgmebnihpjnoaaGreatDoorQB1
import Derived.Test.YthgmebnihpjnoaaGreatDoorQB5
set_option linter.unusedVariables false
set_option linter.unusedSimpArgs false
namespace Go.Proofs.YthgmebnihpjnoaaGreatDoor
open Go.RowKit Mth

/-- what the reference's From answers beside its fraction -/
def fqE (x : Int) (d : Nat) : Int := if d = 0 then 11 else if BigR ≤ x.natAbs ∨ BigR ≤ d then 5 else 0
set_option maxRecDepth 100000 in
set_option maxHeartbeats 8000000 in
theorem rfromq_any (v : Value) (x : Int) (d : Nat) (w : World) (h : RatV w v x d) :
    Calls Tryz.prog 63 #[v] w fun e w' => ∃ v', e = .returned (.tuple #[v', .int .i64 (fqE x d)]) ∧ (fqE x d = 0 → QV w' v' x d) ∧ (∃ m a k c m' a' k' c', v' = .agg #[.bool m, .slice a k c, .bool m', .slice a' k' c']) ∧ Below w.heap.size w w' := by
  obtain ⟨n, a, k, c, a', k', c', xs, ys, rfl, s1, l1, b1, hx, s2, l2, b2, hd⟩ := h
  have IV1 : IntV w (.agg #[.bool n, .slice a k c]) x := ⟨n, _, xs, rfl, s1, l1, b1, hx⟩
  have IV2 : IntV w (.agg #[.bool false, .slice a' k' c']) (d : Int) := ⟨false, _, ys, rfl, s2, l2, b2, by rw [hd]; rfl⟩
  have F1 : Hid (∀ w1, Below w.heap.size w w1 → Calls Tryz.prog 39 #[.agg #[.bool n, .slice a k c]] w1 fun e w' => ∃ v', e = .returned v' ∧ ZV w' v' x ∧ Below w1.heap.size w1 w') := Lib.hid (fun w1 h => from_any2 _ x w1 (IV1.below h))
  have F2 : Hid (∀ w1, Below w.heap.size w w1 → Calls Tryz.prog 39 #[.agg #[.bool false, .slice a' k' c']] w1 fun e w' => ∃ v', e = .returned v' ∧ ZV w' v' (d : Int) ∧ Below w1.heap.size w1 w') := Lib.hid (fun w1 h => from_any2 _ (d : Int) w1 (IV2.below h))
  clear IV1 IV2 s1 l1 b1 hx s2 l2 b2 hd
  go_enter Tryz.func63, Tryz.ntmps63
  go_wp2_with fail
  obtain ⟨W, eW, h1, h2, bel, hsz⟩ := alloc2 w (Obj.cells #[Value.bool n, Value.slice a k c, Value.slice a' k' c'] 27) (Obj.cells #[Value.bool false, Value.slice none 0 0, Value.bool false, Value.slice none 0 0] 71)
  try rw [eW]
  have BW := Lib.hid bel; have H1 := Lib.hid h1; have H2 : Hid (W.heap[w.heap.size + 1]? = _) := Lib.hid h2
  obtain ⟨⟨p0, p1, p2⟩, _, lp⟩ := blk3 h1
  have hszk : w.heap.size + 1 < W.heap.size := hsz
  have hle : w.heap.size ≤ w.heap.size + 1 := by omega
  clear eW h1 h2 bel hsz
  try go_wp2_with fail
  refine (F1.out W BW.out).mono ?_
  rintro e w1 ⟨v1, rfl, z1, hb1⟩
  obtain ⟨m1, d1, l1, e1, rfl⟩ := z1.shape
  obtain ⟨U, eU, hU, belU, hszU⟩ := alloc1q w1 (Obj.cells #[Value.bool m1, Value.slice d1 l1 e1] 66)
  have BU := Lib.hid (below_of (below_of BW.out hb1) belU)
  have Z1 := Lib.hid (z1.below belU)
  have H1U := Lib.hid (blk_below' belU (blk_below' hb1 H1.out)); have H2U := Lib.hid (blk_below' belU (blk_below' hb1 H2.out))
  have UG := Lib.hid hU
  have hz1 := hb1.size
  obtain ⟨⟨q0, q1, q2⟩, _, lq⟩ := blk3 H1U.out
  clear z1 hb1 belU hU p0 p1 p2 F1 H1 H2 BW
  go_wp2_with fail
  try rw [eU]
  clear eU
  refine (F2.out U BU.out).mono ?_
  rintro e w2 ⟨v2, rfl, z2, hb2⟩
  obtain ⟨m2, d2, l2, e2, rfl⟩ := z2.shape
  obtain ⟨V, eV, hV, belV, hszV⟩ := alloc1q w2 (Obj.cells #[Value.bool m2, Value.slice d2 l2 e2] 66)
  have BV := Lib.hid (below_of (below_of BU.out hb2) belV)
  have Z2 := Lib.hid (z2.below belV)
  have Z1V := Lib.hid ((Z1.out.below hb2).below belV)
  have H2V := Lib.hid (blk_below' belV (blk_below' hb2 H2U.out))
  have UGV := Lib.hid (blk_below' belV (blk_below' hb2 UG.out))
  have VG := Lib.hid hV
  have hz2 := hb2.size
  obtain ⟨x0, x1, _, _, _⟩ := blk2 UGV.out
  obtain ⟨y0, y1, _, _, _⟩ := blk2 hV
  obtain ⟨⟨r0, r1, r2, r3⟩, ⟨f0, f1, f2, f3⟩, lr⟩ := blk4q H2V.out
  have HL := Lib.hid z2.lenz
  clear z2 hb2 belV hV q0 q1 q2 F2 H1U H2U BU Z1 UG
  by_cases h0 : d = 0
  · have he : fqE x d = 11 := by unfold fqE; rw [if_pos h0]
    have hl0 : l2 = 0 := HL.out.2 (by rw [h0]; rfl)
    have HE := Lib.hid he
    subst hl0
    clear h0 he
    go_wp2_with fail
    try rw [eV]
    clear eV
    try go_wp2
    refine bodyPost_ret (v := .tuple #[.agg #[.bool false, .slice none 0 0, .bool false, .slice none 0 0], .int .i64 11]) ?_ rfl ⟨_, (by rw [HE.out]), fun h => (by rw [HE.out] at h; cases h), ⟨_, _, _, _, _, _, _, _, rfl⟩, set_below (set_below (set_below (set_below BV.out hle) hle) hle) hle⟩
    simp [results, Tryz.results63, go_sem, *]
  · have hd : ((l2 : Int) == 0) = false := by rw [beq_eq_false_iff_ne]; intro h; have h1 : l2 = 0 := (by omega); have := HL.out.1 h1; omega
    have H0 := Lib.hid h0
    clear h0
    by_cases hb : BigR ≤ x.natAbs
    · have HE : Hid (fqE x d = 5) := Lib.hid (by unfold fqE; rw [if_neg H0.out, if_pos (.inl hb)])
      have L1 := Lib.hid (long3_any _ _ true V Z1V.out (decide_eq_true hb))
      clear hb
      go_wp2_with fail
      try rw [eV]
      clear eV
      try go_wp2_with fail
      refine L1.out.mono ?_
      rintro e w4 ⟨rfl, hb4⟩
      have h24 := blk_below' hb4 H2V.out
      have B4 := Lib.hid (below_of BV.out hb4)
      clear r0 r1 r2 r3 f0 f1 f2 f3 lr x0 x1 y0 y1
      obtain ⟨⟨r0, r1, r2, r3⟩, ⟨f0, f1, f2, f3⟩, lr⟩ := blk4q h24
      clear h24 hb4
      go_wp2
      refine bodyPost_ret (v := .tuple #[.agg #[.bool false, .slice none 0 0, .bool false, .slice none 0 0], .int .i64 5]) ?_ rfl ⟨_, (by rw [HE.out]), fun h => (by rw [HE.out] at h; cases h), ⟨_, _, _, _, _, _, _, _, rfl⟩, set_below (set_below (set_below (set_below B4.out hle) hle) hle) hle⟩
      simp [results, Tryz.results63, go_sem, *]
    · have L1 := Lib.hid (long3_any _ _ false V Z1V.out (decide_eq_false hb))
      have L2 : Hid (∀ w1, Below V.heap.size V w1 → Calls Tryz.prog 40 #[.agg #[.bool m2, .slice d2 l2 e2]] w1 fun e w' => e = .returned (.bool (decide (BigR ≤ d))) ∧ Below w1.heap.size w1 w') := Lib.hid (fun w1 h => long3_any _ _ _ w1 (Z2.out.below h) (by rw [Int.natAbs_natCast]))
      have HB := Lib.hid hb
      clear hb
      go_wp2_with fail
      try rw [eV]
      clear eV
      try go_wp2_with fail
      refine L1.out.mono ?_
      rintro e w4 ⟨rfl, hb4⟩
      have H24 := Lib.hid (blk_below' hb4 H2V.out)
      have G24 := Lib.hid (blk_below' hb4 UGV.out)
      have K24 := Lib.hid (blk_below' hb4 VG.out)
      have B4 := Lib.hid (below_of BV.out hb4)
      have C4 := Lib.hid (L2.out w4 hb4)
      have Z14 := Lib.hid (Z1V.out.below hb4); have Z24 := Lib.hid (Z2.out.below hb4)
      clear r0 r1 r2 r3 f0 f1 f2 f3 lr x0 x1 y0 y1 hb4
      obtain ⟨y0, y1, _, _, _⟩ := blk2 K24.out
      go_wp2_with fail
      refine C4.out.mono ?_
      rintro e w5 ⟨rfl, hb5⟩
      have H25 := Lib.hid (blk_below' hb5 H24.out)
      have Z15 := Lib.hid (Z14.out.below hb5); have Z25 := Lib.hid (Z24.out.below hb5)
      have B5 := Lib.hid (below_of B4.out hb5)
      obtain ⟨x0, x1, _, _, _⟩ := blk2 (blk_below' hb5 G24.out)
      clear y0 y1
      obtain ⟨y0, y1, _, _, _⟩ := blk2 (blk_below' hb5 K24.out)
      obtain ⟨⟨r0, r1, r2, r3⟩, ⟨f0, f1, f2, f3⟩, lr⟩ := blk4q H25.out
      clear hb5
      by_cases hb : BigR ≤ d
      · have HE : Hid (fqE x d = 5) := Lib.hid (by unfold fqE; rw [if_neg H0.out, if_pos (.inr hb)])
        have hdd : decide (BigR ≤ d) = true := decide_eq_true hb
        rw [hdd]
        clear hb hdd
        go_wp2
        refine bodyPost_ret (v := .tuple #[.agg #[.bool false, .slice none 0 0, .bool false, .slice none 0 0], .int .i64 5]) ?_ rfl ⟨_, (by rw [HE.out]), fun h => (by rw [HE.out] at h; cases h), ⟨_, _, _, _, _, _, _, _, rfl⟩, set_below (set_below (set_below (set_below B5.out hle) hle) hle) hle⟩
        simp [results, Tryz.results63, go_sem, *]
      · have HE : Hid (fqE x d = 0) := Lib.hid (by unfold fqE; rw [if_neg H0.out, if_neg (fun h => h.elim HB.out hb)])
        have hdd : decide (BigR ≤ d) = false := decide_eq_false hb
        rw [hdd]
        clear hb hdd
        go_wp2
        refine bodyPost_ret (v := .tuple #[.agg #[.bool m1, .slice d1 l1 e1, .bool m2, .slice d2 l2 e2], .int .i64 0]) ?_ rfl ⟨_, (by rw [HE.out]), fun _ => ⟨_, _, _, _, _, _, _, _, rfl, Z15.out.far4 H25.out, Z25.out.far4 H25.out⟩, ⟨_, _, _, _, _, _, _, _, rfl⟩, set_below (set_below (set_below (set_below B5.out hle) hle) hle) hle⟩
        simp [results, Tryz.results63, go_sem, *]
end Go.Proofs.YthgmebnihpjnoaaGreatDoor
