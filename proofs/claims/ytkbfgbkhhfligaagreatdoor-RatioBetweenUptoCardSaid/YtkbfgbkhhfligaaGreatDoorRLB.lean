/- RatioBetween: the walk (written by genlb3.py). -/
import Derived.Test.YtkbfgbkhhfligaaGreatDoorRLQ
set_option linter.unusedVariables false
set_option linter.unusedSimpArgs false
namespace Go.Proofs.YtkbfgbkhhfligaaGreatDoor
open Go.RowKit Mth

theorem rnd_shape {w : World} {v : Value} {E x z : Int} {d : Nat} (h : RndO w v E x d z) : ∃ n a k c, v = .agg #[.bool n, .slice a k c] := by
  rcases h with ⟨_, _, e⟩ | ⟨_, _, _, e⟩ | ⟨_, _, _, h⟩
  · exact ⟨_, _, _, _, e⟩
  · exact ⟨_, _, _, _, e⟩
  · obtain ⟨n, a, k, c, e⟩ := h.2.shape; exact ⟨n, a, k, c, e⟩
theorem into_shape {w : World} {v : Value} {b : Bool} {x : Int} {d : Nat} (h : IntO w v b x d) : ∃ n a k c, v = .agg #[.bool n, .slice a k c] := by
  rcases h with ⟨_, _, e⟩ | ⟨_, _, _, _, e⟩ | ⟨_, _, _, _, h⟩
  · exact ⟨_, _, _, _, e⟩
  · exact ⟨_, _, _, _, e⟩
  · obtain ⟨n, a, k, c, e⟩ := h.2.shape; exact ⟨n, a, k, c, e⟩
set_option maxHeartbeats 16000000 in
set_option maxRecDepth 100000 in
theorem between3_walk (w : World) (va : Value) (x : Int) (d : Nat) (hz10 : TZ10 w) (ha : RatV w va x d) :
    Calls Tryz.prog 12 #[va] w fun e w' => e = .returned (.bool true) ∧ Below w.heap.size w w' := by
  have HZ := Lib.hid hz10
  obtain ⟨n, a, k, c, a', k', c', rfl⟩ := rat_shape ha
  obtain ⟨w0, eW, h1, bel, -⟩ := alloc1 w (Obj.cells #[.bool n, .slice a k c, .slice a' k' c'] 41)
  have GA0 := Lib.hid h1; have RA0 := Lib.hid (ha.below bel); have B0 := Lib.hid bel
  have FL := Lib.hid (rfloor_any3 _ x d w0 RA0.out)
  obtain ⟨⟨p0, p1, p2⟩, _, _⟩ := blk3 h1
  clear h1 bel ha hz10
  go_enter Tryz.func12, Tryz.ntmps12
  go_wp2_with fail
  try rw [eW]
  try clear eW
  refine FL.out.mono ?_
  rintro e y1 ⟨v1, E1, rfl, hr1, hb⟩
  obtain ⟨n1, a1, k1, c1, rfl⟩ := rnd_shape hr1
  have HR1 := Lib.hid hr1
  obtain ⟨w1, eU1, g1, bU, -⟩ := alloc1 y1 (Obj.cells #[.bool n1, .slice a1 k1 c1] 25)
  have bb := below_of hb bU
  have GA1 := Lib.hid (blk_below' bb GA0.out); have RA1 := Lib.hid (RA0.out.below bb); have B1 := Lib.hid (below_of B0.out bb)
  have GB1 : Hid (w1.heap[y1.heap.size]? = _) := Lib.hid g1
  have IF : Hid (0 < d ∧ ¬ longQ (x, d) → IntR w1 (.agg #[.bool n1, .slice a1 k1 c1]) (qF x d)) := Lib.hid (fun ⟨h1, h2⟩ => by
    rcases hr1 with ⟨h, _⟩ | ⟨_, h, _⟩ | ⟨_, _, _, h⟩
    · omega
    · exact absurd h h2
    · exact h.below bU)
  have CL := Lib.hid (rceil_any3 _ x d w1 RA1.out)
  clear GA0 RA0 B0 FL p0 p1 p2 hr1 hb bb bU g1
  obtain ⟨⟨p0, p1, p2⟩, _, _⟩ := blk3 GA1.out
  go_wp2_with fail
  try rw [eU1]
  try clear eU1
  refine CL.out.mono ?_
  rintro e y2 ⟨v2, E2, rfl, hr2, hb⟩
  obtain ⟨n2, a2, k2, c2, rfl⟩ := rnd_shape hr2
  have HR2 := Lib.hid hr2
  obtain ⟨w2, eU2, g2, bU, -⟩ := alloc1 y2 (Obj.cells #[.bool n2, .slice a2 k2 c2] 25)
  have bb := below_of hb bU
  have GA2 := Lib.hid (blk_below' bb GA1.out); have RA2 := Lib.hid (RA1.out.below bb); have B2 := Lib.hid (below_of B1.out bb)
  have GB2 := Lib.hid (blk_below' bb GB1.out)
  have GC2 : Hid (w2.heap[y2.heap.size]? = _) := Lib.hid g2
  have IF2 : Hid (0 < d ∧ ¬ longQ (x, d) → IntR w2 (.agg #[.bool n1, .slice a1 k1 c1]) (qF x d)) := Lib.hid (fun h => (IF.out h).below bb)
  have IU2 : Hid (0 < d ∧ ¬ longQ (x, d) → IntR w2 (.agg #[.bool n2, .slice a2 k2 c2]) (qU x d)) := Lib.hid (fun ⟨h1, h2⟩ => by
    rcases hr2 with ⟨h, _⟩ | ⟨_, h, _⟩ | ⟨_, _, _, h⟩
    · omega
    · exact absurd h h2
    · exact h.below bU)
  have AL := Lib.hid (alive3_any w2 (HZ.out.below B2.out))
  clear GA1 RA1 B1 CL p0 p1 p2 hr2 hb bb bU g2 GB1 IF
  have hcase : (E1 = 0 ∧ E2 = 0 ∧ 0 < d ∧ ¬ longQ (x, d)) ∨ (E1 = 11 ∧ E2 = 11) ∨ (E1 = 5 ∧ E2 = 5) := by
    rcases HR1.out with ⟨h1, h2, _⟩ | ⟨h1, h2, h3, _⟩ | ⟨h1, h2, h3, _⟩ <;> rcases HR2.out with ⟨k1, k2, _⟩ | ⟨k1, k2, k3, _⟩ | ⟨k1, k2, k3, _⟩ <;> first
      | exact .inr (.inl ⟨h2, k2⟩)
      | exact .inr (.inr ⟨h3, k3⟩)
      | exact .inl ⟨h3, k3, h1, h2⟩
      | (exfalso; omega)
      | exact absurd h2 k2
      | exact absurd k2 h2
  clear HR1 HR2
  rcases hcase with ⟨rfl, rfl, hd, hl⟩ | ⟨rfl, rfl⟩ | ⟨rfl, rfl⟩
  · have HD : Hid (0 < d ∧ ¬ longQ (x, d)) := Lib.hid ⟨hd, hl⟩
    have JF := Lib.hid (IF2.out ⟨hd, hl⟩); have JU := Lib.hid (IU2.out ⟨hd, hl⟩)
    have IN := Lib.hid (rint_any3 _ x d w2 RA2.out)
    obtain ⟨⟨p0, p1, p2⟩, _, _⟩ := blk3 GA2.out
    clear IF2 IU2 AL hd hl
    go_wp2_with fail
    try rw [eU2]
    try clear eU2
    refine IN.out.mono ?_
    rintro e y3 ⟨v3, ok, rfl, hi, hb⟩
    obtain ⟨n3, a3, k3, c3, rfl⟩ := into_shape hi
    obtain ⟨w3, eU3, g3, bU, -⟩ := alloc1 y3 (Obj.cells #[.bool n3, .slice a3 k3 c3] 25)
    have bb := below_of hb bU
    have HOK : Hid ((ok = true ∧ lowD x d = 1 ∧ IntR w3 (.agg #[.bool n3, .slice a3 k3 c3]) (qF x d)) ∨ (ok = false ∧ lowD x d ≠ 1)) := Lib.hid (by
      rcases hi with ⟨h | h, _⟩ | ⟨_, _, h1, h2, _⟩ | ⟨h0, _, h1, h2, h3⟩
      · have := HD.out.1; omega
      · exact absurd h HD.out.2
      · exact .inr ⟨h2, h1⟩
      · exact .inl ⟨h2, h1, by rw [← (whole_num h0 h1).1]; exact h3.below bU⟩)
    have GA3 := Lib.hid (blk_below' bb GA2.out); have RA3 := Lib.hid (RA2.out.below bb); have B3 := Lib.hid (below_of B2.out bb)
    have GB3 := Lib.hid (blk_below' bb GB2.out); have GC3 := Lib.hid (blk_below' bb GC2.out)
    have GD3 : Hid (w3.heap[y3.heap.size]? = _) := Lib.hid g3
    have JF3 := Lib.hid (JF.out.below bb); have JU3 := Lib.hid (JU.out.below bb)
    have WL := Lib.hid (rwhole_any3 _ _ w3 JF3.out.2)
    clear GA2 RA2 B2 GB2 GC2 JF JU IN p0 p1 p2 hi hb bb bU g3
    obtain ⟨p0, p1, _, _, _⟩ := blk2 GB3.out
    go_wp2_with fail
    try rw [eU3]
    try clear eU3
    refine WL.out.mono ?_
    rintro e y4 ⟨v4, G, rfl, hw, hb⟩
    have HSH : Hid (¬ longQ (qF x d, 1) ∧ ¬ longQ (qU x d, 1)) := Lib.hid (by
      have h1 := round_le (x := x) HD.out.1
      have h2 := HD.out.2
      have h3 := bigR_ge (n := 1) (by omega)
      unfold longQ at h2 ⊢
      have h2' : ¬ (BigR ≤ x.natAbs ∨ BigR ≤ d) := h2
      constructor
      · show ¬ (BigR ≤ (qF x d).natAbs ∨ BigR ≤ 1); omega
      · show ¬ (BigR ≤ (qU x d).natAbs ∨ BigR ≤ 1); omega)
    obtain ⟨rfl, hf4⟩ : G = 0 ∧ FrV y4 v4 (qF x d) 1 := by
      rcases hw with ⟨h, _⟩ | ⟨_, h, _⟩ | ⟨_, _, h, hf⟩
      · omega
      · exact absurd h HSH.out.1
      · rw [(low1 _).1, (low1 _).2] at hf; exact ⟨h, hf⟩
    obtain ⟨m4, e4, f4, g4, s4, t4, u4, rfl⟩ := frv_shape hf4
    obtain ⟨w4, eU4, gg, bU, -⟩ := alloc1 y4 (Obj.cells #[.bool m4, .slice e4 f4 g4, .slice s4 t4 u4] 41)
    have bb := below_of hb bU
    have GA4 := Lib.hid (blk_below' bb GA3.out); have RA4 := Lib.hid (RA3.out.below bb); have B4 := Lib.hid (below_of B3.out bb)
    have GB4 := Lib.hid (blk_below' bb GB3.out); have GC4 := Lib.hid (blk_below' bb GC3.out); have GD4 := Lib.hid (blk_below' bb GD3.out)
    have GE4 : Hid (w4.heap[y4.heap.size]? = _) := Lib.hid gg
    have JF4 := Lib.hid (JF3.out.below bb); have JU4 := Lib.hid (JU3.out.below bb); have FE4 := Lib.hid (hf4.below bU)
    have HOK4 : Hid ((ok = true ∧ lowD x d = 1 ∧ IntR w4 (.agg #[.bool n3, .slice a3 k3 c3]) (qF x d)) ∨ (ok = false ∧ lowD x d ≠ 1)) := Lib.hid (HOK.out.imp (fun h => ⟨h.1, h.2.1, h.2.2.below bb⟩) id)
    have WU := Lib.hid (rwhole_any3 _ _ w4 JU4.out.2)
    clear GA3 RA3 B3 GB3 GC3 GD3 JF3 JU3 HOK WL p0 p1 hw hf4 hb bb bU gg
    obtain ⟨p0, p1, _, _, _⟩ := blk2 GC4.out
    go_wp2_with fail
    try rw [eU4]
    try clear eU4
    refine WU.out.mono ?_
    rintro e y5 ⟨v5, G, rfl, hw, hb⟩
    obtain ⟨rfl, hf5⟩ : G = 0 ∧ FrV y5 v5 (qU x d) 1 := by
      rcases hw with ⟨h, _⟩ | ⟨_, h, _⟩ | ⟨_, _, h, hf⟩
      · omega
      · exact absurd h HSH.out.2
      · rw [(low1 _).1, (low1 _).2] at hf; exact ⟨h, hf⟩
    obtain ⟨m5, e5, f5, g5, s5, t5, u5, rfl⟩ := frv_shape hf5
    obtain ⟨w5, eU5, gg, bU, -⟩ := alloc1 y5 (Obj.cells #[.bool m5, .slice e5 f5 g5, .slice s5 t5 u5] 41)
    have bb := below_of hb bU
    have GA5 := Lib.hid (blk_below' bb GA4.out); have RA5 := Lib.hid (RA4.out.below bb); have B5 := Lib.hid (below_of B4.out bb)
    have GB5 := Lib.hid (blk_below' bb GB4.out); have GC5 := Lib.hid (blk_below' bb GC4.out); have GD5 := Lib.hid (blk_below' bb GD4.out); have GE5 := Lib.hid (blk_below' bb GE4.out)
    have GF5 : Hid (w5.heap[y5.heap.size]? = _) := Lib.hid gg
    have JF5 := Lib.hid (JF4.out.below bb); have JU5 := Lib.hid (JU4.out.below bb); have FE5 := Lib.hid (FE4.out.below bb); have FF5 := Lib.hid (hf5.below bU)
    have HOK5 : Hid ((ok = true ∧ lowD x d = 1 ∧ IntR w5 (.agg #[.bool n3, .slice a3 k3 c3]) (qF x d)) ∨ (ok = false ∧ lowD x d ≠ 1)) := Lib.hid (HOK4.out.imp (fun h => ⟨h.1, h.2.1, h.2.2.below bb⟩) id)
    have HUF : Hid ((qU x d - qF x d).natAbs < Big) := Lib.hid (by
      have hb := bigR_lt (bigR_ge (n := 1) (by omega))
      have hd := near_diff x (d : Int)
      split at hd <;> omega)
    have SU := Lib.hid (subF _ _ _ _ w5 JU5.out.2 JF5.out.2 HUF.out)
    clear GA4 RA4 B4 GB4 GC4 GD4 GE4 JF4 JU4 FE4 HOK4 WU p0 p1 hw hf5 hb bb bU gg
    obtain ⟨p0, p1, _, _, _⟩ := blk2 GB5.out
    obtain ⟨q0, q1, _, _, _⟩ := blk2 GC5.out
    go_wp2_with fail
    try rw [eU5]
    try clear eU5
    refine SU.out.mono ?_
    rintro e y6 ⟨n6, a6, k6, c6, rfl, hi, hb⟩
    obtain ⟨w6, eU6, gg, bU, -⟩ := alloc1 y6 (Obj.cells #[.bool n6, .slice a6 k6 c6] 25)
    have bb := below_of hb bU
    have GA6 := Lib.hid (blk_below' bb GA5.out); have RA6 := Lib.hid (RA5.out.below bb); have B6 := Lib.hid (below_of B5.out bb)
    have GB6 := Lib.hid (blk_below' bb GB5.out); have GD6 := Lib.hid (blk_below' bb GD5.out); have GE6 := Lib.hid (blk_below' bb GE5.out); have GF6 := Lib.hid (blk_below' bb GF5.out)
    have GG6 : Hid (w6.heap[y6.heap.size]? = _) := Lib.hid gg
    have JF6 := Lib.hid (JF5.out.below bb); have FE6 := Lib.hid (FE5.out.below bb); have FF6 := Lib.hid (FF5.out.below bb); have JD6 := Lib.hid (hi.below bU)
    have HOK6 : Hid ((ok = true ∧ lowD x d = 1 ∧ IntR w6 (.agg #[.bool n3, .slice a3 k3 c3]) (qF x d)) ∨ (ok = false ∧ lowD x d ≠ 1)) := Lib.hid (HOK5.out.imp (fun h => ⟨h.1, h.2.1, h.2.2.below bb⟩) id)
    have HBT := Lib.hid (between_le (x := x) HD.out.1)
    have FIN : Hid (∀ u, Below w6.heap.size w6 u → u.heap[w.heap.size]? = some (Obj.cells #[.bool n, .slice a k c, .slice a' k' c'] 41) ∧ u.heap[y4.heap.size]? = some (Obj.cells #[.bool m4, .slice e4 f4 g4, .slice s4 t4 u4] 41) ∧ u.heap[y5.heap.size]? = some (Obj.cells #[.bool m5, .slice e5 f5 g5, .slice s5 t5 u5] 41) ∧
        RatV u (.agg #[.bool n, .slice a k c, .slice a' k' c']) x d ∧ RatV u (.agg #[.bool m4, .slice e4 f4 g4, .slice s4 t4 u4]) (qF x d) 1 ∧ RatV u (.agg #[.bool m5, .slice e5 f5 g5, .slice s5 t5 u5]) (qU x d) 1 ∧ TZ10 u ∧ Below w.heap.size w u) := Lib.hid (fun u hu => by
      have h1 := bigR_lt (bigR_ge (n := 1) (by omega))
      have h2 := round_le (x := x) HD.out.1
      have h3 := HD.out.2
      unfold longQ at h3
      have h4 : x.natAbs < Big := bigR_lt (by omega)
      exact ⟨blk_below' hu GA6.out, blk_below' hu GE6.out, blk_below' hu GF6.out, RA6.out.below hu, (fr_rat FE6.out (by omega) h1).below hu, (fr_rat FF6.out (by omega) h1).below hu, HZ.out.below (below_of B6.out hu), below_of B6.out hu⟩)
    clear GA5 RA5 B5 GB5 GC5 GD5 GE5 GF5 JF5 JU5 FE5 FF5 HOK5 SU p0 p1 q0 q1 hi hb bb bU gg HSH HUF
    have STEP : Hid (∀ o : Int, (o = 0 ∨ o = 1) → ∀ u, Calls Tryz.prog 14 #[.int .i64 o] u fun e w' => Res0 u w' e o) := Lib.hid (fun o h u => ofF o u (by omega) (by omega))
    have CC1 : Hid (∀ z E : Int, CmpO (qF x d) 1 x d z E → E = 0 ∧ z ≤ 0) := Lib.hid (fun z E h => by
      have h1 := round_le (x := x) HD.out.1
      have h2 := HD.out.2
      have h3 := bigR_ge (n := 1) (by omega)
      have h4 : ¬ longQ (qF x d, 1) := by
        unfold longQ at h2 ⊢
        have h2' : ¬ (BigR ≤ x.natAbs ∨ BigR ≤ d) := h2
        show ¬ (BigR ≤ (qF x d).natAbs ∨ BigR ≤ 1); omega
      rcases h with ⟨a, _⟩ | ⟨_, _, a | a, _⟩ | ⟨_, _, _, _, a, b⟩
      · have := HD.out.1; omega
      · exact absurd a h4
      · exact absurd a h2
      · refine ⟨b, ?_⟩
        rw [a, show ((1 : Nat) : Int) = 1 from rfl, Int.mul_one]
        exact HBT.out.1)
    have CC2 : Hid (∀ z E : Int, CmpO x d (qU x d) 1 z E → E = 0 ∧ z ≤ 0) := Lib.hid (fun z E h => by
      have h1 := round_le (x := x) HD.out.1
      have h2 := HD.out.2
      have h3 := bigR_ge (n := 1) (by omega)
      have h4 : ¬ longQ (qU x d, 1) := by
        unfold longQ at h2 ⊢
        have h2' : ¬ (BigR ≤ x.natAbs ∨ BigR ≤ d) := h2
        show ¬ (BigR ≤ (qU x d).natAbs ∨ BigR ≤ 1); omega
      rcases h with ⟨a, _⟩ | ⟨_, _, a | a, _⟩ | ⟨_, _, _, _, a, b⟩
      · have := HD.out.1; omega
      · exact absurd a h2
      · exact absurd a h4
      · refine ⟨b, ?_⟩
        rw [a, show ((1 : Nat) : Int) = 1 from rfl, Int.mul_one]
        exact HBT.out.2)
    rcases HOK6.out with ⟨rfl, hok, hin⟩ | ⟨rfl, hok⟩
    · have hz0 := (whole_num HD.out.1 hok).2
      have JN6 := Lib.hid hin
      rw [hz0] at JD6
      clear hok hin hz0 HOK6
      obtain ⟨g0, g1, _, _, lg⟩ := blk2 GG6.out
      obtain ⟨d0, d1, _, _, ld⟩ := blk2 GD6.out
      obtain ⟨b0, b1, _, _, lb⟩ := blk2 GB6.out
      have CM1 : Hid (∀ u va, IntR u va 0 → ∀ vb, IntR u vb 0 → Calls Tryz.prog 40 #[va, vb] u fun e w' => e = .returned (.int .i64 0) ∧ Below u.heap.size u w') := Lib.hid (fun u va h1 vb h2 => cmpF va vb 0 0 0 u h1.2 h2.2 rfl)
      have CM2 : Hid (∀ u, Below w6.heap.size w6 u → Calls Tryz.prog 40 #[.agg #[.bool n3, .slice a3 k3 c3], .agg #[.bool n1, .slice a1 k1 c1]] u fun e w' => e = .returned (.int .i64 0) ∧ Below u.heap.size u w') := Lib.hid (fun u hu => cmpF _ _ (qF x d) (qF x d) 0 u (JN6.out.below hu).2 (JF6.out.below hu).2 (zcmp_eq rfl))
      go_wp2_with fail
      try rw [eU6]
      try clear eU6
      go_region_with (first
        | (go_at_call 14; refine Calls.mono (STEP.out 0 (by decide) _) ?_; rintro e wA ⟨mA, dA, lA, eA, rfl, jA, hbA⟩; have BA := Lib.hid (below_of (w := w6) (by first | exact Below.refl _ _ | exact (Below.refl _ _).drew | exact (Below.refl _ _).drew.drew) hbA); have JA := Lib.hid jA; have t0 := cell_to BA.out g0 lg; have t1 := cell_to BA.out g1 lg; have q0 := cell_to BA.out d0 ld; have q1 := cell_to BA.out d1 ld; have r0 := cell_to BA.out b0 lb; have r1 := cell_to BA.out b1 lb; clear jA hbA)
        | (go_at_call 40; first
          | ((with_reducible refine Calls.mono (CM2.out _ ?_) ?_); first | exact BB.out | exact BB.out.drew
             rintro e wC ⟨rfl, hbC⟩; have BC := Lib.hid (below_of (w := w6) (by first | exact BB.out | exact BB.out.drew) hbC); clear hbC)
          | (refine Calls.mono (CM1.out _ _ (by first | exact JD6.out.below BA.out | exact ri_drewz (JD6.out.below BA.out)) _ (by first | exact JA.out | exact ri_drewz JA.out)) ?_
             rintro e wB ⟨rfl, hbB⟩; have BB := Lib.hid (below_of (w := w6) (by first | exact BA.out | exact BA.out.drew) hbB); clear t0 t1 q0 q1 r0 r1; have t0 := cell_to BB.out g0 lg; have t1 := cell_to BB.out g1 lg; have q0 := cell_to BB.out d0 ld; have q1 := cell_to BB.out d1 ld; have r0 := cell_to BB.out b0 lb; have r1 := cell_to BB.out b1 lb; clear hbB)))
      all_goals
        obtain ⟨G1, G2, G3, R1, R2, R3, -, -⟩ := FIN.out _ BC.out
        have C1 := Lib.hid (rcmp_any _ _ _ _ _ _ _ R2 R1)
        obtain ⟨⟨h0, h1, h2⟩, _, _⟩ := blk3 G2
        obtain ⟨⟨i0, i1, i2⟩, _, _⟩ := blk3 G1
        clear G1 G2 G3 R1 R2 R3 g0 g1 d0 d1 b0 b1 lg ld lb t0 t1 q0 q1 r0 r1
        go_wp2_with fail
        refine C1.out.mono ?_
        rintro e wD ⟨cz, cE, rfl, hc, hb⟩
        obtain ⟨rfl, hcz⟩ := CC1.out _ _ hc
        have BD : Hid (Below w6.heap.size w6 wD) := Lib.hid (below_of BC.out hb)
        clear hc hb C1 h0 h1 h2 i0 i1 i2
        obtain ⟨G1, G2, G3, R1, R2, R3, -, -⟩ := FIN.out _ BD.out
        have C2 := Lib.hid (rcmp_any _ _ _ _ _ _ _ R1 R3)
        obtain ⟨⟨h0, h1, h2⟩, _, _⟩ := blk3 G3
        obtain ⟨⟨i0, i1, i2⟩, _, _⟩ := blk3 G1
        clear G1 G2 G3 R1 R2 R3
        go_wp2_with fail
        refine C2.out.mono ?_
        rintro e wF ⟨kz, kE, rfl, hc, hb⟩
        obtain ⟨rfl, hkz⟩ := CC2.out _ _ hc
        have BF : Hid (Below w6.heap.size w6 wF) := Lib.hid (below_of BD.out hb)
        have AL := Lib.hid (alive3_any wF (FIN.out _ BF.out).2.2.2.2.2.2.1)
        clear hc hb C2 h0 h1 h2 i0 i1 i2
        go_wp2_with (go_at_call 32; refine AL.out.mono ?_; rintro e wG ⟨rfl, hb⟩; have BG := Lib.hid (below_of BF.out hb); clear hb)
        go_ret
        exact ⟨rfl, below_of B6.out BG.out⟩
    · have hz0 := parted_num HD.out.1 hok
      rw [hz0] at JD6
      clear hok hz0 HOK6
      obtain ⟨g0, g1, _, _, lg⟩ := blk2 GG6.out
      obtain ⟨d0, d1, _, _, ld⟩ := blk2 GD6.out
      obtain ⟨b0, b1, _, _, lb⟩ := blk2 GB6.out
      have CM1 : Hid (∀ u va, IntR u va 1 → ∀ vb, IntR u vb 1 → Calls Tryz.prog 40 #[va, vb] u fun e w' => e = .returned (.int .i64 0) ∧ Below u.heap.size u w') := Lib.hid (fun u va h1 vb h2 => cmpF va vb 1 1 0 u h1.2 h2.2 rfl)
      go_wp2_with fail
      try rw [eU6]
      try clear eU6
      go_region_with (first
        | (go_at_call 14; refine Calls.mono (STEP.out 1 (by decide) _) ?_; rintro e wA ⟨mA, dA, lA, eA, rfl, jA, hbA⟩; have BA := Lib.hid (below_of (w := w6) (by first | exact Below.refl _ _ | exact (Below.refl _ _).drew | exact (Below.refl _ _).drew.drew) hbA); have JA := Lib.hid jA; have t0 := cell_to BA.out g0 lg; have t1 := cell_to BA.out g1 lg; have q0 := cell_to BA.out d0 ld; have q1 := cell_to BA.out d1 ld; have r0 := cell_to BA.out b0 lb; have r1 := cell_to BA.out b1 lb; clear jA hbA)
        | (go_at_call 40; first
          | ((with_reducible refine Calls.mono (CM2.out _ ?_) ?_); first | exact BB.out | exact BB.out.drew
             rintro e wC ⟨rfl, hbC⟩; have BC := Lib.hid (below_of (w := w6) (by first | exact BB.out | exact BB.out.drew) hbC); clear hbC)
          | (refine Calls.mono (CM1.out _ _ (by first | exact JD6.out.below BA.out | exact ri_drewz (JD6.out.below BA.out)) _ (by first | exact JA.out | exact ri_drewz JA.out)) ?_
             rintro e wB ⟨rfl, hbB⟩; have BB := Lib.hid (below_of (w := w6) (by first | exact BA.out | exact BA.out.drew) hbB); clear t0 t1 q0 q1 r0 r1; have t0 := cell_to BB.out g0 lg; have t1 := cell_to BB.out g1 lg; have q0 := cell_to BB.out d0 ld; have q1 := cell_to BB.out d1 ld; have r0 := cell_to BB.out b0 lb; have r1 := cell_to BB.out b1 lb; clear hbB)))
      all_goals
        obtain ⟨G1, G2, G3, R1, R2, R3, -, -⟩ := FIN.out _ BB.out
        have C1 := Lib.hid (rcmp_any _ _ _ _ _ _ _ R2 R1)
        obtain ⟨⟨h0, h1, h2⟩, _, _⟩ := blk3 G2
        obtain ⟨⟨i0, i1, i2⟩, _, _⟩ := blk3 G1
        clear G1 G2 G3 R1 R2 R3 g0 g1 d0 d1 b0 b1 lg ld lb t0 t1 q0 q1 r0 r1
        go_wp2_with fail
        refine C1.out.mono ?_
        rintro e wD ⟨cz, cE, rfl, hc, hb⟩
        obtain ⟨rfl, hcz⟩ := CC1.out _ _ hc
        have BD : Hid (Below w6.heap.size w6 wD) := Lib.hid (below_of BB.out hb)
        clear hc hb C1 h0 h1 h2 i0 i1 i2
        obtain ⟨G1, G2, G3, R1, R2, R3, -, -⟩ := FIN.out _ BD.out
        have C2 := Lib.hid (rcmp_any _ _ _ _ _ _ _ R1 R3)
        obtain ⟨⟨h0, h1, h2⟩, _, _⟩ := blk3 G3
        obtain ⟨⟨i0, i1, i2⟩, _, _⟩ := blk3 G1
        clear G1 G2 G3 R1 R2 R3
        go_wp2_with fail
        refine C2.out.mono ?_
        rintro e wF ⟨kz, kE, rfl, hc, hb⟩
        obtain ⟨rfl, hkz⟩ := CC2.out _ _ hc
        have BF : Hid (Below w6.heap.size w6 wF) := Lib.hid (below_of BD.out hb)
        have AL := Lib.hid (alive3_any wF (FIN.out _ BF.out).2.2.2.2.2.2.1)
        clear hc hb C2 h0 h1 h2 i0 i1 i2
        go_wp2_with (go_at_call 32; refine AL.out.mono ?_; rintro e wG ⟨rfl, hb⟩; have BG := Lib.hid (below_of BF.out hb); clear hb)
        go_ret
        exact ⟨rfl, below_of B6.out BG.out⟩
  · clear IF2 IU2
    go_wp2_with fail
    try rw [eU2]
    try clear eU2
    refine AL.out.mono ?_
    rintro e w7 ⟨rfl, hb⟩
    have B7 := Lib.hid (below_of B2.out hb)
    clear hb
    go_wp2
    go_ret
    exact ⟨rfl, B7.out⟩
  · clear IF2 IU2
    go_wp2_with fail
    try rw [eU2]
    try clear eU2
    refine AL.out.mono ?_
    rintro e w7 ⟨rfl, hb⟩
    have B7 := Lib.hid (below_of B2.out hb)
    clear hb
    go_wp2
    go_ret
    exact ⟨rfl, B7.out⟩
end Go.Proofs.YtkbfgbkhhfligaaGreatDoor
