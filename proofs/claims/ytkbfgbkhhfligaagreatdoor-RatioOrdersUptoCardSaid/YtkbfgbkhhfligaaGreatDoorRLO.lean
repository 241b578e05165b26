/- RatioOrders: the walk (written by genro.py). -/
import Derived.Test.YtkbfgbkhhfligaaGreatDoorQB4
set_option linter.unusedVariables false
set_option linter.unusedSimpArgs false
namespace Go.Proofs.YtkbfgbkhhfligaaGreatDoor
open Go.RowKit Mth

/-- what Sub says, as a sign -/
theorem sub_sign {x1 x2 : Int} {d1 d2 : Nat} {w : World} {v : Value} {E : Int} (h : RSubO x1 d1 x2 d2 w v E) : (E ≠ 0 ∧ v = zRat) ∨ (E = 0 ∧ ∃ X D, FrV w v X D ∧ X.natAbs < Big ∧ D < Big ∧ zcmp X 0 = zcmp (x1 * d2) (x2 * d1)) := by
  rcases add_two h with ⟨_, e, h⟩ | ⟨_, _, _, e, h⟩ | ⟨h1, h2, _, _, hl, e, h⟩
  · exact .inl ⟨by omega, h⟩
  · exact .inl ⟨by omega, h⟩
  · refine .inr ⟨e, _, _, h, ?_, ?_, ?_⟩
    · exact bigR_lt (by unfold longQ at hl; omega)
    · exact bigR_lt (by unfold longQ at hl; omega)
    · rw [low_zcmp (Nat.mul_pos h1 h2), Int.neg_mul, ← Int.sub_eq_add_neg, zcmp_sub]
theorem cmp_flip {x1 x2 : Int} {d1 d2 : Nat} {z E z' E' : Int} (h : CmpO x1 d1 x2 d2 z E) (k : CmpO x2 d2 x1 d1 z' E') : E = E' ∧ z = -z' := by
  rcases h with ⟨h1, rfl, rfl⟩ | ⟨h1, h2, h3, rfl, rfl⟩ | ⟨h1, h2, h3, h4, rfl, rfl⟩ <;> rcases k with ⟨k1, rfl, rfl⟩ | ⟨k1, k2, k3, rfl, rfl⟩ | ⟨k1, k2, k3, k4, rfl, rfl⟩ <;> first
    | exact ⟨rfl, rfl⟩
    | (exfalso; omega)
    | exact absurd (h3.symm) (by rintro (a | a) <;> first | exact k3 a | exact k4 a)
    | exact absurd (k3.symm) (by rintro (a | a) <;> first | exact h3 a | exact h4 a)
    | (refine ⟨rfl, ?_⟩; unfold zcmp; (repeat' split) <;> omega)
theorem cmp_three {x1 x2 x3 : Int} {d1 d2 d3 : Nat} {a b c : Int} (h : CmpO x1 d1 x2 d2 a 0) (k : CmpO x2 d2 x3 d3 b 0) (l : CmpO x1 d1 x3 d3 c 0) :
    (a = -1 ∨ a = 0 ∨ a = 1) ∧ (b = -1 ∨ b = 0 ∨ b = 1) ∧ (c = -1 ∨ c = 0 ∨ c = 1) ∧ (a ≤ 0 → b ≤ 0 → c ≤ 0) ∧ (0 ≤ a → 0 ≤ b → 0 ≤ c) ∧ (a < 0 → b ≤ 0 → c < 0) ∧ a = zcmp (x1 * d2) (x2 * d1) := by
  rcases h with ⟨_, _, h⟩ | ⟨_, _, _, _, h⟩ | ⟨h1, h2, _, _, ha, _⟩
  · cases h
  · cases h
  rcases k with ⟨_, _, h⟩ | ⟨_, _, _, _, h⟩ | ⟨_, h3, _, _, hb, _⟩
  · cases h
  · cases h
  rcases l with ⟨_, _, h⟩ | ⟨_, _, _, _, h⟩ | ⟨_, _, _, _, hc, _⟩
  · cases h
  · cases h
  have A := zcmp3 (x1 * d2) (x2 * d1)
  have B := zcmp3 (x2 * d3) (x3 * d2)
  have C := zcmp3 (x1 * d3) (x3 * d1)
  rw [← ha] at A; rw [← hb] at B; rw [← hc] at C
  refine ⟨by omega, by omega, by omega, fun i j => ?_, fun i j => ?_, fun i j => ?_, ha⟩
  · have := le_tr h2 (show x1 * d2 ≤ x2 * d1 by omega) (show x2 * d3 ≤ x3 * d2 by omega)
    omega
  · have := le_tr (x1 := x3) (x2 := x2) (x3 := x1) (d1 := d3) h2 (show x3 * d2 ≤ x2 * d3 by omega) (show x2 * d1 ≤ x1 * d2 by omega)
    omega
  · have := lt_tr h2 h3 (show x1 * d2 < x2 * d1 by omega) (show x2 * d3 ≤ x3 * d2 by omega)
    omega
set_option maxHeartbeats 16000000 in
set_option maxRecDepth 100000 in
theorem orders3_walk (w : World) (va vb vc : Value) (x1 x2 x3 : Int) (d1 d2 d3 : Nat) (hz10 : TZ10 w) (ha : RatV w va x1 d1) (hb : RatV w vb x2 d2) (hc : RatV w vc x3 d3) :
    Calls Tryz.prog 11 #[va, vb, vc] w fun e w' => e = .returned (.bool true) ∧ Below w.heap.size w w' := by
  have H1 := Lib.hid ha; have H2 := Lib.hid hb; have H3 := Lib.hid hc; have HZ := Lib.hid hz10
  obtain ⟨m1, a1, k1, c1, s1, t1, u1, rfl⟩ := rat_shape ha
  obtain ⟨m2, a2, k2, c2, s2, t2, u2, rfl⟩ := rat_shape hb
  obtain ⟨m3, a3, k3, c3, s3, t3, u3, rfl⟩ := rat_shape hc
  clear ha hb hc hz10
  obtain ⟨W, eW, h1, h2, h3, bel, hsz⟩ := alloc3 w (Obj.cells #[.bool m1, .slice a1 k1 c1, .slice s1 t1 u1] 41) (Obj.cells #[.bool m2, .slice a2 k2 c2, .slice s2 t2 u2] 41) (Obj.cells #[.bool m3, .slice a3 k3 c3, .slice s3 t3 u3] 41)
  have CE : Hid (∀ u, Below W.heap.size W u → u.heap[w.heap.size]? = some (Obj.cells #[.bool m1, .slice a1 k1 c1, .slice s1 t1 u1] 41) ∧ u.heap[w.heap.size + 1]? = some (Obj.cells #[.bool m2, .slice a2 k2 c2, .slice s2 t2 u2] 41) ∧ u.heap[w.heap.size + 1 + 1]? = some (Obj.cells #[.bool m3, .slice a3 k3 c3, .slice s3 t3 u3] 41) ∧
      RatV u (.agg #[.bool m1, .slice a1 k1 c1, .slice s1 t1 u1]) x1 d1 ∧ RatV u (.agg #[.bool m2, .slice a2 k2 c2, .slice s2 t2 u2]) x2 d2 ∧ RatV u (.agg #[.bool m3, .slice a3 k3 c3, .slice s3 t3 u3]) x3 d3 ∧ Below w.heap.size w u ∧ TZ10 u) := Lib.hid (fun u hu =>
    ⟨blk_below' hu h1, blk_below' hu h2, blk_below' hu h3, (H1.out.below bel).below hu, (H2.out.below bel).below hu, (H3.out.below bel).below hu, below_of bel hu, HZ.out.below (below_of bel hu)⟩)
  have B0 := Lib.hid (Below.refl W.heap.size W)
  clear h1 h2 h3 bel hsz
  go_enter Tryz.func11, Tryz.ntmps11
  have CA1 := Lib.hid (rcmp_any _ _ _ _ _ _ _ (CE.out _ B0.out).2.2.2.1 (CE.out _ B0.out).2.2.2.2.1)
  obtain ⟨G1, G2, G3, -⟩ := CE.out _ B0.out
  obtain ⟨⟨p0, p1, p2⟩, _, _⟩ := blk3 G1
  obtain ⟨⟨q0, q1, q2⟩, _, _⟩ := blk3 G2
  obtain ⟨⟨z0, z1, z2⟩, _, _⟩ := blk3 G3
  clear G1 G2 G3
  go_wp2_with fail
  try rw [eW]
  clear eW
  refine CA1.out.mono ?_
  rintro e w1 ⟨x, e1, rfl, hc1, hb⟩
  have B1 : Hid (Below W.heap.size W w1) := Lib.hid (below_of B0.out hb)
  have HC1 := Lib.hid hc1
  clear hb hc1 CA1
  clear p0 p1 p2 q0 q1 q2 z0 z1 z2
  have CA2 := Lib.hid (rcmp_any _ _ _ _ _ _ _ (CE.out _ B1.out).2.2.2.2.1 (CE.out _ B1.out).2.2.2.2.2.1)
  obtain ⟨G1, G2, G3, -⟩ := CE.out _ B1.out
  obtain ⟨⟨p0, p1, p2⟩, _, _⟩ := blk3 G1
  obtain ⟨⟨q0, q1, q2⟩, _, _⟩ := blk3 G2
  obtain ⟨⟨z0, z1, z2⟩, _, _⟩ := blk3 G3
  clear G1 G2 G3
  go_wp2_with fail
  refine CA2.out.mono ?_
  rintro e w2 ⟨y, e2, rfl, hc2, hb⟩
  have B2 : Hid (Below W.heap.size W w2) := Lib.hid (below_of B1.out hb)
  have HC2 := Lib.hid hc2
  clear hb hc2 CA2
  clear p0 p1 p2 q0 q1 q2 z0 z1 z2
  have CA3 := Lib.hid (rcmp_any _ _ _ _ _ _ _ (CE.out _ B2.out).2.2.2.1 (CE.out _ B2.out).2.2.2.2.2.1)
  obtain ⟨G1, G2, G3, -⟩ := CE.out _ B2.out
  obtain ⟨⟨p0, p1, p2⟩, _, _⟩ := blk3 G1
  obtain ⟨⟨q0, q1, q2⟩, _, _⟩ := blk3 G2
  obtain ⟨⟨z0, z1, z2⟩, _, _⟩ := blk3 G3
  clear G1 G2 G3
  go_wp2_with fail
  refine CA3.out.mono ?_
  rintro e w3 ⟨z, e3, rfl, hc3, hb⟩
  have B3 : Hid (Below W.heap.size W w3) := Lib.hid (below_of B2.out hb)
  have HC3 := Lib.hid hc3
  clear hb hc3 CA3
  clear p0 p1 p2 q0 q1 q2 z0 z1 z2
  have CA4 := Lib.hid (rcmp_any _ _ _ _ _ _ _ (CE.out _ B3.out).2.2.2.2.1 (CE.out _ B3.out).2.2.2.1)
  obtain ⟨G1, G2, G3, -⟩ := CE.out _ B3.out
  obtain ⟨⟨p0, p1, p2⟩, _, _⟩ := blk3 G1
  obtain ⟨⟨q0, q1, q2⟩, _, _⟩ := blk3 G2
  obtain ⟨⟨z0, z1, z2⟩, _, _⟩ := blk3 G3
  clear G1 G2 G3
  go_wp2_with fail
  refine CA4.out.mono ?_
  rintro e w4 ⟨v, e4, rfl, hc4, hb⟩
  have B4 : Hid (Below W.heap.size W w4) := Lib.hid (below_of B3.out hb)
  have HC4 := Lib.hid hc4
  clear hb hc4 CA4
  clear p0 p1 p2 q0 q1 q2 z0 z1 z2
  obtain ⟨rfl, rfl⟩ := cmp_flip HC1.out HC4.out
  have AL := Lib.hid (alive3_any w4 (CE.out _ B4.out).2.2.2.2.2.2.2)
  have SU : Hid (∀ u, Below W.heap.size W u → Calls Tryz.prog 47 #[.agg #[.bool m1, .slice a1 k1 c1, .slice s1 t1 u1], .agg #[.bool m2, .slice a2 k2 c2, .slice s2 t2 u2]] u fun e w' => ∃ v' E, e = .returned (.tuple #[v', .int .i64 E]) ∧ RSubO x1 d1 x2 d2 w' v' E ∧ Below u.heap.size u w') := Lib.hid (fun u hu => rsub_any3 _ _ _ _ _ _ u (CE.out _ hu).2.2.2.1 (CE.out _ hu).2.2.2.2.1)
  have HEN : Hid (∀ u, Below W.heap.size W u → Below w.heap.size w u) := Lib.hid (fun u hu => (CE.out _ hu).2.2.2.2.2.2.1)
  have HV : Hid (v = -1 ∨ v = 0 ∨ v = 1) := Lib.hid (by
    rcases HC4.out with ⟨_, h, _⟩ | ⟨_, _, _, h, _⟩ | ⟨_, _, _, _, h, _⟩
    · omega
    · omega
    · have := zcmp3 (x2 * d1) (x1 * d2); omega)
  have hv1 : -1 ≤ v := by have := HV.out; omega
  have hv2 : v ≤ 1 := by have := HV.out; omega
  obtain ⟨G1, G2, G3, -⟩ := CE.out _ B4.out
  obtain ⟨⟨p0, p1, p2⟩, _, _⟩ := blk3 G1
  obtain ⟨⟨q0, q1, q2⟩, _, _⟩ := blk3 G2
  obtain ⟨⟨z0, z1, z2⟩, _, _⟩ := blk3 G3
  clear G1 G2 G3
  by_cases he : e1 = 0 ∧ e2 = 0 ∧ e3 = 0
  · obtain ⟨rfl, rfl, rfl⟩ := he
    obtain ⟨i1, i2, i3, i4, i5, i6, i7⟩ := cmp_three HC1.out HC2.out HC3.out
    have I7 := Lib.hid i7
    clear HC1 HC2 HC3 HC4 HV hv1 hv2 i7
    obtain ⟨x, hx⟩ : ∃ x, -v = x := ⟨_, rfl⟩
    obtain rfl : v = -x := by omega
    rw [Int.neg_neg] at i1 i4 i5 i6 I7
    clear hx
    have key : ∀ b : Int, b = x → Int.neg (Int.neg b) = x := fun b h => by rw [h]; exact Int.neg_neg x
    rcases i1 with rfl | rfl | rfl <;> rcases i2 with rfl | rfl | rfl <;> rcases i3 with rfl | rfl | rfl <;> first
      | (exfalso; first | exact absurd (i4 (by decide) (by decide)) (by decide) | exact absurd (i5 (by decide) (by decide)) (by decide) | exact absurd (i6 (by decide) (by decide)) (by decide))
      | (clear i4 i5 i6 key
         go_wp2_with (first | (go_at_call 32; refine AL.out.mono ?_; rintro e w5 ⟨rfl, hb⟩; have B5 := Lib.hid (below_of B4.out hb); obtain ⟨G1, G2, G3, -⟩ := CE.out _ B5.out; obtain ⟨⟨l0, l1, l2⟩, _, _⟩ := blk3 G1; obtain ⟨⟨n0, n1, n2⟩, _, _⟩ := blk3 G2; clear G1 G2 G3 hb))
         refine (SU.out _ B5.out).mono ?_
         rintro e w6 ⟨v6, E6, rfl, hs, hb6⟩
         have B6 : Hid (Below W.heap.size W w6) := Lib.hid (below_of B5.out hb6)
         rcases sub_sign hs with ⟨h6, rfl⟩ | ⟨rfl, X, D, hf, hX, hD, hsg⟩
         · have e6 : (E6 != 0) = true := bne_iff_ne.2 h6
           unfold zRat
           clear h6 hs hb6
           go_wp2
           go_ret
           exact ⟨rfl, (HEN.out _ B6.out).alloc (HEN.out _ B6.out).size _⟩
         · have HF := Lib.hid hf
           obtain ⟨f1, f2, f3, g1, g2, g3, rfl, -, -⟩ := hf
           obtain ⟨V, eV, gV, bV, -⟩ := alloc1 w6 (Obj.cells #[.bool (sgn X), .slice f1 f2 f3, .slice g1 g2 g3] 41)
           have SG := Lib.hid (signF _ X _ V ((FrV.two HF.out hX hD).2.1.below bV).2 (hsg.trans I7.out.symm))
           have BV := Lib.hid (below_of B6.out bV)
           obtain ⟨⟨r0, r1, r2⟩, _, _⟩ := blk3 gV
           clear gV bV hs hb6 hX hD hsg
           go_wp2_with (go_at_call 48; refine SG.out.mono ?_; rintro e w7 ⟨rfl, hb⟩; have B7 := Lib.hid (below_of BV.out hb); clear hb)
           go_ret
           exact ⟨rfl, HEN.out _ B7.out⟩)
  · have hx0 : Hid (e1 = 0 ∨ v = 0) := Lib.hid (by
      rcases HC4.out with ⟨_, h, _⟩ | ⟨_, _, _, h, _⟩ | ⟨_, _, _, _, _, h⟩
      · exact .inr h
      · exact .inr h
      · exact .inl h)
    have he' : e1 ≠ 0 ∨ (e1 = 0 ∧ e2 ≠ 0) ∨ (e1 = 0 ∧ e2 = 0 ∧ e3 ≠ 0) := by omega
    clear HC1 HC2 HC3 HC4 he
    rcases he' with h | ⟨rfl, h⟩ | ⟨rfl, rfl, h⟩
    · have hv0 : v = 0 := hx0.out.resolve_left h
      have eb : (e1 != 0) = true := bne_iff_ne.2 h
      subst hv0
      clear h hx0 HV hv1 hv2
      go_wp2_with (go_at_call 32; refine AL.out.mono ?_; rintro e w5 ⟨rfl, hb⟩; have B5 := Lib.hid (below_of B4.out hb); clear hb)
      go_ret
      exact ⟨rfl, HEN.out _ B5.out⟩
    · have eb : (e2 != 0) = true := bne_iff_ne.2 h
      clear h hx0
      rcases HV.out with rfl | rfl | rfl
      all_goals (
        clear HV hv1 hv2
        go_wp2_with (go_at_call 32; refine AL.out.mono ?_; rintro e w5 ⟨rfl, hb⟩; have B5 := Lib.hid (below_of B4.out hb); clear hb)
        go_ret
        exact ⟨rfl, HEN.out _ B5.out⟩)
    · have eb : (e3 != 0) = true := bne_iff_ne.2 h
      clear h hx0
      rcases HV.out with rfl | rfl | rfl
      all_goals (
        clear HV hv1 hv2
        go_wp2_with (go_at_call 32; refine AL.out.mono ?_; rintro e w5 ⟨rfl, hb⟩; have B5 := Lib.hid (below_of B4.out hb); clear hb)
        go_ret
        exact ⟨rfl, HEN.out _ B5.out⟩)
end Go.Proofs.YtkbfgbkhhfligaaGreatDoor
