/- RatioBack: the walk (written by genrlk.py). -/
import Derived.Test.YthgmebnihpjnoaaGreatDoorRBT
import Derived.Test.YthgmebnihpjnoaaGreatDoorQB4
set_option linter.unusedVariables false
set_option linter.unusedSimpArgs false
namespace Go.Proofs.YthgmebnihpjnoaaGreatDoor
open Go.RowKit Mth

theorem not_longQ' {x : Int} {d : Nat} : ¬ longQ (x, d) ↔ x.natAbs < BigR ∧ d < BigR := by
  unfold longQ
  show ¬ (BigR ≤ x.natAbs ∨ BigR ≤ d) ↔ _
  omega
/-- a fraction's own text, read -/
theorem back_prs {w : World} {X : Int} {D : Nat} {v : Value} {E : Int} (hl : ¬ longQ (X, D)) (h0 : 0 < D) (hg : Nat.gcd X.natAbs D = 1) (h : PrsO w (tB (tQ X D)) v E) : E = 0 ∧ FrV w v X D := by
  obtain ⟨g1, g2⟩ := not_longQ'.1 hl
  obtain ⟨k1, k2, k3⟩ := txt_says (D := D) (bigR_lt g1)
  rcases h with ⟨a, _⟩ | ⟨_, b, _⟩ | ⟨_, _, c, _⟩ | ⟨_, _, _, e, f⟩
  · exact absurd k1 a
  · rw [k2, k3] at b; exact absurd b hl
  · rw [k3] at c; omega
  · rw [k2, k3, (low_one hg).1, (low_one hg).2] at f
    exact ⟨e, f⟩
theorem zcmp_zero {x y : Int} : zcmp x y = 0 ↔ x = y := by
  rcases zcmp3 x y with ⟨a, b⟩ | ⟨a, b⟩ | ⟨a, b⟩ <;> constructor <;> intro h <;> first | omega | exact b | exact a
/-- alike in text just if one number -/
theorem text_one {x y : Int} {d e : Nat} (hd : 0 < d) (he : 0 < e) (h1 : ¬ longQ (x, d)) (h2 : ¬ longQ (y, e)) : tB (tQ (lowN x d) (lowD x d)) = tB (tQ (lowN y e) (lowD y e)) ↔ x * e = y * d := by
  have a := low_eq x hd
  have b := low_eq y he
  constructor
  · intro h
    have l1 := low_le x d
    have l2 := low_le y e
    obtain ⟨g1, g2⟩ := not_longQ'.1 h1
    obtain ⟨g3, g4⟩ := not_longQ'.1 h2
    obtain ⟨e1, e2⟩ := tQ_inj (bigR_lt (Nat.lt_of_le_of_lt l1.1 g1)) (bigR_lt (Nat.lt_of_le_of_lt l2.1 g3)) h
    have hp := lowD_pos (n := x) hd
    rw [← e1, ← e2] at b
    generalize lowN x d = X at *
    generalize lowD x d = D at *
    have hk : x * e * D = y * d * D := by
      calc x * e * D = x * D * e := by rw [Int.mul_right_comm]
        _ = X * d * e := by rw [a]
        _ = X * e * d := by rw [Int.mul_right_comm]
        _ = y * D * d := by rw [b]
        _ = y * d * D := by rw [Int.mul_right_comm]
    exact Int.eq_of_mul_eq_mul_right (by omega) hk
  · intro h
    obtain ⟨e1, e2⟩ := low_uniq hd he h
    rw [e1, e2]
theorem txt_cases {x : Int} {d : Nat} {S : ByteArray} {E : Int} (h : TxtO x d S E) : E = 11 ∨ E = 5 ∨ (E = 0 ∧ 0 < d ∧ ¬ longQ (x, d) ∧ S = tB (tQ (lowN x d) (lowD x d))) := by
  rcases h with ⟨_, _, e⟩ | ⟨_, _, _, e⟩ | ⟨a, b, c, e⟩
  · exact .inl e
  · exact .inr (.inl e)
  · exact .inr (.inr ⟨e, a, b, c⟩)
set_option maxHeartbeats 16000000 in
set_option maxRecDepth 100000 in
theorem back3_walk (w : World) (va vb : Value) (x y : Int) (d e : Nat) (hz10 : TZ10 w) (ha : RatV w va x d) (hb : RatV w vb y e) :
    Calls Tryz.prog 8 #[va, vb] w fun e w' => e = .returned (.bool true) ∧ Below w.heap.size w w' := by
  have HZ := Lib.hid hz10
  obtain ⟨n, a, k, c, a', k', c', rfl⟩ := rat_shape ha
  obtain ⟨m, p, q, r, p', q', r', rfl⟩ := rat_shape hb
  obtain ⟨w0, eW, h1, h2, bel, -⟩ := alloc2 w (Obj.cells #[.bool n, .slice a k c, .slice a' k' c'] 27) (Obj.cells #[.bool m, .slice p q r, .slice p' q' r'] 27)
  have B0 := Lib.hid bel; have GA := Lib.hid h1; have GB : Hid (w0.heap[w.heap.size + 1]? = _) := Lib.hid h2; have RA := Lib.hid (ha.below bel); have RB := Lib.hid (hb.below bel)
  have T1 := Lib.hid (rtextQ_any _ x d w0 RA.out (HZ.out.below bel))
  obtain ⟨⟨p0, p1, p2⟩, _, _⟩ := blk3 h1
  clear h1 h2 bel ha hb hz10
  go_enter Tryz.func8, Tryz.ntmps8
  go_wp2_with fail
  try rw [eW]
  try clear eW
  refine T1.out.mono ?_
  rintro ee w1 ⟨S, E, rfl, ht, hb⟩
  have B1 := Lib.hid (below_of B0.out hb); have GA1 := Lib.hid (blk_below' hb GA.out); have GB1 := Lib.hid (blk_below' hb GB.out); have RA1 := Lib.hid (RA.out.below hb); have RB1 := Lib.hid (RB.out.below hb)
  have HT := Lib.hid (txt_cases ht)
  have T2 := Lib.hid (rtextQ_any _ y e w1 RB1.out (HZ.out.below B1.out))
  clear T1 hb ht p0 p1 p2 GA GB RA RB B0
  obtain ⟨⟨p0, p1, p2⟩, _, _⟩ := blk3 GB1.out
  go_wp2_with fail
  refine T2.out.mono ?_
  rintro ee w2 ⟨S2, E2, rfl, ht, hb⟩
  have B2 := Lib.hid (below_of B1.out hb); have GA2 := Lib.hid (blk_below' hb GA1.out); have GB2 := Lib.hid (blk_below' hb GB1.out); have RA2 := Lib.hid (RA1.out.below hb); have RB2 := Lib.hid (RB1.out.below hb)
  have HT2 := Lib.hid (txt_cases ht)
  have AL := Lib.hid (alive3_any w2 (HZ.out.below B2.out))
  clear T2 hb ht p0 p1 p2 GA1 GB1 RA1 RB1 B1
  rcases HT.out with rfl | rfl | ⟨rfl, hd, hl, rfl⟩
  · clear HT HT2
    go_wp2_with (go_at_call 17; refine AL.out.mono ?_; rintro e wA ⟨rfl, hb⟩; have BA := Lib.hid (below_of B2.out hb); clear hb)
    go_ret
    exact ⟨rfl, BA.out⟩
  · clear HT HT2
    go_wp2_with (go_at_call 17; refine AL.out.mono ?_; rintro e wA ⟨rfl, hb⟩; have BA := Lib.hid (below_of B2.out hb); clear hb)
    go_ret
    exact ⟨rfl, BA.out⟩
  · rcases HT2.out with rfl | rfl | ⟨rfl, he, hl2, rfl⟩
    · clear HT HT2 hd hl
      go_wp2_with (go_at_call 17; refine AL.out.mono ?_; rintro e wA ⟨rfl, hb⟩; have BA := Lib.hid (below_of B2.out hb); clear hb)
      go_ret
      exact ⟨rfl, BA.out⟩
    · clear HT HT2 hd hl
      go_wp2_with (go_at_call 17; refine AL.out.mono ?_; rintro e wA ⟨rfl, hb⟩; have BA := Lib.hid (below_of B2.out hb); clear hb)
      go_ret
      exact ⟨rfl, BA.out⟩
    · have HD := Lib.hid hd; have HL := Lib.hid hl; have HE := Lib.hid he; have HL2 := Lib.hid hl2
      have HLX : Hid (¬ longQ (lowN x d, lowD x d)) := Lib.hid (low_short hl)
      have HG := Lib.hid (low_coprime (n := x) hd)
      have HPD := Lib.hid (lowD_pos (n := x) hd)
      have HB := Lib.hid (not_longQ'.1 HLX.out)
      have ONE := Lib.hid (text_one hd he hl hl2)
      have LEQ := Lib.hid (low_eq x hd)
      have PR := Lib.hid (rparse_any3 (tB (tQ (lowN x d) (lowD x d))) w2 (tQ_len (bigR_lt HB.out.1) (bigR_lt HB.out.2)))
      have BP : Hid (∀ u v E, PrsO u (tB (tQ (lowN x d) (lowD x d))) v E → E = 0 ∧ FrV u v (lowN x d) (lowD x d)) := Lib.hid (fun u v E h => back_prs HLX.out HPD.out HG.out h)
      clear HT HT2 hd hl he hl2 AL
      generalize lowN x d = X at *
      generalize lowD x d = D at *
      generalize tB (tQ X D) = S at *
      generalize tB (tQ (lowN y e) (lowD y e)) = S2 at *
      go_wp2_with fail
      refine PR.out.mono ?_
      rintro ee y3 ⟨v3, E3, rfl, hp, hb⟩
      obtain ⟨rfl, hf⟩ := BP.out _ _ _ hp
      obtain ⟨n3, a3, k3, c3, a4, k4, c4, rfl⟩ := frv_shape hf
      obtain ⟨w3, eU3, g3, bU, -⟩ := alloc1 y3 (Obj.cells #[.bool n3, .slice a3 k3 c3, .slice a4 k4 c4] 27)
      have bb := below_of hb bU
      have B3 := Lib.hid (below_of B2.out bb); have GA3 := Lib.hid (blk_below' bb GA2.out); have GB3 := Lib.hid (blk_below' bb GB2.out); have RA3 := Lib.hid (RA2.out.below bb); have RB3 := Lib.hid (RB2.out.below bb); have GX3 : Hid (w3.heap[y3.heap.size]? = _) := Lib.hid g3; have FX3 := Lib.hid (hf.below bU)
      have CM := Lib.hid (rcmp_any _ _ x y d e w3 RA3.out RB3.out)
      obtain ⟨⟨p0, p1, p2⟩, _, _⟩ := blk3 GA3.out
      obtain ⟨⟨q0, q1, q2⟩, _, _⟩ := blk3 GB3.out
      clear PR BP hp hb hf g3 bU bb GA2 GB2 RA2 RB2 B2
      go_wp2_with fail
      try rw [eU3]
      try clear eU3
      refine CM.out.mono ?_
      rintro ee w4 ⟨z, E4, rfl, hc, hb⟩
      obtain ⟨rfl, hz⟩ : E4 = 0 ∧ z = zcmp (x * e) (y * d) := by
        rcases hc with ⟨h1 | h1, _⟩ | ⟨_, _, h1 | h1, _⟩ | ⟨_, _, _, _, h1, h2⟩
        · have := HD.out; omega
        · have := HE.out; omega
        · exact absurd h1 HL.out
        · exact absurd h1 HL2.out
        · exact ⟨h2, h1⟩
      have HZC : Hid ((S = S2 ∧ z = 0) ∨ (S ≠ S2 ∧ z ≠ 0)) := Lib.hid (by
        by_cases h : S = S2
        · exact .inl ⟨h, by rw [hz]; exact zcmp_zero.2 (ONE.out.1 h)⟩
        · exact .inr ⟨h, fun k => h (ONE.out.2 (zcmp_zero.1 (by rw [← hz]; exact k)))⟩)
      have B4 := Lib.hid (below_of B3.out hb); have GA4 := Lib.hid (blk_below' hb GA3.out); have GX4 := Lib.hid (blk_below' hb GX3.out); have RA4 := Lib.hid (RA3.out.below hb); have FX4 := Lib.hid (FX3.out.below hb)
      have CM2 := Lib.hid (rcmp_any _ _ X x D d w4 (fr_ratZ FX4.out (bigR_lt HB.out.1) (bigR_lt HB.out.2)) RA4.out)
      clear CM hc hb hz p0 p1 p2 q0 q1 q2 GA3 GB3 RA3 RB3 GX3 FX3 B3
      obtain ⟨⟨p0, p1, p2⟩, _, _⟩ := blk3 GA4.out
      obtain ⟨⟨q0, q1, q2⟩, _, _⟩ := blk3 GX4.out
      go_wp2_with fail
      refine CM2.out.mono ?_
      rintro ee w5 ⟨z2, E5, rfl, hc, hb⟩
      obtain ⟨rfl, rfl⟩ : E5 = 0 ∧ z2 = 0 := by
        rcases hc with ⟨h1 | h1, _⟩ | ⟨_, _, h1 | h1, _⟩ | ⟨_, _, _, _, h1, h2⟩
        · have := HPD.out; omega
        · have := HD.out; omega
        · exact absurd h1 HLX.out
        · exact absurd h1 HL.out
        · exact ⟨h2, by rw [h1]; exact zcmp_zero.2 LEQ.out.symm⟩
      have B5 := Lib.hid (below_of B4.out hb); have GX5 := Lib.hid (blk_below' hb GX4.out); have FX5 := Lib.hid (FX4.out.below hb)
      have RI := Lib.hid (rright_one _ X D w5 FX5.out HB.out.1 HB.out.2 HPD.out HG.out)
      clear CM2 hc hb p0 p1 p2 q0 q1 q2 GA4 GX4 RA4 FX4 B4
      obtain ⟨⟨q0, q1, q2⟩, _, _⟩ := blk3 GX5.out
      rcases HZC.out with ⟨rfl, rfl⟩ | ⟨hs, hz⟩
      · clear HZC ONE
        go_wp2_with fail
        refine RI.out.mono ?_
        rintro ee w6 ⟨rfl, hb⟩
        have B6 := Lib.hid (below_of B5.out hb)
        have AL := Lib.hid (alive3_any w6 (HZ.out.below B6.out))
        clear RI hb q0 q1 q2
        go_wp2_with (go_at_call 17; refine AL.out.mono ?_; rintro e wA ⟨rfl, hb⟩; have BA := Lib.hid (below_of B6.out hb); clear hb)
        go_ret
        exact ⟨rfl, BA.out⟩
      · have hz2 : (z == 0) = false := beq_eq_false_iff_ne.2 hz
        have hs5 : (S.data == S2.data) = false := beq_eq_false_iff_ne.2 (fun h => hs (ByteArray.ext h))
        have hs2 : (S == S2) = false := hs5
        have hs4 : (S.toList == S2.toList) = false := beq_eq_false_iff_ne.2 (fun h => hs (ByteArray.ext (Array.toList_inj.1 (by rw [Lib.toList_data, Lib.toList_data] at h; exact h))))
        have hs3 : decide (S = S2) = false := decide_eq_false hs
        clear HZC ONE
        go_wp2_with fail
        refine RI.out.mono ?_
        rintro ee w6 ⟨rfl, hb⟩
        have B6 := Lib.hid (below_of B5.out hb)
        have AL := Lib.hid (alive3_any w6 (HZ.out.below B6.out))
        clear RI hb q0 q1 q2
        go_wp2_with (go_at_call 17; refine AL.out.mono ?_; rintro e wA ⟨rfl, hb⟩; have BA := Lib.hid (below_of B6.out hb); clear hb)
        go_ret
        exact ⟨rfl, BA.out⟩
end Go.Proofs.YthgmebnihpjnoaaGreatDoor
