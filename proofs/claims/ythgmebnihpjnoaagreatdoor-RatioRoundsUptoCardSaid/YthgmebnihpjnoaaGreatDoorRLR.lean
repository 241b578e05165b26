/- RatioRounds: the walk (written by genrlr.py). -/
import Derived.Test.YthgmebnihpjnoaaGreatDoorRFR
import Derived.Test.YthgmebnihpjnoaaGreatDoorQB4
set_option linter.unusedVariables false
set_option linter.unusedSimpArgs false
namespace Go.Proofs.YthgmebnihpjnoaaGreatDoor
open Go.RowKit Mth

open Classical in
/-- what a rounding z of x by d answers, and its error -/
noncomputable def rndZ (x : Int) (d : Nat) (z : Int) : Int := if d = 0 ∨ longQ (x, d) then 0 else z
open Classical in
noncomputable def rndE (x : Int) (d : Nat) : Int := if d = 0 then 11 else if longQ (x, d) then 5 else 0
open Classical in
noncomputable def intB (x : Int) (d : Nat) : Bool := decide (¬ (d = 0 ∨ longQ (x, d)) ∧ lowD x d = 1)
open Classical in
noncomputable def intZ (x : Int) (d : Nat) : Int := if ¬ (d = 0 ∨ longQ (x, d)) ∧ lowD x d = 1 then lowN x d else 0
theorem zint_v (w : World) : IntV w (.agg #[.bool false, .slice none 0 0]) 0 := (intk_zero w).intV (Nat.lt_trans Nat.zero_lt_one one_lt_big)
open Classical in
theorem RndO.val {w : World} {v : Value} {E x z : Int} {d : Nat} (h : RndO w v E x d z) : E = rndE x d ∧ IntV w v (rndZ x d z) := by
  rcases h with ⟨a, rfl, rfl⟩ | ⟨a, b, rfl, rfl⟩ | ⟨a, b, rfl, h⟩
  · exact ⟨(if_pos a).symm, by rw [rndZ, if_pos (.inl a)]; exact zint_v w⟩
  · exact ⟨((if_neg (by omega)).trans (if_pos b)).symm, by rw [rndZ, if_pos (.inr b)]; exact zint_v w⟩
  · exact ⟨((if_neg (by omega)).trans (if_neg b)).symm, by rw [rndZ, if_neg (by rintro (h | h); omega; exact b h)]; exact h.2⟩
open Classical in
theorem IntO.val {w : World} {v : Value} {b : Bool} {x : Int} {d : Nat} (h : IntO w v b x d) : b = intB x d ∧ IntV w v (intZ x d) := by
  rcases h with ⟨a, rfl, rfl⟩ | ⟨a, b, c, rfl, rfl⟩ | ⟨a, b, c, rfl, h⟩
  · exact ⟨(decide_eq_false (fun h => h.1 a)).symm, by rw [intZ, if_neg (fun h => h.1 a)]; exact zint_v w⟩
  · exact ⟨(decide_eq_false (fun h => c h.2)).symm, by rw [intZ, if_neg (fun h => c h.2)]; exact zint_v w⟩
  · have hk : ¬ (d = 0 ∨ longQ (x, d)) ∧ lowD x d = 1 := ⟨by rintro (h | h); omega; exact b h, c⟩
    exact ⟨(decide_eq_true hk).symm, by rw [intZ, if_pos hk]; exact h.2⟩
theorem rnd_shape' {w : World} {v : Value} {z : Int} (h : IntV w v z) : ∃ n a k c, v = .agg #[.bool n, .slice a k c] := h.shape
set_option maxHeartbeats 16000000 in
set_option maxRecDepth 100000 in
theorem rounds3_walk (w : World) (va : Value) (x : Int) (d : Nat) (hz10 : TZ10 w) (ha : RatV w va x d) :
    Calls Tryz.prog 6 #[va] w fun e w' => e = .returned (.bool true) ∧ Below w.heap.size w w' := by
  have HZ := Lib.hid hz10
  obtain ⟨n, a, k, c, a', k', c', rfl⟩ := rat_shape ha
  obtain ⟨w0, eU0, h1, bel, -⟩ := alloc1 w (Obj.cells #[.bool n, .slice a k c, .slice a' k' c'] 27)
  have GA0 := Lib.hid h1; have RA0 := Lib.hid (ha.below bel); have B0 := Lib.hid bel
  have CA := Lib.hid (rfloor_any3 _ x d w0 RA0.out)
  obtain ⟨⟨p0, p1, p2⟩, _, _⟩ := blk3 h1
  clear h1 bel ha hz10
  go_enter Tryz.func6, Tryz.ntmps6
  go_wp2_with fail
  try rw [eU0]
  try clear eU0
  refine CA.out.mono ?_
  rintro e y1 ⟨v1, E1, rfl, hr, hb⟩
  obtain ⟨rfl, hi⟩ := hr.val
  obtain ⟨n1, a1, k1, c1, rfl⟩ := hi.shape
  obtain ⟨w1, eU1, g1, bU, -⟩ := alloc1 y1 (Obj.cells #[.bool n1, .slice a1 k1 c1] 25)
  have bb := below_of hb bU
  have GA1 := Lib.hid (blk_below' bb GA0.out); have RA1 := Lib.hid (RA0.out.below bb); have B1 := Lib.hid (below_of B0.out bb)
  
  have GB1_1 : Hid (w1.heap[y1.heap.size]? = _) := Lib.hid g1; have IV1_1 := Lib.hid (hi.below bU)
  clear CA GA0 RA0 B0 p0 p1 p2 hr hi hb bb bU g1 
  have CA := Lib.hid (rround3_any _ x d false w1 RA1.out)
  obtain ⟨⟨p0, p1, p2⟩, _, _⟩ := blk3 GA1.out
  go_wp2_with fail
  try rw [eU1]
  try clear eU1
  refine CA.out.mono ?_
  rintro e y2 ⟨v2, E2, rfl, hr, hb⟩
  rw [rUF_f] at hr
  obtain ⟨rfl, hi⟩ := hr.val
  obtain ⟨n2, a2, k2, c2, rfl⟩ := hi.shape
  obtain ⟨w2, eU2, g1, bU, -⟩ := alloc1 y2 (Obj.cells #[.bool n2, .slice a2 k2 c2] 25)
  have bb := below_of hb bU
  have GA2 := Lib.hid (blk_below' bb GA1.out); have RA2 := Lib.hid (RA1.out.below bb); have B2 := Lib.hid (below_of B1.out bb)
  have GB1_2 := Lib.hid (blk_below' bb GB1_1.out); have IV1_2 := Lib.hid (IV1_1.out.below bb);
  have GB2_2 : Hid (w2.heap[y2.heap.size]? = _) := Lib.hid g1; have IV2_2 := Lib.hid (hi.below bU)
  clear CA GA1 RA1 B1 p0 p1 p2 hr hi hb bb bU g1 GB1_1 IV1_1
  have CA := Lib.hid (rceil_any3 _ x d w2 RA2.out)
  obtain ⟨⟨p0, p1, p2⟩, _, _⟩ := blk3 GA2.out
  go_wp2_with fail
  try rw [eU2]
  try clear eU2
  refine CA.out.mono ?_
  rintro e y3 ⟨v3, E3, rfl, hr, hb⟩
  obtain ⟨rfl, hi⟩ := hr.val
  obtain ⟨n3, a3, k3, c3, rfl⟩ := hi.shape
  obtain ⟨w3, eU3, g1, bU, -⟩ := alloc1 y3 (Obj.cells #[.bool n3, .slice a3 k3 c3] 25)
  have bb := below_of hb bU
  have GA3 := Lib.hid (blk_below' bb GA2.out); have RA3 := Lib.hid (RA2.out.below bb); have B3 := Lib.hid (below_of B2.out bb)
  have GB1_3 := Lib.hid (blk_below' bb GB1_2.out); have IV1_3 := Lib.hid (IV1_2.out.below bb); have GB2_3 := Lib.hid (blk_below' bb GB2_2.out); have IV2_3 := Lib.hid (IV2_2.out.below bb);
  have GB3_3 : Hid (w3.heap[y3.heap.size]? = _) := Lib.hid g1; have IV3_3 := Lib.hid (hi.below bU)
  clear CA GA2 RA2 B2 p0 p1 p2 hr hi hb bb bU g1 GB1_2 IV1_2 GB2_2 IV2_2
  have CA := Lib.hid (rround3_any _ x d true w3 RA3.out)
  obtain ⟨⟨p0, p1, p2⟩, _, _⟩ := blk3 GA3.out
  go_wp2_with fail
  try rw [eU3]
  try clear eU3
  refine CA.out.mono ?_
  rintro e y4 ⟨v4, E4, rfl, hr, hb⟩
  rw [rUF_t] at hr
  obtain ⟨rfl, hi⟩ := hr.val
  obtain ⟨n4, a4, k4, c4, rfl⟩ := hi.shape
  obtain ⟨w4, eU4, g1, bU, -⟩ := alloc1 y4 (Obj.cells #[.bool n4, .slice a4 k4 c4] 25)
  have bb := below_of hb bU
  have GA4 := Lib.hid (blk_below' bb GA3.out); have RA4 := Lib.hid (RA3.out.below bb); have B4 := Lib.hid (below_of B3.out bb)
  have GB1_4 := Lib.hid (blk_below' bb GB1_3.out); have IV1_4 := Lib.hid (IV1_3.out.below bb); have GB2_4 := Lib.hid (blk_below' bb GB2_3.out); have IV2_4 := Lib.hid (IV2_3.out.below bb); have GB3_4 := Lib.hid (blk_below' bb GB3_3.out); have IV3_4 := Lib.hid (IV3_3.out.below bb);
  have GB4_4 : Hid (w4.heap[y4.heap.size]? = _) := Lib.hid g1; have IV4_4 := Lib.hid (hi.below bU)
  clear CA GA3 RA3 B3 p0 p1 p2 hr hi hb bb bU g1 GB1_3 IV1_3 GB2_3 IV2_3 GB3_3 IV3_3
  have CA := Lib.hid (rint_any3 _ x d w4 RA4.out)
  obtain ⟨⟨p0, p1, p2⟩, _, _⟩ := blk3 GA4.out
  go_wp2_with fail
  try rw [eU4]
  try clear eU4
  refine CA.out.mono ?_
  rintro e y5 ⟨v5, E5, rfl, hr, hb⟩
  obtain ⟨rfl, hi⟩ := hr.val
  obtain ⟨n5, a5, k5, c5, rfl⟩ := hi.shape
  obtain ⟨w5, eU5, g1, bU, -⟩ := alloc1 y5 (Obj.cells #[.bool n5, .slice a5 k5 c5] 25)
  have bb := below_of hb bU
  have GA5 := Lib.hid (blk_below' bb GA4.out); have RA5 := Lib.hid (RA4.out.below bb); have B5 := Lib.hid (below_of B4.out bb)
  have GB1_5 := Lib.hid (blk_below' bb GB1_4.out); have IV1_5 := Lib.hid (IV1_4.out.below bb); have GB2_5 := Lib.hid (blk_below' bb GB2_4.out); have IV2_5 := Lib.hid (IV2_4.out.below bb); have GB3_5 := Lib.hid (blk_below' bb GB3_4.out); have IV3_5 := Lib.hid (IV3_4.out.below bb); have GB4_5 := Lib.hid (blk_below' bb GB4_4.out); have IV4_5 := Lib.hid (IV4_4.out.below bb);
  have GB5_5 : Hid (w5.heap[y5.heap.size]? = _) := Lib.hid g1; have IV5_5 := Lib.hid (hi.below bU)
  clear CA GA4 RA4 B4 p0 p1 p2 hr hi hb bb bU g1 GB1_4 IV1_4 GB2_4 IV2_4 GB3_4 IV3_4 GB4_4 IV4_4
  have CA := Lib.hid (rint3_any _ x d w5 RA5.out)
  obtain ⟨⟨p0, p1, p2⟩, _, _⟩ := blk3 GA5.out
  go_wp2_with fail
  try rw [eU5]
  try clear eU5
  refine CA.out.mono ?_
  rintro e y6 ⟨v6, E6, rfl, hr, hb⟩
  obtain ⟨rfl, hi⟩ := hr.val
  obtain ⟨n6, a6, k6, c6, rfl⟩ := hi.shape
  obtain ⟨w6, eU6, g1, bU, -⟩ := alloc1 y6 (Obj.cells #[.bool n6, .slice a6 k6 c6] 25)
  have bb := below_of hb bU
  have GA6 := Lib.hid (blk_below' bb GA5.out); have RA6 := Lib.hid (RA5.out.below bb); have B6 := Lib.hid (below_of B5.out bb)
  have GB1_6 := Lib.hid (blk_below' bb GB1_5.out); have IV1_6 := Lib.hid (IV1_5.out.below bb); have GB2_6 := Lib.hid (blk_below' bb GB2_5.out); have IV2_6 := Lib.hid (IV2_5.out.below bb); have GB3_6 := Lib.hid (blk_below' bb GB3_5.out); have IV3_6 := Lib.hid (IV3_5.out.below bb); have GB4_6 := Lib.hid (blk_below' bb GB4_5.out); have IV4_6 := Lib.hid (IV4_5.out.below bb); have GB5_6 := Lib.hid (blk_below' bb GB5_5.out); have IV5_6 := Lib.hid (IV5_5.out.below bb);
  have GB6_6 : Hid (w6.heap[y6.heap.size]? = _) := Lib.hid g1; have IV6_6 := Lib.hid (hi.below bU)
  clear CA GA5 RA5 B5 p0 p1 p2 hr hi hb bb bU g1 GB1_5 IV1_5 GB2_5 IV2_5 GB3_5 IV3_5 GB4_5 IV4_5 GB5_5 IV5_5
  have FIN : Hid (∀ u, Below w6.heap.size w6 u → u.heap[y1.heap.size]? = some (Obj.cells #[.bool n1, .slice a1 k1 c1] 25 (0, 0)) ∧ IntV u (.agg #[.bool n1, .slice a1 k1 c1]) (rndZ x d (qF x d)) ∧ u.heap[y2.heap.size]? = some (Obj.cells #[.bool n2, .slice a2 k2 c2] 25 (0, 0)) ∧ IntV u (.agg #[.bool n2, .slice a2 k2 c2]) (rndZ x d (qF x d)) ∧ u.heap[y3.heap.size]? = some (Obj.cells #[.bool n3, .slice a3 k3 c3] 25 (0, 0)) ∧ IntV u (.agg #[.bool n3, .slice a3 k3 c3]) (rndZ x d (qU x d)) ∧ u.heap[y4.heap.size]? = some (Obj.cells #[.bool n4, .slice a4 k4 c4] 25 (0, 0)) ∧ IntV u (.agg #[.bool n4, .slice a4 k4 c4]) (rndZ x d (qU x d)) ∧ u.heap[y5.heap.size]? = some (Obj.cells #[.bool n5, .slice a5 k5 c5] 25 (0, 0)) ∧ IntV u (.agg #[.bool n5, .slice a5 k5 c5]) (intZ x d) ∧ u.heap[y6.heap.size]? = some (Obj.cells #[.bool n6, .slice a6 k6 c6] 25 (0, 0)) ∧ IntV u (.agg #[.bool n6, .slice a6 k6 c6]) (intZ x d) ∧ TZ10 u ∧ Below w.heap.size w u) := Lib.hid (fun u hu => ⟨blk_below' hu GB1_6.out, IV1_6.out.below hu, blk_below' hu GB2_6.out, IV2_6.out.below hu, blk_below' hu GB3_6.out, IV3_6.out.below hu, blk_below' hu GB4_6.out, IV4_6.out.below hu, blk_below' hu GB5_6.out, IV5_6.out.below hu, blk_below' hu GB6_6.out, IV6_6.out.below hu, HZ.out.below (below_of B6.out hu), below_of B6.out hu⟩)
  clear GA6 RA6 B6 HZ GB1_6 IV1_6 GB2_6 IV2_6 GB3_6 IV3_6 GB4_6 IV4_6 GB5_6 IV5_6 GB6_6 IV6_6
  generalize rndZ x d (qF x d) = Z1 at *
  generalize rndZ x d (qU x d) = Z2 at *
  generalize intZ x d = Z3 at *
  generalize rndE x d = E at *
  generalize intB x d = b at *
  have CM : Hid (∀ u va vb z, IntV u va z → IntV u vb z → Calls Tryz.prog 33 #[va, vb] u fun e w' => e = .returned (.int .i64 0) ∧ Below u.heap.size u w') := Lib.hid (fun u va vb z h1 h2 => cmpF va vb z z 0 u h1 h2 (zcmp_eq rfl))
  obtain ⟨g1, i1, g2, i2, -⟩ := FIN.out _ (Below.refl _ _)
  have CC := Lib.hid (CM.out _ _ _ _ i1 i2)
  obtain ⟨p0, p1, _, _, _⟩ := blk2 g1
  obtain ⟨q0, q1, _, _, _⟩ := blk2 g2
  clear g1 g2 i1 i2
  go_wp2_with fail
  try rw [eU6]
  try clear eU6
  refine CC.out.mono ?_
  rintro e u1 ⟨rfl, hb⟩
  have BU1 := Lib.hid hb
  clear CC p0 p1 q0 q1 hb
  obtain ⟨-, -, -, -, g1, i1, g2, i2, -⟩ := FIN.out _ BU1.out
  have CC := Lib.hid (CM.out _ _ _ _ i1 i2)
  obtain ⟨p0, p1, _, _, _⟩ := blk2 g1
  obtain ⟨q0, q1, _, _, _⟩ := blk2 g2
  clear g1 g2 i1 i2
  go_wp2_with fail
  refine CC.out.mono ?_
  rintro e u2 ⟨rfl, hb⟩
  have BU2 := Lib.hid (below_of BU1.out hb)
  clear CC p0 p1 q0 q1 hb
  obtain ⟨-, -, -, -, -, -, -, -, g1, i1, g2, i2, -⟩ := FIN.out _ BU2.out
  have CC := Lib.hid (CM.out _ _ _ _ i1 i2)
  obtain ⟨p0, p1, _, _, _⟩ := blk2 g1
  obtain ⟨q0, q1, _, _, _⟩ := blk2 g2
  clear g1 g2 i1 i2
  go_wp2_with fail
  refine CC.out.mono ?_
  rintro e u3 ⟨rfl, hb⟩
  have BU3 := Lib.hid (below_of BU2.out hb)
  clear CC p0 p1 q0 q1 hb
  have AL := Lib.hid (alive3_any u3 (FIN.out _ BU3.out).2.2.2.2.2.2.2.2.2.2.2.2.1)
  go_wp2_with (go_at_call 17; refine AL.out.mono ?_; rintro e u4 ⟨rfl, hb⟩; have BU4 := Lib.hid (below_of BU3.out hb); clear hb)
  go_ret
  exact ⟨rfl, (FIN.out _ BU4.out).2.2.2.2.2.2.2.2.2.2.2.2.2⟩
end Go.Proofs.YthgmebnihpjnoaaGreatDoor
