/- RatioReckons: the walk (written by genrlc.py). -/
import Derived.Test.YthgmebnihpjnoaaGreatDoorRCG
import Derived.Test.YthgmebnihpjnoaaGreatDoorQB4
set_option linter.unusedVariables false
set_option linter.unusedSimpArgs false
namespace Go.Proofs.YthgmebnihpjnoaaGreatDoor
open Go.RowKit Mth

theorem cmpO_same {x : Int} {d : Nat} {y : Int} {e : Nat} {z E z' E' : Int} (h : CmpO x d y e z E) (k : CmpO x d y e z' E') : z = z' ∧ E = E' := by
  rcases h with ⟨h1, rfl, rfl⟩ | ⟨h1, h2, h3, rfl, rfl⟩ | ⟨h1, h2, h3, h4, rfl, rfl⟩ <;> rcases k with ⟨k1, rfl, rfl⟩ | ⟨k1, k2, k3, rfl, rfl⟩ | ⟨k1, k2, k3, k4, rfl, rfl⟩ <;> first
    | exact ⟨rfl, rfl⟩
    | (exfalso; omega)
    | (exfalso; rcases h3 with a | a <;> first | exact k3 a | exact k4 a)
    | (exfalso; rcases k3 with a | a <;> first | exact h3 a | exact h4 a)
theorem opC_same {N : Int} {M : Nat} {x y : Int} {d e : Nat} {E E' X X' : Int} {D D' : Nat} (h : OpCY N M x d y e E X D) (k : OpCY N M x d y e E' X' D') : E = E' ∧ X = X' ∧ D = D' := by
  rcases h with ⟨h1, rfl, rfl, rfl⟩ | ⟨h1, h2, h3, rfl, rfl, rfl⟩ | ⟨h1, h2, h3, h4, h5, rfl, rfl, rfl⟩ <;> rcases k with ⟨k1, rfl, rfl, rfl⟩ | ⟨k1, k2, k3, rfl, rfl, rfl⟩ | ⟨k1, k2, k3, k4, k5, rfl, rfl, rfl⟩ <;> first
    | exact ⟨rfl, rfl, rfl⟩
    | (exfalso; omega)
    | (exfalso; rcases h3 with a | a | a <;> first | exact k3 a | exact k4 a | exact k5 a)
    | (exfalso; rcases k3 with a | a | a <;> first | exact h3 a | exact h4 a | exact h5 a)
theorem AnsV.same {w u : World} {v t : Value} {E F x : Int} {d : Nat} (h : AnsV w v E x d) (k : AnsV u t F x d) : E = F ∧ ∃ X D, FrV w v X D ∧ FrV u t X D := by
  rcases h with ⟨a, rfl, rfl⟩ | ⟨a, b, rfl, rfl⟩ | ⟨a, b, rfl, hf⟩ <;> rcases k with ⟨a', rfl, rfl⟩ | ⟨a', b', rfl, rfl⟩ | ⟨a', b', rfl, hf'⟩ <;> first
    | exact ⟨rfl, 0, 0, frv_zeroY _, frv_zeroY _⟩
    | exact ⟨rfl, _, _, hf, hf'⟩
    | (exfalso; omega)
    | exact absurd b b'
    | exact absurd b' b
theorem sub_sub {w : World} {v : Value} {x : Int} {d : Nat} {y : Int} {e : Nat} {E : Int} (h : RSubO x d y e w v E) : QSubO w v x d y e E := by
  obtain ⟨X, D, hf, _, _, hc⟩ := out_addY h
  exact ⟨X, D, hf, hc⟩
theorem QSubO.same {w u : World} {v t : Value} {x : Int} {d : Nat} {y : Int} {e : Nat} {E F : Int} (h : QSubO w v x d y e E) (k : QSubO u t x d y e F) : E = F ∧ ∃ X D, FrV w v X D ∧ FrV u t X D := by
  obtain ⟨X, D, h1, h2⟩ := h
  obtain ⟨X', D', k1, k2⟩ := k
  obtain ⟨rfl, rfl, rfl⟩ := opC_same h2 k2
  exact ⟨rfl, X, D, h1, k1⟩
theorem QuoO.same {w u : World} {v t : Value} {x : Int} {d : Nat} {y : Int} {e : Nat} {E F : Int} (h : QuoO w v x d y e E) (k : QuoO u t x d y e F) : E = F ∧ ∃ X D, FrV w v X D ∧ FrV u t X D := by
  obtain ⟨X, D, h1, h2⟩ := h
  obtain ⟨X', D', k1, k2⟩ := k
  obtain ⟨rfl, rfl, rfl⟩ := quoC_same h2 k2
  exact ⟨rfl, X, D, h1, k1⟩
theorem QSubO.shape {w : World} {v : Value} {x : Int} {d : Nat} {y : Int} {e : Nat} {E : Int} (h : QSubO w v x d y e E) : ∃ n a k c a' k' c', v = .agg #[.bool n, .slice a k c, .slice a' k' c'] := by
  obtain ⟨X, D, h1, _⟩ := h; exact frv_shape h1
theorem QuoO.shape {w : World} {v : Value} {x : Int} {d : Nat} {y : Int} {e : Nat} {E : Int} (h : QuoO w v x d y e E) : ∃ n a k c a' k' c', v = .agg #[.bool n, .slice a k c, .slice a' k' c'] := by
  obtain ⟨X, D, h1, _⟩ := h; exact frv_shape h1
set_option maxHeartbeats 16000000 in
set_option maxRecDepth 100000 in
theorem reckons3_walk (w : World) (va vb : Value) (x y : Int) (d e : Nat) (hz10 : TZ10 w) (ha : RatV w va x d) (hb : RatV w vb y e) :
    Calls Tryz.prog 4 #[va, vb] w fun e w' => e = .returned (.bool true) ∧ Below w.heap.size w w' := by
  have HZ := Lib.hid hz10
  obtain ⟨n, a, k, c, a', k', c', rfl⟩ := rat_shape ha
  obtain ⟨m, p, q, r, p', q', r', rfl⟩ := rat_shape hb
  obtain ⟨w0, eU0, h1, h2, bel, -⟩ := alloc2 w (Obj.cells #[.bool n, .slice a k c, .slice a' k' c'] 27) (Obj.cells #[.bool m, .slice p q r, .slice p' q' r'] 27)
  have B0 := Lib.hid bel; have GA0 := Lib.hid h1; have GB0 : Hid (w0.heap[w.heap.size + 1]? = _) := Lib.hid h2; have RA0 := Lib.hid (ha.below bel); have RB0 := Lib.hid (hb.below bel)
  clear h1 h2 bel ha hb hz10
  go_enter Tryz.func4, Tryz.ntmps4
  have CA := Lib.hid (rcmp_any _ _ x y d e w0 RA0.out RB0.out)
  obtain ⟨⟨x0, x1, x2⟩, _, _⟩ := blk3 GA0.out
  obtain ⟨⟨y0, y1, y2⟩, _, _⟩ := blk3 GB0.out
  go_wp2_with fail
  try rw [eU0]
  try clear eU0
  refine CA.out.mono ?_
  rintro ee w1 ⟨z, EC, rfl, hc, bb⟩
  have HC := Lib.hid hc
  have GA1 := Lib.hid (blk_below' bb GA0.out); have GB1 := Lib.hid (blk_below' bb GB0.out); have RA1 := Lib.hid (RA0.out.below bb); have RB1 := Lib.hid (RB0.out.below bb); have B1 := Lib.hid (below_of B0.out bb)
  clear CA hc bb x0 x1 x2 y0 y1 y2 GA0 GB0 RA0 RB0 B0
  have CA := Lib.hid (rcmp3_any _ _ x y d e w1 RA1.out RB1.out)
  obtain ⟨⟨x0, x1, x2⟩, _, _⟩ := blk3 GA1.out
  obtain ⟨⟨y0, y1, y2⟩, _, _⟩ := blk3 GB1.out
  go_wp2_with fail
  try rw [eU1]
  try clear eU1
  refine CA.out.mono ?_
  rintro ee w2 ⟨z2, EC2, rfl, hc, bb⟩
  obtain ⟨rfl, rfl⟩ := cmpO_same HC.out hc
  have GA2 := Lib.hid (blk_below' bb GA1.out); have GB2 := Lib.hid (blk_below' bb GB1.out); have RA2 := Lib.hid (RA1.out.below bb); have RB2 := Lib.hid (RB1.out.below bb); have B2 := Lib.hid (below_of B1.out bb)
  clear CA hc bb HC x0 x1 x2 y0 y1 y2 GA1 GB1 RA1 RB1 B1
  have CA := Lib.hid (rsub_any3 _ _ x y d e w2 RA2.out RB2.out)
  obtain ⟨⟨x0, x1, x2⟩, _, _⟩ := blk3 GA2.out
  obtain ⟨⟨y0, y1, y2⟩, _, _⟩ := blk3 GB2.out
  go_wp2_with fail
  try rw [eU2]
  try clear eU2
  refine CA.out.mono ?_
  rintro ee y3 ⟨v3, E3, rfl, hh, hb⟩
  obtain ⟨n3, a3, k3, c3, b3, j3, d3, rfl⟩ := (sub_sub hh).shape
  obtain ⟨w3, eU3, gg, bU, -⟩ := alloc1 y3 (Obj.cells #[.bool n3, .slice a3 k3 c3, .slice b3 j3 d3] 27)
  have bb := below_of hb bU
  have HH := Lib.hid (sub_sub hh); have HBU := Lib.hid bU
  have GA3 := Lib.hid (blk_below' bb GA2.out); have GB3 := Lib.hid (blk_below' bb GB2.out); have RA3 := Lib.hid (RA2.out.below bb); have RB3 := Lib.hid (RB2.out.below bb); have B3 := Lib.hid (below_of B2.out bb)
  have GX3_3 : Hid (w3.heap[y3.heap.size]? = _) := Lib.hid gg; have FX3_3 : Hid True := Lib.hid trivial
  clear CA hh hb bb bU gg x0 x1 x2 y0 y1 y2 GA2 GB2 RA2 RB2 B2
  have CA := Lib.hid (rsub3_any _ _ x y d e w3 RA3.out RB3.out)
  obtain ⟨⟨x0, x1, x2⟩, _, _⟩ := blk3 GA3.out
  obtain ⟨⟨y0, y1, y2⟩, _, _⟩ := blk3 GB3.out
  go_wp2_with fail
  try rw [eU3]
  try clear eU3
  refine CA.out.mono ?_
  rintro ee y4 ⟨v4, E4, rfl, hh, hb⟩
  obtain ⟨n4, a4, k4, c4, b4, j4, d4, rfl⟩ := hh.shape
  obtain ⟨rfl, X4, D4, f1, f2⟩ := HH.out.same hh
  obtain ⟨w4, eU4, gg, bU, -⟩ := alloc1 y4 (Obj.cells #[.bool n4, .slice a4 k4 c4, .slice b4 j4 d4] 27)
  have bb := below_of hb bU
  have GA4 := Lib.hid (blk_below' bb GA3.out); have GB4 := Lib.hid (blk_below' bb GB3.out); have RA4 := Lib.hid (RA3.out.below bb); have RB4 := Lib.hid (RB3.out.below bb); have B4 := Lib.hid (below_of B3.out bb); have GX3_4 := Lib.hid (blk_below' bb GX3_3.out)
  have FX3_4 := Lib.hid ((f1.below HBU.out).below bb)
  have GX4_4 : Hid (w4.heap[y4.heap.size]? = _) := Lib.hid gg; have FX4_4 := Lib.hid (f2.below bU)
  clear CA hh hb bb bU gg HH HBU f1 f2 x0 x1 x2 y0 y1 y2 GA3 GB3 RA3 RB3 B3 GX3_3 FX3_3
  have CA := Lib.hid (rquo_any3 _ _ x y d e w4 RA4.out RB4.out)
  obtain ⟨⟨x0, x1, x2⟩, _, _⟩ := blk3 GA4.out
  obtain ⟨⟨y0, y1, y2⟩, _, _⟩ := blk3 GB4.out
  go_wp2_with fail
  try rw [eU4]
  try clear eU4
  refine CA.out.mono ?_
  rintro ee y5 ⟨v5, E5, rfl, hh, hb⟩
  obtain ⟨n5, a5, k5, c5, b5, j5, d5, rfl⟩ := hh.shape
  obtain ⟨w5, eU5, gg, bU, -⟩ := alloc1 y5 (Obj.cells #[.bool n5, .slice a5 k5 c5, .slice b5 j5 d5] 27)
  have bb := below_of hb bU
  have HH := Lib.hid hh; have HBU := Lib.hid bU
  have GA5 := Lib.hid (blk_below' bb GA4.out); have GB5 := Lib.hid (blk_below' bb GB4.out); have RA5 := Lib.hid (RA4.out.below bb); have RB5 := Lib.hid (RB4.out.below bb); have B5 := Lib.hid (below_of B4.out bb); have GX3_5 := Lib.hid (blk_below' bb GX3_4.out); have FX3_5 := Lib.hid (FX3_4.out.below bb); have GX4_5 := Lib.hid (blk_below' bb GX4_4.out); have FX4_5 := Lib.hid (FX4_4.out.below bb)
  have GX5_5 : Hid (w5.heap[y5.heap.size]? = _) := Lib.hid gg; have FX5_5 : Hid True := Lib.hid trivial
  clear CA hh hb bb bU gg x0 x1 x2 y0 y1 y2 GA4 GB4 RA4 RB4 B4 GX3_4 FX3_4 GX4_4 FX4_4
  have CA := Lib.hid (rquo3_any _ _ x y d e w5 RA5.out RB5.out)
  obtain ⟨⟨x0, x1, x2⟩, _, _⟩ := blk3 GA5.out
  obtain ⟨⟨y0, y1, y2⟩, _, _⟩ := blk3 GB5.out
  go_wp2_with fail
  try rw [eU5]
  try clear eU5
  refine CA.out.mono ?_
  rintro ee y6 ⟨v6, E6, rfl, hh, hb⟩
  obtain ⟨n6, a6, k6, c6, b6, j6, d6, rfl⟩ := hh.shape
  obtain ⟨rfl, X6, D6, f1, f2⟩ := HH.out.same hh
  obtain ⟨w6, eU6, gg, bU, -⟩ := alloc1 y6 (Obj.cells #[.bool n6, .slice a6 k6 c6, .slice b6 j6 d6] 27)
  have bb := below_of hb bU
  have GA6 := Lib.hid (blk_below' bb GA5.out); have GB6 := Lib.hid (blk_below' bb GB5.out); have RA6 := Lib.hid (RA5.out.below bb); have RB6 := Lib.hid (RB5.out.below bb); have B6 := Lib.hid (below_of B5.out bb); have GX3_6 := Lib.hid (blk_below' bb GX3_5.out); have FX3_6 := Lib.hid (FX3_5.out.below bb); have GX4_6 := Lib.hid (blk_below' bb GX4_5.out); have FX4_6 := Lib.hid (FX4_5.out.below bb); have GX5_6 := Lib.hid (blk_below' bb GX5_5.out)
  have FX5_6 := Lib.hid ((f1.below HBU.out).below bb)
  have GX6_6 : Hid (w6.heap[y6.heap.size]? = _) := Lib.hid gg; have FX6_6 := Lib.hid (f2.below bU)
  clear CA hh hb bb bU gg HH HBU f1 f2 x0 x1 x2 y0 y1 y2 GA5 GB5 RA5 RB5 B5 GX3_5 FX3_5 GX4_5 FX4_5 GX5_5 FX5_5
  have CA := Lib.hid (rneg_any3 _ x d w6 RA6.out)
  obtain ⟨⟨x0, x1, x2⟩, _, _⟩ := blk3 GA6.out
  go_wp2_with fail
  try rw [eU6]
  try clear eU6
  refine CA.out.mono ?_
  rintro ee y7 ⟨v7, E7, rfl, hh, hb⟩
  obtain ⟨n7, a7, k7, c7, b7, j7, d7, rfl⟩ := ansv_shape hh
  obtain ⟨w7, eU7, gg, bU, -⟩ := alloc1 y7 (Obj.cells #[.bool n7, .slice a7 k7 c7, .slice b7 j7 d7] 27)
  have bb := below_of hb bU
  have HH := Lib.hid hh; have HBU := Lib.hid bU
  have GA7 := Lib.hid (blk_below' bb GA6.out); have GB7 := Lib.hid (blk_below' bb GB6.out); have RA7 := Lib.hid (RA6.out.below bb); have RB7 := Lib.hid (RB6.out.below bb); have B7 := Lib.hid (below_of B6.out bb); have GX3_7 := Lib.hid (blk_below' bb GX3_6.out); have FX3_7 := Lib.hid (FX3_6.out.below bb); have GX4_7 := Lib.hid (blk_below' bb GX4_6.out); have FX4_7 := Lib.hid (FX4_6.out.below bb); have GX5_7 := Lib.hid (blk_below' bb GX5_6.out); have FX5_7 := Lib.hid (FX5_6.out.below bb); have GX6_7 := Lib.hid (blk_below' bb GX6_6.out); have FX6_7 := Lib.hid (FX6_6.out.below bb)
  have GX7_7 : Hid (w7.heap[y7.heap.size]? = _) := Lib.hid gg; have FX7_7 : Hid True := Lib.hid trivial
  clear CA hh hb bb bU gg x0 x1 x2 GA6 GB6 RA6 RB6 B6 GX3_6 FX3_6 GX4_6 FX4_6 GX5_6 FX5_6 GX6_6 FX6_6
  have CA := Lib.hid (rneg3_any _ x d w7 RA7.out)
  obtain ⟨⟨x0, x1, x2⟩, _, _⟩ := blk3 GA7.out
  go_wp2_with fail
  try rw [eU7]
  try clear eU7
  refine CA.out.mono ?_
  rintro ee y8 ⟨v8, E8, rfl, hh, hb⟩
  obtain ⟨n8, a8, k8, c8, b8, j8, d8, rfl⟩ := ansv_shape hh
  obtain ⟨rfl, X8, D8, f1, f2⟩ := HH.out.same hh
  obtain ⟨w8, eU8, gg, bU, -⟩ := alloc1 y8 (Obj.cells #[.bool n8, .slice a8 k8 c8, .slice b8 j8 d8] 27)
  have bb := below_of hb bU
  have GA8 := Lib.hid (blk_below' bb GA7.out); have GB8 := Lib.hid (blk_below' bb GB7.out); have RA8 := Lib.hid (RA7.out.below bb); have RB8 := Lib.hid (RB7.out.below bb); have B8 := Lib.hid (below_of B7.out bb); have GX3_8 := Lib.hid (blk_below' bb GX3_7.out); have FX3_8 := Lib.hid (FX3_7.out.below bb); have GX4_8 := Lib.hid (blk_below' bb GX4_7.out); have FX4_8 := Lib.hid (FX4_7.out.below bb); have GX5_8 := Lib.hid (blk_below' bb GX5_7.out); have FX5_8 := Lib.hid (FX5_7.out.below bb); have GX6_8 := Lib.hid (blk_below' bb GX6_7.out); have FX6_8 := Lib.hid (FX6_7.out.below bb); have GX7_8 := Lib.hid (blk_below' bb GX7_7.out)
  have FX7_8 := Lib.hid ((f1.below HBU.out).below bb)
  have GX8_8 : Hid (w8.heap[y8.heap.size]? = _) := Lib.hid gg; have FX8_8 := Lib.hid (f2.below bU)
  clear CA hh hb bb bU gg HH HBU f1 f2 x0 x1 x2 GA7 GB7 RA7 RB7 B7 GX3_7 FX3_7 GX4_7 FX4_7 GX5_7 FX5_7 GX6_7 FX6_7 GX7_7 FX7_7
  have FIN : Hid (∀ u, Below w8.heap.size w8 u → u.heap[y3.heap.size]? = some (Obj.cells #[.bool n3, .slice a3 k3 c3, .slice b3 j3 d3] 27 (0, 0)) ∧ FrV u (.agg #[.bool n3, .slice a3 k3 c3, .slice b3 j3 d3]) X4 D4 ∧ u.heap[y4.heap.size]? = some (Obj.cells #[.bool n4, .slice a4 k4 c4, .slice b4 j4 d4] 27 (0, 0)) ∧ FrV u (.agg #[.bool n4, .slice a4 k4 c4, .slice b4 j4 d4]) X4 D4 ∧ u.heap[y5.heap.size]? = some (Obj.cells #[.bool n5, .slice a5 k5 c5, .slice b5 j5 d5] 27 (0, 0)) ∧ FrV u (.agg #[.bool n5, .slice a5 k5 c5, .slice b5 j5 d5]) X6 D6 ∧ u.heap[y6.heap.size]? = some (Obj.cells #[.bool n6, .slice a6 k6 c6, .slice b6 j6 d6] 27 (0, 0)) ∧ FrV u (.agg #[.bool n6, .slice a6 k6 c6, .slice b6 j6 d6]) X6 D6 ∧ u.heap[y7.heap.size]? = some (Obj.cells #[.bool n7, .slice a7 k7 c7, .slice b7 j7 d7] 27 (0, 0)) ∧ FrV u (.agg #[.bool n7, .slice a7 k7 c7, .slice b7 j7 d7]) X8 D8 ∧ u.heap[y8.heap.size]? = some (Obj.cells #[.bool n8, .slice a8 k8 c8, .slice b8 j8 d8] 27 (0, 0)) ∧ FrV u (.agg #[.bool n8, .slice a8 k8 c8, .slice b8 j8 d8]) X8 D8 ∧ TZ10 u ∧ Below w.heap.size w u) := Lib.hid (fun u hu => ⟨blk_below' hu GX3_8.out, FX3_8.out.below hu, blk_below' hu GX4_8.out, FX4_8.out.below hu, blk_below' hu GX5_8.out, FX5_8.out.below hu, blk_below' hu GX6_8.out, FX6_8.out.below hu, blk_below' hu GX7_8.out, FX7_8.out.below hu, blk_below' hu GX8_8.out, FX8_8.out.below hu, HZ.out.below (below_of B8.out hu), below_of B8.out hu⟩)
  clear GA8 GB8 RA8 RB8 B8 HZ GX3_8 FX3_8 GX4_8 FX4_8 GX5_8 FX5_8 GX6_8 FX6_8 GX7_8 FX7_8 GX8_8 FX8_8
  obtain ⟨g1, i1, g2, i2, -⟩ := FIN.out _ (Below.refl _ _)
  have CC := Lib.hid (rsame3_any _ _ X4 D4 w8 i1 i2)
  obtain ⟨⟨x0, x1, x2⟩, _, _⟩ := blk3 g1
  obtain ⟨⟨y0, y1, y2⟩, _, _⟩ := blk3 g2
  clear g1 g2 i1 i2
  go_wp2_with fail
  try rw [eU8]
  try clear eU8
  refine CC.out.mono ?_
  rintro ee u1 ⟨rfl, hb⟩
  have BU1 : Hid (Below w8.heap.size w8 u1) := Lib.hid (below_of (Below.refl _ _) hb)
  clear CC hb x0 x1 x2 y0 y1 y2
  obtain ⟨-, -, -, -, g1, i1, g2, i2, -⟩ := FIN.out _ (BU1.out)
  have CC := Lib.hid (rsame3_any _ _ X6 D6 u1 i1 i2)
  obtain ⟨⟨x0, x1, x2⟩, _, _⟩ := blk3 g1
  obtain ⟨⟨y0, y1, y2⟩, _, _⟩ := blk3 g2
  clear g1 g2 i1 i2
  go_wp2_with fail
  try rw [eU8]
  try clear eU8
  refine CC.out.mono ?_
  rintro ee u2 ⟨rfl, hb⟩
  have BU2 : Hid (Below w8.heap.size w8 u2) := Lib.hid (below_of (BU1.out) hb)
  clear CC hb x0 x1 x2 y0 y1 y2
  obtain ⟨-, -, -, -, -, -, -, -, g1, i1, g2, i2, -⟩ := FIN.out _ (BU2.out)
  have CC := Lib.hid (rsame3_any _ _ X8 D8 u2 i1 i2)
  obtain ⟨⟨x0, x1, x2⟩, _, _⟩ := blk3 g1
  obtain ⟨⟨y0, y1, y2⟩, _, _⟩ := blk3 g2
  clear g1 g2 i1 i2
  go_wp2_with fail
  try rw [eU8]
  try clear eU8
  refine CC.out.mono ?_
  rintro ee u3 ⟨rfl, hb⟩
  have BU3 : Hid (Below w8.heap.size w8 u3) := Lib.hid (below_of (BU2.out) hb)
  clear CC hb x0 x1 x2 y0 y1 y2
  have AL := Lib.hid (alive3_any u3 (FIN.out _ BU3.out).2.2.2.2.2.2.2.2.2.2.2.2.1)
  go_wp2_with (go_at_call 17; refine AL.out.mono ?_; rintro e w4 ⟨rfl, hb⟩; have BU4 := Lib.hid (below_of BU3.out hb); clear hb)
  go_ret
  exact ⟨rfl, (FIN.out _ BU4.out).2.2.2.2.2.2.2.2.2.2.2.2.2⟩
end Go.Proofs.YthgmebnihpjnoaaGreatDoor
