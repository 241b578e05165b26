/- RatioMuls: the walk. -/
import Derived.Test.YthgmebnihpjnoaaGreatDoorRMU
import Derived.Test.YthgmebnihpjnoaaGreatDoorQB4
set_option linter.unusedVariables false
set_option linter.unusedSimpArgs false
namespace Go.Proofs.YthgmebnihpjnoaaGreatDoor
open Go.RowKit Mth

theorem frv_zero (w : World) : FrV w zRat 0 0 := ⟨none, 0, 0, none, 0, 0, rfl, (ow_nil w 0).num, (ow_nil w 0).num⟩
theorem GatO.same {mul : Bool} {s : Int × Nat} {L : List (Value × Int × Nat)} {w u : World} {v t : Value} {E F : Int} (h : GatO mul s L w v E) (k : GatO mul s L u t F) : E = F ∧ ∃ x d, FrV w v x d ∧ FrV u t x d := by
  rcases h with ⟨a, rfl, rfl⟩ | ⟨a, b, rfl, rfl⟩ | ⟨a, b, x, d, c, rfl, hf⟩ <;> rcases k with ⟨a', rfl, rfl⟩ | ⟨a', b', rfl, rfl⟩ | ⟨a', b', x', d', c', rfl, hf'⟩
  · exact ⟨rfl, 0, 0, frv_zero _, frv_zero _⟩
  · exact absurd a a'
  · exact absurd a a'
  · exact absurd a' a
  · exact ⟨rfl, 0, 0, frv_zero _, frv_zero _⟩
  · rcases b with b | b
    · exact absurd b b'
    · rw [b] at c'; cases c'
  · exact absurd a' a
  · rcases b' with b' | b'
    · exact absurd b' b
    · rw [b'] at c; cases c
  · have e := Option.some.inj (c.symm.trans c')
    obtain ⟨rfl, rfl⟩ := Prod.mk.inj e
    exact ⟨rfl, x, d, hf, hf'⟩
set_option maxHeartbeats 8000000 in
set_option maxRecDepth 100000 in
theorem muls3_walk (w : World) (v : Value) (L : List (Value × Int × Nat)) (hz10 : TZ10 w) (h : RaL w v L) (hlen : L.length ≤ 1048576) :
    Calls Tryz.prog 5 #[v] w fun e w' => e = .returned (.bool true) ∧ Below w.heap.size w w' := by
  have HZ := Lib.hid hz10; have H := Lib.hid h; have HL := Lib.hid hlen
  have CA := Lib.hid (rmul_any3 L v w h hlen)
  clear h hlen hz10
  go_enter Tryz.func5, Tryz.ntmps5
  go_wp2_with fail
  refine CA.out.mono ?_
  rintro e y1 ⟨v1, E1, rfl, hg1, hb⟩
  obtain ⟨n1, a1, k1, c1, a1', k1', c1', rfl⟩ := gat_shape hg1
  have G1 := Lib.hid hg1
  obtain ⟨w1, eU1, g1, bU, -⟩ := alloc1 y1 (Obj.cells #[.bool n1, .slice a1 k1 c1, .slice a1' k1' c1'] 27)
  have B1 := Lib.hid (below_of hb bU); have GA := Lib.hid g1; have BU1 := Lib.hid bU
  have CB := Lib.hid (rmul3_any L v w1 (H.out.below B1.out) HL.out)
  clear hg1 hb CA g1 bU
  go_wp2_with fail
  try rw [eU1]
  try clear eU1
  refine CB.out.mono ?_
  rintro e y2 ⟨v2, E2, rfl, hg2, hb⟩
  obtain ⟨n2, a2, k2, c2, a2', k2', c2', rfl⟩ := gat_shape hg2
  obtain ⟨rfl, X, D, f1, f2⟩ := G1.out.same hg2
  obtain ⟨w2, eU2, g2, bU, -⟩ := alloc1 y2 (Obj.cells #[.bool n2, .slice a2 k2 c2, .slice a2' k2' c2'] 27)
  have bb := below_of hb bU
  have B2 := Lib.hid (below_of B1.out bb)
  have SM := Lib.hid (rsame3_any _ _ X D w2 ((f1.below BU1.out).below bb) (f2.below bU))
  obtain ⟨⟨p0, p1, p2⟩, _, _⟩ := blk3 (blk_below' bb GA.out)
  obtain ⟨⟨q0, q1, q2⟩, _, _⟩ := blk3 g2
  clear G1 hg2 hb CB f1 f2 B1 H bU bb BU1 GA g2
  go_wp2_with fail
  try rw [eU2]
  try clear eU2
  refine SM.out.mono ?_
  rintro e y3 ⟨rfl, hb⟩
  have B3 := Lib.hid (below_of B2.out hb)
  have AL := Lib.hid (alive3_any y3 (HZ.out.below B3.out))
  clear SM hb B2 p0 p1 p2 q0 q1 q2
  go_wp2_with (go_at_call 17; refine AL.out.mono ?_; rintro e w4 ⟨rfl, hb⟩; have B4 := Lib.hid (below_of B3.out hb); clear hb)
  go_ret
  exact ⟨rfl, B4.out⟩
end Go.Proofs.YthgmebnihpjnoaaGreatDoor
