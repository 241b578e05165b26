/- RatioParses: the walk. -/
import Derived.Test.YthgmebnihpjnoaaGreatDoorRPR
import Derived.Test.YthgmebnihpjnoaaGreatDoorQB4
set_option linter.unusedVariables false
set_option linter.unusedSimpArgs false
namespace Go.Proofs.YthgmebnihpjnoaaGreatDoor
open Go.RowKit Mth

theorem frv_zero0 (w : World) : FrV w zRat 0 0 := ⟨none, 0, 0, none, 0, 0, rfl, (ow_nil w 0).num, (ow_nil w 0).num⟩
theorem PrsO.same {s : ByteArray} {w u : World} {v t : Value} {E F : Int} (h : PrsO w s v E) (k : PrsO u s t F) : E = F ∧ ∃ x d, FrV w v x d ∧ FrV u t x d := by
  rcases h with ⟨a, rfl, rfl⟩ | ⟨a, b, rfl, rfl⟩ | ⟨a, b, c, rfl, rfl⟩ | ⟨a, b, c, rfl, hf⟩ <;> rcases k with ⟨a', rfl, rfl⟩ | ⟨a', b', rfl, rfl⟩ | ⟨a', b', c', rfl, rfl⟩ | ⟨a', b', c', rfl, hf'⟩ <;> first
    | exact ⟨rfl, 0, 0, frv_zero0 _, frv_zero0 _⟩
    | exact ⟨rfl, _, _, hf, hf'⟩
    | exact absurd a a'
    | exact absurd a' a
    | exact absurd b b'
    | exact absurd b' b
    | (exfalso; omega)
set_option maxHeartbeats 8000000 in
set_option maxRecDepth 100000 in
theorem parses3_walk (w : World) (s : ByteArray) (hz10 : TZ10 w) (hsz : s.size ≤ 1048576) :
    Calls Tryz.prog 7 #[.string s] w fun e w' => e = .returned (.bool true) ∧ Below w.heap.size w w' := by
  have HZ := Lib.hid hz10
  by_cases hs : s.size ≤ 20000
  · have CA := Lib.hid (rparse_any3 s w (by omega))
    have HS := Lib.hid hs
    have hd : decide ((20000 : Int) < (s.size : Int)) = false := decide_eq_false (by omega)
    have hd2 : ¬ (20000 < s.size) := by omega
    clear hz10 hs
    go_enter Tryz.func7, Tryz.ntmps7
    go_wp2_with fail
    refine CA.out.mono ?_
    rintro e y1 ⟨v1, E1, rfl, hg1, hb⟩
    obtain ⟨n1, a1, k1, c1, a1', k1', c1', rfl⟩ := prs_shape hg1
    have G1 := Lib.hid hg1
    obtain ⟨w1, eU1, g1, bU, -⟩ := alloc1 y1 (Obj.cells #[.bool n1, .slice a1 k1 c1, .slice a1' k1' c1'] 27)
    have B1 := Lib.hid (below_of hb bU); have GA := Lib.hid g1; have BU1 := Lib.hid bU
    have CB := Lib.hid (rprs_any3 s w1 HS.out)
    clear hg1 hb CA g1 bU
    go_wp2_with fail
    try rw [eU1]
    try clear eU1
    refine CB.out.mono ?_
    rintro e y2 ⟨v2, E2, rfl, hg2, hb⟩
    obtain ⟨n2, a2, k2, c2, a2', k2', c2', rfl⟩ := prs_shape hg2
    obtain ⟨rfl, X, D, f1, f2⟩ := G1.out.same hg2
    obtain ⟨w2, eU2, g2, bU, -⟩ := alloc1 y2 (Obj.cells #[.bool n2, .slice a2 k2 c2, .slice a2' k2' c2'] 27)
    have bb := below_of hb bU
    have B2 := Lib.hid (below_of B1.out bb)
    have SM := Lib.hid (rsame3_any _ _ X D w2 ((f1.below BU1.out).below bb) (f2.below bU))
    obtain ⟨⟨p0, p1, p2⟩, _, _⟩ := blk3 (blk_below' bb GA.out)
    obtain ⟨⟨q0, q1, q2⟩, _, _⟩ := blk3 g2
    clear G1 hg2 hb CB f1 f2 B1 bU bb BU1 GA g2
    go_wp2_with fail
    try rw [eU2]
    try clear eU2
    refine SM.out.mono ?_
    rintro e y3 ⟨rfl, hb⟩
    have B3 := Lib.hid (below_of B2.out hb)
    have AL := Lib.hid (alive3_any y3 (HZ.out.below B3.out))
    clear SM hb B2 p0 p1 p2 q0 q1 q2
    go_wp2_with (go_at_call 17; refine AL.out.mono ?_; rintro e w4 ⟨rfl, hb⟩; have B4 := Lib.hid (below_of B3.out hb); clear hb)
    go_ret
    exact ⟨rfl, B4.out⟩
  · have hd : decide ((20000 : Int) < (s.size : Int)) = true := decide_eq_true (by omega)
    have hd2 : 20000 < s.size := by omega
    have AL := Lib.hid (alive3_any w hz10)
    clear hz10 hs
    go_enter Tryz.func7, Tryz.ntmps7
    go_wp2_with (go_at_call 17; refine AL.out.mono ?_; rintro e w4 ⟨rfl, hb⟩; have B4 := Lib.hid hb; clear hb)
    go_ret
    exact ⟨rfl, B4.out⟩
end Go.Proofs.YthgmebnihpjnoaaGreatDoor
