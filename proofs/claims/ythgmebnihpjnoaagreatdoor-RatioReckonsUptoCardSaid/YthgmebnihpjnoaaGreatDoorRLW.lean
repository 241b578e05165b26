/- Package ratio: Of, Whole (written by genrlw.py). -/
import Derived.Test.YthgmebnihpjnoaaGreatDoorRX
set_option linter.unusedVariables false
set_option linter.unusedSimpArgs false
namespace Go.Proofs.YthgmebnihpjnoaaGreatDoor
open Go.RowKit Mth

/-- what answer says, wherever it lies -/
def AnsV (w' : World) (v' : Value) (E : Int) (x : Int) (d : Nat) : Prop :=
  (d = 0 ∧ E = 11 ∧ v' = zRat) ∨ (0 < d ∧ longQ (x, d) ∧ E = 5 ∧ v' = zRat) ∨ (0 < d ∧ ¬ longQ (x, d) ∧ E = 0 ∧ FrV w' v' (lowN x d) (lowD x d))
theorem AnsO.v {w : World} {base : Nat} {v : Value} {E x : Int} {d : Nat} (h : AnsO w base v E x d) : AnsV w v E x d := by
  rcases h with h | h | ⟨h1, h2, h3, h4⟩
  · exact .inl h
  · exact .inr (.inl h)
  · exact .inr (.inr ⟨h1, h2, h3, h4.fr⟩)
theorem ansv_shape {w : World} {v : Value} {E x : Int} {d : Nat} (h : AnsV w v E x d) : ∃ n a k c a' k' c', v = .agg #[.bool n, .slice a k c, .slice a' k' c'] := by
  rcases h with ⟨_, _, e⟩ | ⟨_, _, _, e⟩ | ⟨_, _, _, hf⟩
  · exact ⟨_, _, _, _, _, _, _, e⟩
  · exact ⟨_, _, _, _, _, _, _, e⟩
  · exact frv_shape hf
theorem AnsV.far3 {w : World} {v y0 y1 y2 : Value} {E x : Int} {d R : Nat} {T : TypeId} {b : Bool} {ao ao' : Option Addr} {k c k' c' : Nat} (h : AnsV w v E x d) (hR : w.heap[R]? = some (.cells #[.bool b, .slice ao k c, .slice ao' k' c'] T (0, 0))) : AnsV (((w.setCell ⟨R, 0, none⟩ y0).setCell ⟨R, 1, none⟩ y1).setCell ⟨R, 2, none⟩ y2) v E x d := by
  rcases h with h | h | ⟨h1, h2, h3, h4⟩
  · exact .inl h
  · exact .inr (.inl h)
  · exact .inr (.inr ⟨h1, h2, h3, h4.far3 hR⟩)
theorem AnsV.farZ {W w : World} {v y0 y1 y2 : Value} {E x : Int} {d R k0 : Nat} {T : TypeId} (h : AnsV w v E x d) (hz : ZrN W w R T k0) : AnsV (((w.setCell ⟨R, 0, none⟩ y0).setCell ⟨R, 1, none⟩ y1).setCell ⟨R, 2, none⟩ y2) v E x d := by
  rcases h with h | h | ⟨h1, h2, h3, a, k1, c1, a', k2, c2, e, n1, n2⟩
  · exact .inl h
  · exact .inr (.inl h)
  · exact .inr (.inr ⟨h1, h2, h3, a, k1, c1, a', k2, c2, e, n1.farZ hz, n2.farZ hz⟩)
set_option maxHeartbeats 4000000 in
set_option maxRecDepth 100000 in
theorem rof_any3 (n1 : Bool) (a1 : Option Addr) (k1 c1 : Nat) (n2 : Bool) (a2 : Option Addr) (k2 c2 : Nat) (xs ys : List Nat) (w : World) (s1 : Sl w .u64 (.slice a1 k1 c1) xs) (l1 : Lim B64 xs) (z1 : xs.length ≤ 4000000) (s2 : Sl w .u64 (.slice a2 k2 c2) ys) (l2 : Lim B64 ys) (z2 : ys.length ≤ 4000000) :
    Calls Tryz.prog 10 #[.agg #[.bool n1, .slice a1 k1 c1], .agg #[.bool n2, .slice a2 k2 c2]] w fun e w' => ∃ v' E, e = .returned (.tuple #[v', .int .i64 E]) ∧ AnsV w' v' E (sg (!(n1 == n2)) (val B64 xs)) (val B64 ys) ∧ Below w.heap.size w w' := by
  obtain ⟨W, eW, h1, h2, h3, bel, -⟩ := alloc3 w (Obj.cells #[.bool n1, .slice a1 k1 c1] 25) (Obj.cells #[.bool n2, .slice a2 k2 c2] 25) (Obj.cells #[.bool false, .slice none 0 0, .slice none 0 0] 27)
  have HR : Hid (W.heap[w.heap.size + 1 + 1]? = _) := Lib.hid h3; have BW := Lib.hid bel
  have AN := Lib.hid (ranswer_any (.agg #[.bool (!(n1 == n2)), .slice a1 k1 c1, .slice a2 k2 c2]) (sg (!(n1 == n2)) (val B64 xs)) (val B64 ys) W ⟨_, a1, k1, c1, a2, k2, c2, xs, ys, rfl, s1.below bel, l1, z1, rfl, s2.below bel, l2, z2, rfl⟩)
  obtain ⟨p0, p1, _, _, _⟩ := blk2 h1
  obtain ⟨q0, q1, _, _, _⟩ := blk2 h2
  generalize sg (!(n1 == n2)) (val B64 xs) = x at *
  generalize val B64 ys = d at *
  clear h1 h2 h3 bel s1 l1 z1 s2 l2 z2
  go_enter Tryz.func10, Tryz.ntmps10
  go_wp2_with fail
  try rw [eW]
  clear eW
  refine AN.out.mono ?_
  rintro e w1 ⟨v1, E, rfl, ha, b1⟩
  have R1 := Lib.hid (blk_below' b1 HR.out); have B1 := Lib.hid (below_of BW.out b1)
  have HA := Lib.hid ha.v
  obtain ⟨m, a, k, c, a', k', c', rfl⟩ := ansv_shape ha.v
  obtain ⟨⟨r0, r1, r2⟩, ⟨f0, f1, f2⟩, _⟩ := blk3 R1.out
  have hle : w.heap.size ≤ w.heap.size + 1 + 1 := by omega
  clear ha b1 AN HR BW p0 p1 q0 q1
  go_wp2
  refine bodyPost_ret (v := .tuple #[.agg #[.bool m, .slice a k c, .slice a' k' c'], .int .i64 E]) ?_ rfl ⟨_, _, rfl, HA.out.far3 R1.out, ((B1.out.setCell (p := ⟨w.heap.size + 1 + 1, 0, none⟩) hle _).setCell (p := ⟨w.heap.size + 1 + 1, 1, none⟩) hle _).setCell (p := ⟨w.heap.size + 1 + 1, 2, none⟩) hle _⟩
  simp [results, Tryz.results10, go_sem, *]
end Go.Proofs.YthgmebnihpjnoaaGreatDoor
