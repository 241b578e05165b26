/- Package ratio: Of, Whole (written by genrlw.py). -/
import Derived.Test.YtkbfgbkhhfligaaGreatDoorRX
set_option linter.unusedVariables false
set_option linter.unusedSimpArgs false
namespace Go.Proofs.YtkbfgbkhhfligaaGreatDoor
open Go.RowKit Mth

/-- what answer says, wherever it lies -/
def AnsV (w' : World) (v' : Value) (E : Int) (x : Int) (d : Nat) : Prop :=
  (d = 0 ∧ E = 11 ∧ v' = zRat) ∨ (0 < d ∧ longQ (x, d) ∧ E = 5 ∧ v' = zRat) ∨ (0 < d ∧ ¬ longQ (x, d) ∧ E = 0 ∧ FrV w' v' (lowN x d) (lowD x d))
theorem AnsO.v {w : World} {base : Nat} {v : Value} {E x : Int} {d : Nat} (h : AnsO w base v E x d) : AnsV w v E x d := by
  rcases h with h | h | ⟨h1, h2, h3, h4⟩
  · exact .inl h
  · exact .inr (.inl h)
  · exact .inr (.inr ⟨h1, h2, h3, h4.fr⟩)
theorem ansv_shape {w : World} {v : Value} {E x : Int} {d : Nat} (h : AnsV w v E x d) : ∃ n a k c a' k' c', v = .agg #[.bool n, .slice a k c, .slice a' k' c'] := by
  rcases h with ⟨_, _, e⟩ | ⟨_, _, _, e⟩ | ⟨_, _, _, hf⟩
  · exact ⟨_, _, _, _, _, _, _, e⟩
  · exact ⟨_, _, _, _, _, _, _, e⟩
  · exact frv_shape hf
theorem AnsV.far3 {w : World} {v y0 y1 y2 : Value} {E x : Int} {d R : Nat} {T : TypeId} {b : Bool} {ao ao' : Option Addr} {k c k' c' : Nat} (h : AnsV w v E x d) (hR : w.heap[R]? = some (.cells #[.bool b, .slice ao k c, .slice ao' k' c'] T (0, 0))) : AnsV (((w.setCell ⟨R, 0, none⟩ y0).setCell ⟨R, 1, none⟩ y1).setCell ⟨R, 2, none⟩ y2) v E x d := by
  rcases h with h | h | ⟨h1, h2, h3, h4⟩
  · exact .inl h
  · exact .inr (.inl h)
  · exact .inr (.inr ⟨h1, h2, h3, h4.far3 hR⟩)
theorem AnsV.farZ {W w : World} {v y0 y1 y2 : Value} {E x : Int} {d R k0 : Nat} {T : TypeId} (h : AnsV w v E x d) (hz : ZrN W w R T k0) : AnsV (((w.setCell ⟨R, 0, none⟩ y0).setCell ⟨R, 1, none⟩ y1).setCell ⟨R, 2, none⟩ y2) v E x d := by
  rcases h with h | h | ⟨h1, h2, h3, a, k1, c1, a', k2, c2, e, n1, n2⟩
  · exact .inl h
  · exact .inr (.inl h)
  · exact .inr (.inr ⟨h1, h2, h3, a, k1, c1, a', k2, c2, e, n1.farZ hz, n2.farZ hz⟩)
set_option maxHeartbeats 4000000 in
set_option maxRecDepth 100000 in
theorem rof_any3 (n1 : Bool) (a1 : Option Addr) (k1 c1 : Nat) (n2 : Bool) (a2 : Option Addr) (k2 c2 : Nat) (xs ys : List Nat) (w : World) (s1 : Sl w .u64 (.slice a1 k1 c1) xs) (l1 : Lim B64 xs) (z1 : xs.length ≤ 4000000) (s2 : Sl w .u64 (.slice a2 k2 c2) ys) (l2 : Lim B64 ys) (z2 : ys.length ≤ 4000000) :
    Calls Tryz.prog 25 #[.agg #[.bool n1, .slice a1 k1 c1], .agg #[.bool n2, .slice a2 k2 c2]] w fun e w' => ∃ v' E, e = .returned (.tuple #[v', .int .i64 E]) ∧ AnsV w' v' E (sg (!(n1 == n2)) (val B64 xs)) (val B64 ys) ∧ Below w.heap.size w w' := by
  obtain ⟨W, eW, h1, h2, h3, bel, -⟩ := alloc3 w (Obj.cells #[.bool n1, .slice a1 k1 c1] 25) (Obj.cells #[.bool n2, .slice a2 k2 c2] 25) (Obj.cells #[.bool false, .slice none 0 0, .slice none 0 0] 41)
  have HR : Hid (W.heap[w.heap.size + 1 + 1]? = _) := Lib.hid h3; have BW := Lib.hid bel
  have AN := Lib.hid (ranswer_any (.agg #[.bool (!(n1 == n2)), .slice a1 k1 c1, .slice a2 k2 c2]) (sg (!(n1 == n2)) (val B64 xs)) (val B64 ys) W ⟨_, a1, k1, c1, a2, k2, c2, xs, ys, rfl, s1.below bel, l1, z1, rfl, s2.below bel, l2, z2, rfl⟩)
  obtain ⟨p0, p1, _, _, _⟩ := blk2 h1
  obtain ⟨q0, q1, _, _, _⟩ := blk2 h2
  generalize sg (!(n1 == n2)) (val B64 xs) = x at *
  generalize val B64 ys = d at *
  clear h1 h2 h3 bel s1 l1 z1 s2 l2 z2
  go_enter Tryz.func25, Tryz.ntmps25
  go_wp2_with fail
  try rw [eW]
  clear eW
  refine AN.out.mono ?_
  rintro e w1 ⟨v1, E, rfl, ha, b1⟩
  have R1 := Lib.hid (blk_below' b1 HR.out); have B1 := Lib.hid (below_of BW.out b1)
  have HA := Lib.hid ha.v
  obtain ⟨m, a, k, c, a', k', c', rfl⟩ := ansv_shape ha.v
  obtain ⟨⟨r0, r1, r2⟩, ⟨f0, f1, f2⟩, _⟩ := blk3 R1.out
  have hle : w.heap.size ≤ w.heap.size + 1 + 1 := by omega
  clear ha b1 AN HR BW p0 p1 q0 q1
  go_wp2
  refine bodyPost_ret (v := .tuple #[.agg #[.bool m, .slice a k c, .slice a' k' c'], .int .i64 E]) ?_ rfl ⟨_, _, rfl, HA.out.far3 R1.out, ((B1.out.setCell (p := ⟨w.heap.size + 1 + 1, 0, none⟩) hle _).setCell (p := ⟨w.heap.size + 1 + 1, 1, none⟩) hle _).setCell (p := ⟨w.heap.size + 1 + 1, 2, none⟩) hle _⟩
  simp [results, Tryz.results25, go_sem, *]
theorem of_one {n : Bool} {a : Option Addr} {k c : Nat} {m : Bool} {b : Option Addr} {j e : Nat} {z : Int} {w : World} (hz : IntV w (.agg #[.bool n, .slice a k c]) z) (h1 : IntR w (.agg #[.bool m, .slice b j e]) 1) :
    Calls Tryz.prog 25 #[.agg #[.bool n, .slice a k c], .agg #[.bool m, .slice b j e]] w fun e w' => ∃ v' E, e = .returned (.tuple #[v', .int .i64 E]) ∧ AnsV w' v' E z 1 ∧ Below w.heap.size w w' := by
  have hm := (IntR.num h1).1
  obtain ⟨m1, u1, xs, f1, s1, l1, z1, v1⟩ := hz
  obtain ⟨m2, u2, ys, f2, s2, l2, z2, v2⟩ := h1.2
  simp only [Value.agg.injEq, Array.mk.injEq, List.cons.injEq, Value.bool.injEq, and_true] at f1 f2
  obtain ⟨rfl, rfl⟩ := f1
  obtain ⟨rfl, rfl⟩ := f2
  subst hm
  have e2 : sgn (1 : Int) = false := rfl
  rw [e2] at v2 ⊢
  have e3 : val B64 ys = 1 := (Int.ofNat.inj v2).symm
  have h := rof_any3 n a k c false b j e xs ys w s1 l1 z1 s2 l2 z2
  rw [e3] at h
  have e4 : (!(n == false)) = n := by cases n <;> rfl
  rw [e4, ← v1] at h
  exact h
set_option maxHeartbeats 8000000 in
set_option maxRecDepth 100000 in
theorem rwhole_any3 (v : Value) (z : Int) (w : World) (h : IntV w v z) : Calls Tryz.prog 27 #[v] w fun e w' => ∃ v' E, e = .returned (.tuple #[v', .int .i64 E]) ∧ AnsV w' v' E z 1 ∧ Below w.heap.size w w' := by
  obtain ⟨n, a, k, c, rfl⟩ := h.shape
  have H := Lib.hid h
  clear h
  go_enter Tryz.func27, Tryz.ntmps27
  go_wp2_with fail
  obtain ⟨W, eW, h1, h2, bel, hsz⟩ := alloc2 w (Obj.cells #[.bool n, .slice a k c] 25) (Obj.cells #[.bool false, .slice none 0 0, .slice none 0 0] 41)
  rw [eW]
  obtain ⟨p0, p1, _, _, lp⟩ := blk2 h1
  have HR : Hid (W.heap[w.heap.size + 1]? = _) := Lib.hid h2; have BW := Lib.hid bel
  have NI0 : NoInt #[.bool false, .slice none 0 0, .slice none 0 0] := by
    intro i k n
    rcases i with _ | _ | _ | i <;> simp
  have HNI := Lib.hid NI0
  have STAY : Hid (∀ w', ZrN W w' (w.heap.size + 1) 41 3 → w'.cell? ⟨w.heap.size, 0, none⟩ = some (.bool n) ∧ w'.cell? ⟨w.heap.size, 1, none⟩ = some (.slice a k c) ∧ ZrN W w' (w.heap.size + 1) 41 3) := Lib.hid (fun w' h => ⟨h.cell p0 (by omega), h.cell p1 (by omega), h⟩)
  have OI : Hid (∀ u, Calls Tryz.prog 14 #[.int .i64 1] u fun e w' => Res0 u w' e 1) := Lib.hid (fun u => ofF 1 u (by decide) (by decide))
  have OF : Hid (∀ u m b j e, ZrN W u (w.heap.size + 1) 41 3 → IntR u (.agg #[.bool m, .slice b j e]) 1 → Calls Tryz.prog 25 #[.agg #[.bool n, .slice a k c], .agg #[.bool m, .slice b j e]] u fun e w' => ∃ v' E, e = .returned (.tuple #[v', .int .i64 E]) ∧ AnsV w' v' E z 1 ∧ Below u.heap.size u w') := Lib.hid (fun u m b j e hz h1 => of_one ((by
    obtain ⟨m1, u1, xs, f1, s1, l1, z1, v1⟩ := H.out.below BW.out
    exact ⟨m1, u1, xs, f1, s1.zr hz.zr (fun b off cap e hp => s1.neN HR.out HNI.out e hp), l1, z1, v1⟩) : IntV u (.agg #[.bool n, .slice a k c]) z) h1)
  have hZ0 : ZrN W W.drew (w.heap.size + 1) 41 3 := (zrn_start HR.out HNI.out).drew
  have hle : w.heap.size ≤ w.heap.size + 1 := by omega
  clear eW h1 h2 bel p0 p1 NI0 lp
  go_region_held3 (fun w' => w'.cell? ⟨w.heap.size, 0, none⟩ = some (.bool n) ∧ w'.cell? ⟨w.heap.size, 1, none⟩ = some (.slice a k c) ∧ ZrN W w' (w.heap.size + 1) 41 3)
    (((try go_split_ands); refine STAY.out _ ?_; repeat (first | (with_reducible assumption) | (with_reducible refine ZrN.drew ?_) | (with_reducible refine ZrN.alloc ?_) | (with_reducible refine ZrN.setS ?_) | (with_reducible refine ZrN.setB ?_))))
    (first
    | (go_at_call 14; go_split_ands; ((with_reducible refine Calls.mono (OI.out _) ?_); rintro e wA ⟨mA, dA, lA, eA, rfl, jjA, hbA⟩; have hkA := ZrN.call hbA (by with_reducible assumption)))
    | (go_at_call 25; go_split_ands; ((with_reducible refine Calls.mono (OF.out _ _ _ _ _ (by with_reducible assumption) ?_) ?_); (repeat (first | (with_reducible assumption) | (with_reducible refine ri_drewz ?_) | (with_reducible refine ri_callz hbA ?_))); rintro e wB ⟨vB, E, rfl, jjB, hbB⟩; obtain ⟨m4, a4, k4, c4, s4, t4, u4, rfl⟩ := ansv_shape jjB; have hkB := ZrN.call hbB (by with_reducible assumption); have JB := Lib.hid jjB; obtain ⟨x0B, x1B, x2B, hRB⟩ := zrn_three hkB; obtain ⟨⟨r0B, r1B, r2B⟩, ⟨f0B, f1B, f2B⟩, lRB⟩ := blk3 hRB)))
  all_goals
    have ZF : Hid (ZrN W (((wB.setCell ⟨w.heap.size + 1, 0, none⟩ (.bool m4)).setCell ⟨w.heap.size + 1, 1, none⟩ (.slice a4 k4 c4)).setCell ⟨w.heap.size + 1, 2, none⟩ (.slice s4 t4 u4)) (w.heap.size + 1) 41 3) := Lib.hid (((hkB.setB).setS).setS)
    have JF := Lib.hid (AnsV.farZ (y0 := .bool m4) (y1 := .slice a4 k4 c4) (y2 := .slice s4 t4 u4) JB.out hkB)
    go_wp2
    refine bodyPost_ret (v := .tuple #[.agg #[.bool m4, .slice a4 k4 c4, .slice s4 t4 u4], .int .i64 E]) ?_ rfl ⟨_, _, rfl, JF.out, ZF.out.zr.below BW.out hle⟩
    simp [results, Tryz.results27, go_sem, *]
end Go.Proofs.YtkbfgbkhhfligaaGreatDoor
