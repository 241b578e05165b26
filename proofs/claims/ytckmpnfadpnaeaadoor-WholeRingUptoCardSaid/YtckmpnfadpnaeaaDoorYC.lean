/- tribunalref02: Out, Minus, Small1. -/
import Derived.Test.YtckmpnfadpnaeaaDoorYB
set_option linter.unusedVariables false
set_option linter.unusedSimpArgs false
namespace Go.Proofs.YtckmpnfadpnaeaaDoor
open Go.RowKit Mth

theorem IntK.below {w w' : World} {v : Value} {z : Int} (h : IntK w v z) (hb : Below w.heap.size w w') : IntK w' v z := by
  obtain ⟨u, h1, h2⟩ := h; exact ⟨u, h1, h2.below hb⟩
theorem IntK.shape {w : World} {v : Value} {z : Int} (h : IntK w v z) : ∃ n ao k c, v = .agg #[.bool n, .slice ao k c] := by
  obtain ⟨u, rfl, ys, h1, _⟩ := h
  obtain ⟨ao, c, rfl⟩ := h1.shape
  exact ⟨_, _, _, _, rfl⟩
theorem IntK.far {w : World} {v y0 y1 : Value} {z : Int} {R : Nat} {T : TypeId} {x : Bool} {ao : Option Addr} {n c : Nat} (h : IntK w v z) (hR : w.heap[R]? = some (.cells #[.bool x, .slice ao n c] T (0, 0))) : IntK ((w.setCell ⟨R, 0, none⟩ y0).setCell ⟨R, 1, none⟩ y1) v z := by
  obtain ⟨u, e, ys, h1, h2⟩ := h
  have hne : ∀ b off cap, u = .slice (some ⟨b, off, none⟩) ys.length cap → 0 < ys.length → b ≠ R := fun b off cap e hp => h1.ne hR e hp
  exact ⟨u, e, ys, (h1.set_far hne).set_far hne, h2⟩
theorem intk_zero (w : World) : IntK w (.agg #[.bool false, .slice none 0 0]) 0 := ⟨_, rfl, (ow_nil w 0).num⟩
theorem IntC.k {w : World} {base : Nat} {v : Value} {z : Int} (h : IntC w base v z) : IntK w v z := by
  obtain ⟨u, h1, h2⟩ := h; exact ⟨u, h1, h2.num⟩
theorem ZV.long {w : World} {n : Bool} {ao : Option Addr} {k c : Nat} {z : Int} (h : ZV w (.agg #[.bool n, .slice ao k c]) z) : 16384 < k ↔ Big ≤ z.natAbs := by
  obtain ⟨_, ys, h1, h2, h3, h4, rfl⟩ := h.parts
  rw [← h4]; exact hlong_iff h2 h3
theorem zv_nil (w : World) : ZV w (.agg #[.bool false, .slice none 0 0]) 0 := ⟨_, rfl, [], sl_nil w _, lim_nil (by unfold B16; omega), rfl, rfl⟩

set_option maxRecDepth 100000 in
theorem out_any2 (v : Value) (z : Int) (w : World) (h : ZV w v z) : Calls Tryd.prog 39 #[v] w fun e w' => ∃ v', e = .returned (.tuple #[v', .int .i64 (zE z)]) ∧ IntK w' v' (zN z) ∧ Below w.heap.size w w' := by
  obtain ⟨n, ao, k, c, rfl⟩ := h.shape
  have hl := h.long
  have HT := Lib.hid (fun w1 hb => to_any2 _ z w1 (h.below hb))
  clear h
  by_cases h1 : 16384 < k
  · have E := Lib.hid (z_big (hl.1 h1))
    have hd : decide ((16384 : Int) < (k : Int)) = true := decide_eq_true (by omega)
    clear hl
    go_enter Tryd.func39, Tryd.ntmps39
    go_wp2
    refine bodyPost_ret (v := .tuple #[.agg #[.bool false, .slice none 0 0], .int .i64 5]) ?_ rfl ⟨_, by rw [E.out.2], by rw [E.out.1]; exact intk_zero _, (((Below.refl _ _).alloc (Nat.le_refl _) _).alloc (by simp) _)⟩
    simp [results, Tryd.results39, go_sem]
  · have E := Lib.hid (z_fine (Nat.lt_of_not_le fun h => h1 (hl.2 h)))
    have hd : decide ((16384 : Int) < (k : Int)) = false := decide_eq_false (by omega)
    clear hl
    go_enter Tryd.func39, Tryd.ntmps39
    go_wp2_with fail
    obtain ⟨W, eW, b1, b2, bel, hsz⟩ := alloc2 w (Obj.cells #[Value.bool n, Value.slice ao k c] 62) (Obj.cells #[Value.bool false, Value.slice none 0 0] 25)
    rw [eW]
    have H2 := Lib.hid b2
    clear eW b1 b2
    refine (HT.out W bel).mono ?_
    rintro e w2 ⟨v2, rfl, hz, hb2⟩
    have hR := (hb2.block _ hsz).trans H2.out
    obtain ⟨k0, k1, g0, g1, hlt⟩ := blk2 hR
    obtain ⟨n2, a2, l2, c2, rfl⟩ := hz.shape
    have HZ := Lib.hid (hz.far (y0 := .bool n2) (y1 := .slice a2 l2 c2) hR)
    have B2 := below_of bel hb2
    clear hz
    go_wp2
    refine bodyPost_ret (v := .tuple #[.agg #[.bool n2, .slice a2 l2 c2], .int .i64 0]) ?_ rfl ⟨_, by rw [E.out.2], by rw [E.out.1]; exact HZ.out, (B2.setCell (p := ⟨w.heap.size + 1, 0, none⟩) (Nat.le_add_right _ _) _).setCell (p := ⟨w.heap.size + 1, 1, none⟩) (Nat.le_add_right _ _) _⟩
    simp [results, Tryd.results39, go_sem, *]

end Go.Proofs.YtckmpnfadpnaeaaDoor
