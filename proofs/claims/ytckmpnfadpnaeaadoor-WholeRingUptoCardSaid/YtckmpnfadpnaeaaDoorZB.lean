/- Package whole: copied, answer, turned, cmp and what is made of them. -/
import Derived.Test.YtckmpnfadpnaeaaDoorZA
set_option linter.unusedVariables false
set_option linter.unusedSimpArgs false
namespace Go.Proofs.YtckmpnfadpnaeaaDoor
open Go.RowKit Mth

set_option maxRecDepth 100000 in
theorem copied_any (v : Value) (z : Int) (w : World) (h : NuV w v z) : Calls Tryd.prog 57 #[v] w fun e w' => ∃ v', e = .returned v' ∧ IntC w' w.heap.size v' z ∧ Below w.heap.size w w' := by
  obtain ⟨u, rfl, xs, hs, hl, ht, hv⟩ := h
  obtain ⟨ao, cap, rfl⟩ := hs.shape
  have F : Hid (∀ w1, Below w.heap.size w w1 → Calls Tryd.prog 80 #[.slice ao xs.length cap] w1 fun e w' => ∃ v', e = .returned v' ∧ Ow w' w1.heap.size v' z.natAbs ∧ Below w1.heap.size w1 w') :=
    Lib.hid (fun w1 hb => (wfresh_any _ xs w1 (hs.below hb) hl ht).mono fun e w' ⟨v', h1, h2, _, h3⟩ => ⟨v', h1, by rw [← hv]; exact h2, h3⟩)
  clear hs hl ht hv
  go_enter Tryd.func57, Tryd.ntmps57
  go_wp2
  obtain ⟨W, eW, h1, h2, bel, hsz⟩ := alloc2 w (Obj.cells #[Value.slice ao xs.length cap, Value.bool (sgn z)] 54) (Obj.cells #[Value.bool false, Value.slice none 0 0] 25)
  rw [eW]
  obtain ⟨c0, c1, f0, f1, _⟩ := blk2 h1
  have Z0 := zr_start h2
  clear eW h1 h2
  go_region_held3 (fun w' => w'.cell? ⟨w.heap.size, 0, none⟩ = some (.slice ao xs.length cap) ∧ w'.cell? ⟨w.heap.size, 1, none⟩ = some (.bool (sgn z)) ∧ Zr W w' (w.heap.size + 1) 25 2)
    ((go_split_ands; refine ⟨?_, ?_, ?_⟩ <;> first | assumption | go_keep | exact Zr.call (by assumption) (by assumption) | exact Zr.cell (Zr.call (by assumption) (by assumption)) (by assumption) (by omega) | exact Zr.set (Zr.set (by assumption))))
    (first
    | (go_at_call 80; go_split_ands; refine (F.out _ (Zr.below (by assumption) bel (by omega))).mono ?_; rintro e w' ⟨v', rfl, ho, hb⟩; obtain ⟨a2, n2, c2, rfl⟩ := ho.shape)
    | (go_at_call 38; refine (limbs_is _ _ _ _).mono ?_; rintro e w' ⟨rfl, rfl⟩; go_split_ands; obtain ⟨x0, x1, k0, k1, g0, g1, _⟩ := Zr.two (by assumption)))
  go_wp2
  refine bodyPost_ret (v := .agg #[.bool (sgn z), .slice _ _ _]) ?_ rfl ⟨_, rfl, ⟨_, rfl, ((Ow.far (Ow.far ‹Ow _ _ _ _› hsz) hsz).mono bel.size)⟩, Zr.below (Zr.set (Zr.set ‹Zr _ _ _ _ _›)) bel (by omega)⟩
  simp [results, Tryd.results57, go_sem, *]

/-- an Int, its shape, and what read makes of it in any later world -/
theorem IntV.rd {w : World} {v : Value} {z : Int} (h : IntV w v z) : ∃ (n : Bool) (ao : Option Addr) (k c t : Nat), v = .agg #[.bool n, .slice ao k c] ∧ NuV w (.agg #[.slice ao t c, .bool (sgn z)]) z ∧
    ∀ w1, Below w.heap.size w w1 → Calls Tryd.prog 35 #[.agg #[.bool n, .slice ao k c]] w1 fun e w' => e = .returned (.agg #[.slice ao t c, .bool (sgn z)]) ∧ Below w1.heap.size w1 w' ∧ w'.heap.size = w1.heap.size + 3 := by
  obtain ⟨n, u, xs, rfl, hs, hl, hlen, rfl⟩ := h
  obtain ⟨ao, cap, rfl⟩ := hs.shape
  refine ⟨n, ao, _, cap, tlen xs, rfl, ⟨_, rfl, by rw [natAbs_sg]; exact num_trim hs.trim hl⟩, fun w1 hb => ?_⟩
  exact read_is n ao cap xs w1 (hs.below hb)
end Go.Proofs.YtckmpnfadpnaeaaDoor
