/- EC ED EE EF EG EH EI. -/
import Derived.Test.YtfdilnfmcpbkgaaGreatDoorZ1
import Derived.Test.YtfdilnfmcpbkgaaGreatDoorMA
import Derived.Test.YtfdilnfmcpbkgaaGreatDoorRF
import Derived.BigQuiet
import Derived.Deep.RegionWith
import Derived.Deep.RegionHeld3
import Derived.Test.YtfdilnfmcpbkgaaGreatDoorVA
import Derived.Test.YtfdilnfmcpbkgaaGreatDoorYS
import Derived.Test.YtfdilnfmcpbkgaaGreatDoorZ3
set_option linter.unusedVariables false
set_option linter.unusedSimpArgs false
/- Package whole: Lehmer's steps on int64: noSteps, moves, lead. -/
namespace Go.Proofs.YtfdilnfmcpbkgaaGreatDoor
open Go.RowKit Mth

def St4 (va vb vc vd : Int) : Value := .agg #[.int .i64 va, .int .i64 vb, .int .i64 vc, .int .i64 vd]

/-- a block of four cells -/
theorem blk4' {w : World} {g : Nat} {a b c d : Value} {T : TypeId} (h : w.heap[g]? = some (.cells #[a, b, c, d] T (0, 0))) :
    (w.cell? ⟨g, 0, none⟩ = some a ∧ w.cell? ⟨g, 1, none⟩ = some b ∧ w.cell? ⟨g, 2, none⟩ = some c ∧ w.cell? ⟨g, 3, none⟩ = some d) ∧ (w.frozen? ⟨g, 0, none⟩ = false ∧ w.frozen? ⟨g, 1, none⟩ = false ∧ w.frozen? ⟨g, 2, none⟩ = false ∧ w.frozen? ⟨g, 3, none⟩ = false) := by
  refine ⟨⟨?_, ?_, ?_, ?_⟩, frozen_of_row w g 0 _ _ h, frozen_of_row w g 1 _ _ h, frozen_of_row w g 2 _ _ h, frozen_of_row w g 3 _ _ h⟩ <;> (rw [cell_of_row w g _ _ _ (0, 0) h]; rfl)
theorem cell_to' {W w1 : World} {b o : Nat} {v : Value} (hb : Below W.heap.size W w1) (hc : W.cell? ⟨b, o, none⟩ = some v) (hlt : b < W.heap.size) : w1.cell? ⟨b, o, none⟩ = some v := (hb.cell (p := ⟨b, o, none⟩) hlt).trans hc
theorem below_to' {w W w1 : World} (hb : Below W.heap.size W w1) (h : Below w.heap.size w W) : Below w.heap.size w w1 := h.trans (hb.mono h.size)
theorem alloc1' (w : World) (o1 : Obj) : ∃ W, w.alloc o1 = W ∧ W.heap[w.heap.size]? = some o1 ∧ Below w.heap.size w W ∧ w.heap.size < W.heap.size :=
  ⟨_, rfl, heap_alloc_new w o1, (Below.refl _ _).alloc (Nat.le_refl _) _, by simp⟩

set_option maxRecDepth 100000 in
theorem noSteps_is (w : World) : Calls Tryz.prog 73 #[] w fun e w' => e = .returned (.agg #[.int .i64 1, .int .i64 0, .int .i64 0, .int .i64 1]) ∧ Below w.heap.size w w' := by
  go_enter Tryz.func73, Tryz.ntmps73
  go_wp2
  refine bodyPost_ret (v := .agg #[.int .i64 1, .int .i64 0, .int .i64 0, .int .i64 1]) ?_ rfl ⟨rfl, (Below.refl _ _).alloc (Nat.le_refl _) _⟩
  simp [results, Tryz.results73, go_sem, *]

set_option maxRecDepth 100000 in
theorem moves_is (va vb vc vd : Int) (r : Bool) (w : World) (hr : (!decide (va = 1 ∧ vb = 0 ∧ vc = 0 ∧ vd = 1)) = r) : Calls Tryz.prog 51 #[.agg #[.int .i64 va, .int .i64 vb, .int .i64 vc, .int .i64 vd]] w fun e w' => e = .returned (.bool r) ∧ Below w.heap.size w w' := by
  obtain ⟨b1, hb1⟩ : ∃ b, (va == 1) = b := ⟨_, rfl⟩
  obtain ⟨b2, hb2⟩ : ∃ b, (vb == 0) = b := ⟨_, rfl⟩
  obtain ⟨b3, hb3⟩ : ∃ b, (vc == 0) = b := ⟨_, rfl⟩
  obtain ⟨b4, hb4⟩ : ∃ b, (vd == 1) = b := ⟨_, rfl⟩
  have HR : Hid (r = !(b1 && b2 && b3 && b4)) := Lib.hid (by
    rw [← hr, ← hb1, ← hb2, ← hb3, ← hb4]
    congr 1
    by_cases h1 : va = 1 <;> by_cases h2 : vb = 0 <;> by_cases h3 : vc = 0 <;> by_cases h4 : vd = 1 <;> simp [h1, h2, h3, h4])
  clear hr
  cases b1
  case false =>
    obtain rfl : r = true := by rw [HR.out]; rfl
    clear HR
    go_enter Tryz.func51, Tryz.ntmps51
    go_wp2
    obtain ⟨V, eV, hV, belV, hszV⟩ := alloc1' w (Obj.cells #[Value.int IntKind.i64 va, Value.int IntKind.i64 vb, Value.int IntKind.i64 vc, Value.int IntKind.i64 vd] 87)
    rw [eV]
    have BV := Lib.hid belV
    obtain ⟨⟨x0, x1, x2, x3⟩, _⟩ := blk4' hV
    have STAY : Hid (∀ w', Below V.heap.size V w' → w'.cell? ⟨w.heap.size, 0, none⟩ = some (.int .i64 va) ∧ w'.cell? ⟨w.heap.size, 1, none⟩ = some (.int .i64 vb) ∧ w'.cell? ⟨w.heap.size, 2, none⟩ = some (.int .i64 vc) ∧ w'.cell? ⟨w.heap.size, 3, none⟩ = some (.int .i64 vd) ∧ Below V.heap.size V w') :=
      Lib.hid (fun w' h => ⟨cell_to' h x0 hszV, cell_to' h x1 hszV, cell_to' h x2 hszV, cell_to' h x3 hszV, h⟩)
    have hB0 := (Below.refl V.heap.size V).drew
    clear eV hV belV x0 x1 x2 x3
    go_region_held3 (fun w' => w'.cell? ⟨w.heap.size, 0, none⟩ = some (.int .i64 va) ∧ w'.cell? ⟨w.heap.size, 1, none⟩ = some (.int .i64 vb) ∧ w'.cell? ⟨w.heap.size, 2, none⟩ = some (.int .i64 vc) ∧ w'.cell? ⟨w.heap.size, 3, none⟩ = some (.int .i64 vd) ∧ Below V.heap.size V w')
      ((try go_split_ands; refine STAY.out _ ?_; first | assumption | exact below_to' (by assumption) (by assumption)))
      (first
      | (go_at_call 73; go_split_ands; (refine Calls.mono (noSteps_is _) ?_; rintro e w1 ⟨rfl, hb1⟩)))
    go_wp2
    go_ret
    go_split_ands
    exact ⟨rfl, below_to' (by assumption) BV.out⟩
  cases b2
  case false =>
    obtain rfl : r = true := by rw [HR.out]; rfl
    clear HR
    go_enter Tryz.func51, Tryz.ntmps51
    go_wp2
    obtain ⟨V, eV, hV, belV, hszV⟩ := alloc1' w (Obj.cells #[Value.int IntKind.i64 va, Value.int IntKind.i64 vb, Value.int IntKind.i64 vc, Value.int IntKind.i64 vd] 87)
    rw [eV]
    have BV := Lib.hid belV
    obtain ⟨⟨x0, x1, x2, x3⟩, _⟩ := blk4' hV
    have STAY : Hid (∀ w', Below V.heap.size V w' → w'.cell? ⟨w.heap.size, 0, none⟩ = some (.int .i64 va) ∧ w'.cell? ⟨w.heap.size, 1, none⟩ = some (.int .i64 vb) ∧ w'.cell? ⟨w.heap.size, 2, none⟩ = some (.int .i64 vc) ∧ w'.cell? ⟨w.heap.size, 3, none⟩ = some (.int .i64 vd) ∧ Below V.heap.size V w') :=
      Lib.hid (fun w' h => ⟨cell_to' h x0 hszV, cell_to' h x1 hszV, cell_to' h x2 hszV, cell_to' h x3 hszV, h⟩)
    have hB0 := (Below.refl V.heap.size V).drew
    clear eV hV belV x0 x1 x2 x3
    go_region_held3 (fun w' => w'.cell? ⟨w.heap.size, 0, none⟩ = some (.int .i64 va) ∧ w'.cell? ⟨w.heap.size, 1, none⟩ = some (.int .i64 vb) ∧ w'.cell? ⟨w.heap.size, 2, none⟩ = some (.int .i64 vc) ∧ w'.cell? ⟨w.heap.size, 3, none⟩ = some (.int .i64 vd) ∧ Below V.heap.size V w')
      ((try go_split_ands; refine STAY.out _ ?_; first | assumption | exact below_to' (by assumption) (by assumption)))
      (first
      | (go_at_call 73; go_split_ands; (refine Calls.mono (noSteps_is _) ?_; rintro e w1 ⟨rfl, hb1⟩)))
    go_wp2
    go_ret
    go_split_ands
    exact ⟨rfl, below_to' (by assumption) BV.out⟩
  cases b3
  case false =>
    obtain rfl : r = true := by rw [HR.out]; rfl
    clear HR
    go_enter Tryz.func51, Tryz.ntmps51
    go_wp2
    obtain ⟨V, eV, hV, belV, hszV⟩ := alloc1' w (Obj.cells #[Value.int IntKind.i64 va, Value.int IntKind.i64 vb, Value.int IntKind.i64 vc, Value.int IntKind.i64 vd] 87)
    rw [eV]
    have BV := Lib.hid belV
    obtain ⟨⟨x0, x1, x2, x3⟩, _⟩ := blk4' hV
    have STAY : Hid (∀ w', Below V.heap.size V w' → w'.cell? ⟨w.heap.size, 0, none⟩ = some (.int .i64 va) ∧ w'.cell? ⟨w.heap.size, 1, none⟩ = some (.int .i64 vb) ∧ w'.cell? ⟨w.heap.size, 2, none⟩ = some (.int .i64 vc) ∧ w'.cell? ⟨w.heap.size, 3, none⟩ = some (.int .i64 vd) ∧ Below V.heap.size V w') :=
      Lib.hid (fun w' h => ⟨cell_to' h x0 hszV, cell_to' h x1 hszV, cell_to' h x2 hszV, cell_to' h x3 hszV, h⟩)
    have hB0 := (Below.refl V.heap.size V).drew
    clear eV hV belV x0 x1 x2 x3
    go_region_held3 (fun w' => w'.cell? ⟨w.heap.size, 0, none⟩ = some (.int .i64 va) ∧ w'.cell? ⟨w.heap.size, 1, none⟩ = some (.int .i64 vb) ∧ w'.cell? ⟨w.heap.size, 2, none⟩ = some (.int .i64 vc) ∧ w'.cell? ⟨w.heap.size, 3, none⟩ = some (.int .i64 vd) ∧ Below V.heap.size V w')
      ((try go_split_ands; refine STAY.out _ ?_; first | assumption | exact below_to' (by assumption) (by assumption)))
      (first
      | (go_at_call 73; go_split_ands; (refine Calls.mono (noSteps_is _) ?_; rintro e w1 ⟨rfl, hb1⟩)))
    go_wp2
    go_ret
    go_split_ands
    exact ⟨rfl, below_to' (by assumption) BV.out⟩
  cases b4
  case false =>
    obtain rfl : r = true := by rw [HR.out]; rfl
    clear HR
    go_enter Tryz.func51, Tryz.ntmps51
    go_wp2
    obtain ⟨V, eV, hV, belV, hszV⟩ := alloc1' w (Obj.cells #[Value.int IntKind.i64 va, Value.int IntKind.i64 vb, Value.int IntKind.i64 vc, Value.int IntKind.i64 vd] 87)
    rw [eV]
    have BV := Lib.hid belV
    obtain ⟨⟨x0, x1, x2, x3⟩, _⟩ := blk4' hV
    have STAY : Hid (∀ w', Below V.heap.size V w' → w'.cell? ⟨w.heap.size, 0, none⟩ = some (.int .i64 va) ∧ w'.cell? ⟨w.heap.size, 1, none⟩ = some (.int .i64 vb) ∧ w'.cell? ⟨w.heap.size, 2, none⟩ = some (.int .i64 vc) ∧ w'.cell? ⟨w.heap.size, 3, none⟩ = some (.int .i64 vd) ∧ Below V.heap.size V w') :=
      Lib.hid (fun w' h => ⟨cell_to' h x0 hszV, cell_to' h x1 hszV, cell_to' h x2 hszV, cell_to' h x3 hszV, h⟩)
    have hB0 := (Below.refl V.heap.size V).drew
    clear eV hV belV x0 x1 x2 x3
    go_region_held3 (fun w' => w'.cell? ⟨w.heap.size, 0, none⟩ = some (.int .i64 va) ∧ w'.cell? ⟨w.heap.size, 1, none⟩ = some (.int .i64 vb) ∧ w'.cell? ⟨w.heap.size, 2, none⟩ = some (.int .i64 vc) ∧ w'.cell? ⟨w.heap.size, 3, none⟩ = some (.int .i64 vd) ∧ Below V.heap.size V w')
      ((try go_split_ands; refine STAY.out _ ?_; first | assumption | exact below_to' (by assumption) (by assumption)))
      (first
      | (go_at_call 73; go_split_ands; (refine Calls.mono (noSteps_is _) ?_; rintro e w1 ⟨rfl, hb1⟩)))
    go_wp2
    go_ret
    go_split_ands
    exact ⟨rfl, below_to' (by assumption) BV.out⟩
  obtain rfl : r = false := by rw [HR.out]; rfl
  clear HR
  go_enter Tryz.func51, Tryz.ntmps51
  go_wp2
  obtain ⟨V, eV, hV, belV, hszV⟩ := alloc1' w (Obj.cells #[Value.int IntKind.i64 va, Value.int IntKind.i64 vb, Value.int IntKind.i64 vc, Value.int IntKind.i64 vd] 87)
  rw [eV]
  have BV := Lib.hid belV
  obtain ⟨⟨x0, x1, x2, x3⟩, _⟩ := blk4' hV
  have STAY : Hid (∀ w', Below V.heap.size V w' → w'.cell? ⟨w.heap.size, 0, none⟩ = some (.int .i64 va) ∧ w'.cell? ⟨w.heap.size, 1, none⟩ = some (.int .i64 vb) ∧ w'.cell? ⟨w.heap.size, 2, none⟩ = some (.int .i64 vc) ∧ w'.cell? ⟨w.heap.size, 3, none⟩ = some (.int .i64 vd) ∧ Below V.heap.size V w') :=
    Lib.hid (fun w' h => ⟨cell_to' h x0 hszV, cell_to' h x1 hszV, cell_to' h x2 hszV, cell_to' h x3 hszV, h⟩)
  have hB0 := (Below.refl V.heap.size V).drew
  clear eV hV belV x0 x1 x2 x3
  go_region_held3 (fun w' => w'.cell? ⟨w.heap.size, 0, none⟩ = some (.int .i64 va) ∧ w'.cell? ⟨w.heap.size, 1, none⟩ = some (.int .i64 vb) ∧ w'.cell? ⟨w.heap.size, 2, none⟩ = some (.int .i64 vc) ∧ w'.cell? ⟨w.heap.size, 3, none⟩ = some (.int .i64 vd) ∧ Below V.heap.size V w')
    ((try go_split_ands; refine STAY.out _ ?_; first | assumption | exact below_to' (by assumption) (by assumption)))
    (first
    | (go_at_call 73; go_split_ands; (refine Calls.mono (noSteps_is _) ?_; rintro e w1 ⟨rfl, hb1⟩)))
  go_wp2
  go_ret
  go_split_ands
  exact ⟨rfl, below_to' (by assumption) BV.out⟩

set_option maxRecDepth 100000 in
theorem lead_any (v : Value) (xs : List Nat) (c X r : Nat) (w : World) (h : Sl w .u64 v xs) (hl : Lim B64 xs) (hX : val B64 xs = X) (hB : X < Big) (hc : c ≤ 262144) (hr : X / 2 ^ c = r) (hq : r ≤ Mq) :
    Calls Tryz.prog 75 #[v, .int .i64 c] w fun e w' => e = .returned (.int .i64 r) ∧ Below w.heap.size w w' := by
  have HS := Lib.hid (shr_any v xs (c : Int) w h hl ⟨by omega, by omega⟩)
  have E : Hid (shrN (val B64 xs) (c : Int) = r) := Lib.hid (by
    unfold shrN
    rw [if_neg (by omega), hX, if_neg (by omega), Int.toNat_natCast, hr])
  have HQ : Hid (r ≤ 4611686018427387903) := Lib.hid hq
  clear h hl hX hB hc hr hq
  go_enter Tryz.func75, Tryz.ntmps75
  go_wp2_with fail
  refine HS.out.mono ?_
  rintro e w1 ⟨v1, rfl, hn1, hb1⟩
  rw [E.out] at hn1
  obtain ⟨ys, s1, l1, t1, e1⟩ := hn1
  have HM := Lib.hid (small_any v1 ys w1 s1 l1)
  have EV : Hid (smallV (val B64 ys) = r) := Lib.hid (by rw [e1]; unfold smallV; exact if_pos (by have := HQ.out; unfold B64; omega))
  have HB := Lib.hid hb1
  clear s1 l1 t1 e1 hb1
  go_wp2_with fail
  refine HM.out.mono ?_
  rintro e w2 ⟨rfl, hb2⟩
  have HB2 := Lib.hid (HB.out.trans (hb2.mono HB.out.size))
  clear hb2
  rw [EV.out]
  have hw : IntKind.i64.wrap ((r : Nat) : Int) = (r : Int) := by have := HQ.out; rw [IntKind.wrap_i64]; omega
  go_wp2
  go_ret
  exact ⟨rfl, HB2.out⟩
end Go.Proofs.YtfdilnfmcpbkgaaGreatDoor

/- Package whole: walk, Lehmer's steps on int64. -/
namespace Go.Proofs.YtfdilnfmcpbkgaaGreatDoor
open Go.RowKit Mth

theorem i64_in' (n : Int) (h : -9223372036854775808 ≤ n ∧ n ≤ 9223372036854775807) : IntKind.i64.wrap n = n := by rw [IntKind.wrap_i64]; omega
theorem i64_quo' (x y : Int) (h : 0 ≤ x ∧ x ≤ 9223372036854775807 ∧ 1 ≤ y) : IntKind.i64.wrap (x.tdiv y) = x / y := by
  rw [Int.tdiv_eq_ediv_of_nonneg h.1]
  have h1 : 0 ≤ x / y := Int.ediv_nonneg h.1 (by omega)
  have h2 : x / y ≤ x := Int.ediv_le_self _ h.1
  exact i64_in' _ (by omega)
theorem quo64 {a b : Nat} (ha : a ≤ 9223372036854775806) (hb : 0 < b) : wrap64 ((a : Int) / (b : Int)) = ((a / b : Nat) : Int) := by
  rw [← Int.natCast_ediv]
  have h : a / b ≤ a := Nat.div_le_self _ _
  generalize a / b = q at *
  exact IntWalk.wrap64_in _ (by omega)
theorem blk_seti {w : World} {g i : Nat} {cs ds : Array Value} {T : TypeId} {v : Value} (h : w.heap[g]? = some (.cells cs T (0, 0))) (e : cs.setIfInBounds i v = ds) : (w.setCell ⟨g, i, none⟩ v).heap[g]? = some (.cells ds T (0, 0)) := by
  subst e; exact heap_setCell_same w g i cs T v h
theorem blk_set4w {w : World} {g : Nat} {a b c d a' b' c' d' : Value} {T : TypeId} (h : w.heap[g]? = some (.cells #[a, b, c, d] T (0, 0))) : ((((w.setCell ⟨g, 0, none⟩ a').setCell ⟨g, 1, none⟩ b').setCell ⟨g, 2, none⟩ c').setCell ⟨g, 3, none⟩ d').heap[g]? = some (.cells #[a', b', c', d'] T (0, 0)) :=
  blk_seti (blk_seti (blk_seti (blk_seti h rfl) rfl) rfl) rfl

/-- what walk's loop holds, as one letter -/
structure WS (s : ESt) (x y : Nat) (va vb vc vd : Int) : Prop where
  out : WStep (2 ^ ctE s) (min (ctE s) 1) s.p s.q (s.p / 2 ^ ctE s) (s.q / 2 ^ ctE s) (s.p % 2 ^ ctE s) (s.q % 2 ^ ctE s) s x y va vb vc vd
theorem ws_start (s : ESt) : WS s (s.p / 2 ^ ctE s) (s.q / 2 ^ ctE s) 1 0 0 1 := ⟨sure_start s⟩
theorem ws_sure {s : ESt} {x y : Nat} {va vb vc vd : Int} (hm : lnE s + 62 ≤ 64 * maxL) (h : WS s x y va vb vc vd) : Sure s va vb vc vd := sure_of hm h.out
theorem blk_to {w w' : World} {g : Nat} {o : Obj} (hb : Below w.heap.size w w') (h : w.heap[g]? = some o) : w'.heap[g]? = some o := (hb.block g (Array.getElem?_eq_some_iff.1 h).1).trans h
theorem zr_start' {W : World} {R : Nat} {T : TypeId} {cs : Array Value} (h : W.heap[R]? = some (.cells cs T (0, 0))) : Zr W W R T cs.size := ⟨⟨rfl, rfl, rfl, Nat.le_refl _, fun _ _ _ => rfl⟩, cs, h, rfl⟩
theorem bl_big {n : Nat} (h : n < Big) : bl n ≤ 64 * maxL := by
  refine bl_le ?_
  rw [Nat.pow_mul, ← b64_two]
  exact h
theorem lnE_le {s : ESt} (h1 : s.p < Big) (h2 : s.q < Big) : lnE s ≤ 262144 := by
  have a := bl_big h1; have b := bl_big h2
  unfold maxL at a b
  exact Nat.max_le.2 ⟨a, b⟩
/-- what walk's loop holds -/
def WkO (V wr : World) (s : ESt) (R : Nat) (vx vy : Value) : Prop := ∃ (x y : Nat) (va vb vc vd : Int), vx = .int .i64 x ∧ vy = .int .i64 y ∧ WS s x y va vb vc vd ∧ wr.heap[R]? = some (.cells #[.int .i64 va, .int .i64 vb, .int .i64 vc, .int .i64 vd] 87 (0, 0)) ∧ Zr V wr R 87 4
/-- a round's numbers, as letters -/
theorem walk_round {s : ESt} {x y σ : Nat} {va vb vc vd : Int} (hσ : σ = min (ctE s) 1) (h : WS s x y va vb vc vd) : ∃ (E1 E2 E3 E4 : Nat) (p1 p2 p3 p4 : Int),
    (IntKind.i64.wrap ((σ : Int) * vc) = p1 ∧ IntKind.i64.wrap ((σ : Int) * vd) = p2 ∧ IntKind.i64.wrap ((σ : Int) * va) = p3 ∧ IntKind.i64.wrap ((σ : Int) * vb) = p4) ∧
    (IntKind.i64.wrap ((y : Int) + p1) = E1 ∧ IntKind.i64.wrap ((y : Int) + p2) = E2 ∧ IntKind.i64.wrap ((x : Int) + p3) = E3 ∧ IntKind.i64.wrap ((x : Int) + p4) = E4) ∧
    (E1 ≤ 9223372036854775806 ∧ E2 ≤ 9223372036854775806 ∧ E3 ≤ 9223372036854775806 ∧ E4 ≤ 9223372036854775806) ∧
    (E1 ≠ 0 → E2 ≠ 0 → E3 / E1 = E4 / E2 → ∃ (u1 u2 n1 n2 u3 : Int) (x' : Nat), IntKind.i64.wrap (((E3 / E1 : Nat) : Int) * vc) = u1 ∧ IntKind.i64.wrap (((E3 / E1 : Nat) : Int) * vd) = u2 ∧ IntKind.i64.wrap (va - u1) = n1 ∧ IntKind.i64.wrap (vb - u2) = n2 ∧
      IntKind.i64.wrap (((E3 / E1 : Nat) : Int) * (y : Int)) = u3 ∧ IntKind.i64.wrap ((x : Int) - u3) = (x' : Int) ∧ x' < y ∧ WS s y x' vc vd n1 n2) := by
  subst hσ
  obtain ⟨k1, k2, k3, k4, k5, k6, E1, E2, E3, E4, e1, e2, e3, e4, l1, l2, l3, l4, hk⟩ := sure_round h.out
  have hs : (min (ctE s) 1 : Nat) = 0 ∨ (min (ctE s) 1 : Nat) = 1 := by omega
  have ub : ∀ z : Int, z.natAbs ≤ Mq → -4611686018427387903 ≤ ((min (ctE s) 1 : Nat) : Int) * z ∧ ((min (ctE s) 1 : Nat) : Int) * z ≤ 4611686018427387903 := by
    intro z hz
    unfold Mq at hz
    rcases hs with h | h <;> rw [h] <;> omega
  have b1 := ub vc k5; have b2 := ub vd k6; have b3 := ub va k3; have b4 := ub vb k4
  unfold Mq at k1 k2 l1 l2 l3 l4 hk k3 k4
  refine ⟨E1, E2, E3, E4, _, _, _, _, ⟨rfl, rfl, rfl, rfl⟩, ⟨?_, ?_, ?_, ?_⟩, ⟨by omega, by omega, by omega, by omega⟩, ?_⟩
  · rw [i64_in' (((min (ctE s) 1 : Nat) : Int) * vc) (by omega), e1]; exact i64_in' _ (by omega)
  · rw [i64_in' (((min (ctE s) 1 : Nat) : Int) * vd) (by omega), e2]; exact i64_in' _ (by omega)
  · rw [i64_in' (((min (ctE s) 1 : Nat) : Int) * va) (by omega), e3]; exact i64_in' _ (by omega)
  · rw [i64_in' (((min (ctE s) 1 : Nat) : Int) * vb) (by omega), e4]; exact i64_in' _ (by omega)
  · intro h1 h2 h3
    obtain ⟨g1, g2, g3, g4, g5, g6, g7⟩ := hk (E3 / E1) h1 h2 rfl h3.symm
    have ky : (((E3 / E1 : Nat) : Int) * (y : Int)) = ((E3 / E1 * y : Nat) : Int) := by rw [Int.natCast_mul]
    have e5 : IntKind.i64.wrap (((E3 / E1 : Nat) : Int) * vc) = ((E3 / E1 : Nat) : Int) * vc := i64_in' _ (by omega)
    have e6 : IntKind.i64.wrap (((E3 / E1 : Nat) : Int) * vd) = ((E3 / E1 : Nat) : Int) * vd := i64_in' _ (by omega)
    have e7 : IntKind.i64.wrap (((E3 / E1 : Nat) : Int) * (y : Int)) = ((E3 / E1 * y : Nat) : Int) := by rw [ky]; exact i64_in' _ (by omega)
    refine ⟨_, _, va - ((E3 / E1 : Nat) : Int) * vc, vb - ((E3 / E1 : Nat) : Int) * vd, _, x - E3 / E1 * y, e5, e6, i64_in' _ (by omega), i64_in' _ (by omega), e7, ?_, g2, ⟨g7⟩⟩
    have : ((x : Int) - ((E3 / E1 * y : Nat) : Int)) = ((x - E3 / E1 * y : Nat) : Int) := by omega
    rw [this]
    exact i64_in' _ (by omega)

set_option maxHeartbeats 4000000 in
set_option maxRecDepth 100000 in
theorem walk_any (s : ESt) (x0 y0 σ : Nat) (w : World) (h0 : WS s x0 y0 1 0 0 1) (hσ : σ = min (ctE s) 1) :
    Calls Tryz.prog 74 #[.int .i64 x0, .int .i64 y0, .int .i64 σ] w fun e w' => ∃ va vb vc vd, e = .returned (.agg #[.int .i64 va, .int .i64 vb, .int .i64 vc, .int .i64 vd]) ∧ (∃ x y, WS s x y va vb vc vd) ∧ Below w.heap.size w w' := by
  have H0 := Lib.hid h0
  have HS := Lib.hid hσ
  clear h0 hσ
  go_enter Tryz.func74, Tryz.ntmps74
  obtain ⟨U, eU, hU, belU, hszU⟩ := alloc1 w (Obj.cells #[Value.int IntKind.i64 0, Value.int IntKind.i64 0, Value.int IntKind.i64 0, Value.int IntKind.i64 0] 87)
  go_wp2_with (go_at_call 73; refine (noSteps_is _).mono ?_; rintro e w1 ⟨rfl, hb1⟩)
  obtain ⟨V, eV, hV, belV, hszV⟩ := alloc1 w1 (Obj.cells #[Value.int IntKind.i64 1, Value.int IntKind.i64 0, Value.int IntKind.i64 0, Value.int IntKind.i64 1] 87)
  rw [eV]
  have HU := Lib.hid (blk_to belV (blk_to hb1 hU))
  have BV := Lib.hid (below_of (below_of belU hb1) belV)
  have ST : Hid (WkO V V s w1.heap.size (.int .i64 x0) (.int .i64 y0)) := Lib.hid ⟨x0, y0, 1, 0, 0, 1, rfl, rfl, H0.out, hV, zr_start' hV⟩
  have hlt := hb1.size
  clear eU hU belU eV hV belV hszV hb1 H0
  go_loopw [0, 1] (fun x y wr => WkO V wr s w1.heap.size x y) (fun _ y _ => (intOf y).toNat)
  case atStart => exact ST.out
  case round =>
    obtain ⟨x, y, va, vb, vc, vd, rfl, rfl, hws, hR, hz⟩ := hrel
    have HW := Lib.hid hws; have HR := Lib.hid hR; have HZ := Lib.hid hz
    obtain ⟨E1, E2, E3, E4, p1, p2, p3, p4, ⟨q1, q2, q3, q4⟩, ⟨s1, s2, s3, s4⟩, ⟨l1, l2, l3, l4⟩, hst⟩ := walk_round HS.out hws
    have HST := Lib.hid hst
    obtain ⟨⟨r0, r1, r2, r3⟩, f0, f1, f2, f3⟩ := blk4' hR
    clear hws hR hz hst
    obtain ⟨⟨u0, u1, u2, u3⟩, g0, g1, g2, g3⟩ := blk4' (HZ.out.blk HU.out (by omega))
    have BE := Lib.hid (((((HZ.out.below BV.out (by omega)).setCell (p := ⟨w.heap.size, 0, none⟩) (Nat.le_refl _) (.int .i64 va)).setCell (p := ⟨w.heap.size, 1, none⟩) (Nat.le_refl _) (.int .i64 vb)).setCell (p := ⟨w.heap.size, 2, none⟩) (Nat.le_refl _) (.int .i64 vc)).setCell (p := ⟨w.heap.size, 3, none⟩) (Nat.le_refl _) (.int .i64 vd))
    have hlt : w.heap.size < wr.heap.size := (Array.getElem?_eq_some_iff.1 (HZ.out.blk HU.out (by omega))).1
    have hltR : w1.heap.size < wr.heap.size := HZ.out.lt
    by_cases h1 : E1 = 0
    · subst h1
      clear l1 l2 l3 l4 q3 q4 s3 s4
      go_wp2
      refine bodyPost_ret (v := .agg #[.int .i64 va, .int .i64 vb, .int .i64 vc, .int .i64 vd]) ?_ rfl ⟨va, vb, vc, vd, rfl, ⟨x, y, HW.out⟩, BE.out⟩
      simp [results, Tryz.results74, go_sem, *]
    · by_cases h2 : E2 = 0
      · subst h2
        have c1 : ((E1 : Int) != 0) = true := by rw [bne_iff_ne]; omega
        clear l1 l2 l3 l4 q3 q4 s3 s4
        go_wp2
        refine bodyPost_ret (v := .agg #[.int .i64 va, .int .i64 vb, .int .i64 vc, .int .i64 vd]) ?_ rfl ⟨va, vb, vc, vd, rfl, ⟨x, y, HW.out⟩, BE.out⟩
        simp [results, Tryz.results74, go_sem, *]
      · have c1 : ((E1 : Int) != 0) = true := by rw [bne_iff_ne]; omega
        have c2 : ((E2 : Int) != 0) = true := by rw [bne_iff_ne]; omega
        have d1 : wrap64 ((E3 : Int) / (E1 : Int)) = ((E3 / E1 : Nat) : Int) := quo64 (by omega) (by omega)
        have d2 : wrap64 ((E4 : Int) / (E2 : Int)) = ((E4 / E2 : Nat) : Int) := quo64 (by omega) (by omega)
        by_cases hk : E3 / E1 = E4 / E2
        · obtain ⟨v1, v2, n1, n2, v3, x', j1, j2, j3, j4, j5, j6, j7, j8⟩ := HST.out h1 h2 hk
          rw [← hk] at d2
          have J8 := Lib.hid j8; have J7 := Lib.hid j7
          obtain ⟨k, hkk⟩ : ∃ k, E3 / E1 = k := ⟨_, rfl⟩
          rw [hkk] at d1 d2 j1 j2 j5
          clear hkk hk j7 j8 l1 l2 l3 l4
          go_wp2
          go_roundw
          case rel => exact ⟨y, x', vc, vd, n1, n2, by go_num, by go_num, J8.out, blk_set4w HR.out, (((HZ.out.set).set).set).set⟩
          case measure => have := J7.out; simp [intOf]; omega
        · have c3 : (((E3 / E1 : Nat) : Int) != ((E4 / E2 : Nat) : Int)) = true := by rw [bne_iff_ne]; intro e; exact hk (Int.ofNat.inj e)
          obtain ⟨k, hkk⟩ : ∃ k, E3 / E1 = k := ⟨_, rfl⟩
          obtain ⟨k', hkk'⟩ : ∃ k, E4 / E2 = k := ⟨_, rfl⟩
          rw [hkk] at d1 c3
          rw [hkk'] at d2 c3
          clear hkk hkk' hk l1 l2 l3 l4
          go_wp2
          refine bodyPost_ret (v := .agg #[.int .i64 va, .int .i64 vb, .int .i64 vc, .int .i64 vd]) ?_ rfl ⟨va, vb, vc, vd, rfl, ⟨x, y, HW.out⟩, BE.out⟩
          simp [results, Tryz.results74, go_sem, *]
end Go.Proofs.YtfdilnfmcpbkgaaGreatDoor

/- Package whole: sureSteps. -/
namespace Go.Proofs.YtfdilnfmcpbkgaaGreatDoor
open Go.RowKit Mth

/-- the number that an answered Int is of, by its limbs -/
theorem IntR.limbs {w : World} {n : Bool} {ao : Option Addr} {k c : Nat} {z : Int} (h : IntR w (.agg #[.bool n, .slice ao k c]) z) : ∃ xs, Sl w .u64 (.slice ao k c) xs ∧ Lim B64 xs ∧ val B64 xs = z.natAbs := by
  obtain ⟨n', u, xs, e, s, l, _, rfl⟩ := h.2
  simp only [Value.agg.injEq, Array.mk.injEq, List.cons.injEq, Value.bool.injEq, and_true] at e
  obtain ⟨rfl, rfl⟩ := e
  exact ⟨xs, s, l, by rw [natAbs_sg]⟩
theorem i64_max {a b : Nat} : (max (a : Int) (b : Int)) = ((max a b : Nat) : Int) := by omega
/-- a block of twelve cells -/
theorem blk12 {w : World} {g : Nat} {x0 x1 x2 x3 x4 x5 x6 x7 x8 x9 x10 x11 : Value} {T : TypeId} (h : w.heap[g]? = some (.cells #[x0, x1, x2, x3, x4, x5, x6, x7, x8, x9, x10, x11] T (0, 0))) :
    (w.cell? ⟨g, 0, none⟩ = some x0 ∧ w.cell? ⟨g, 1, none⟩ = some x1 ∧ w.cell? ⟨g, 2, none⟩ = some x2 ∧ w.cell? ⟨g, 3, none⟩ = some x3 ∧ w.cell? ⟨g, 4, none⟩ = some x4 ∧ w.cell? ⟨g, 5, none⟩ = some x5 ∧ w.cell? ⟨g, 6, none⟩ = some x6 ∧ w.cell? ⟨g, 7, none⟩ = some x7 ∧ w.cell? ⟨g, 8, none⟩ = some x8 ∧ w.cell? ⟨g, 9, none⟩ = some x9 ∧ w.cell? ⟨g, 10, none⟩ = some x10 ∧ w.cell? ⟨g, 11, none⟩ = some x11) := by
  refine ⟨?_, ?_, ?_, ?_, ?_, ?_, ?_, ?_, ?_, ?_, ?_, ?_⟩ <;> (rw [cell_of_row w g _ _ _ (0, 0) h]; rfl)

set_option maxHeartbeats 4000000 in
set_option maxRecDepth 100000 in
theorem sure_any (s : ESt) (n0 n1 n2 n3 n4 n5 : Bool) (a0 a1 a2 a3 a4 a5 : Option Addr) (k0 c0 k1 c1 k2 c2 k3 c3 k4 c4 k5 c5 : Nat) (w : World) (h0 : IntR w (.agg #[.bool n0, .slice a0 k0 c0]) (s.p : Int)) (h3 : IntR w (.agg #[.bool n3, .slice a3 k3 c3]) (s.q : Int)) (hp : s.p < Big) (hq : s.q < Big) :
    Calls Tryz.prog 50 #[.agg #[.bool n0, .slice a0 k0 c0, .bool n1, .slice a1 k1 c1, .bool n2, .slice a2 k2 c2, .bool n3, .slice a3 k3 c3, .bool n4, .slice a4 k4 c4, .bool n5, .slice a5 k5 c5]] w fun e w' => ∃ va vb vc vd, e = .returned (.agg #[.int .i64 va, .int .i64 vb, .int .i64 vc, .int .i64 vd]) ∧ Sure s va vb vc vd ∧ Below w.heap.size w w' := by
  obtain ⟨xs, s0, l0, e0⟩ := h0.limbs
  obtain ⟨ys, s3, l3, e3⟩ := h3.limbs
  rw [Int.natAbs_natCast] at e0 e3
  have S0 := Lib.hid s0; have S3 := Lib.hid s3
  have HP := Lib.hid hp; have HQ := Lib.hid hq
  have LB := Lib.hid (bl_lnE s)
  have hln : lnE s ≤ 262144 := lnE_le hp hq
  clear h0 h3 hp hq s0 s3
  go_enter Tryz.func50, Tryz.ntmps50
  go_wp2
  obtain ⟨W, eW, hA, hU, bel, hsz⟩ := alloc2 w (Obj.cells #[Value.bool n0, Value.slice a0 k0 c0, Value.bool n1, Value.slice a1 k1 c1, Value.bool n2, Value.slice a2 k2 c2, Value.bool n3, Value.slice a3 k3 c3, Value.bool n4, Value.slice a4 k4 c4, Value.bool n5, Value.slice a5 k5 c5] 54) (Obj.cells #[Value.int IntKind.i64 0, Value.int IntKind.i64 0, Value.int IntKind.i64 0, Value.int IntKind.i64 0] 87)
  rw [eW]
  obtain ⟨y0, y1, y2, y3, y4, y5, y6, y7, y8, y9, y10, y11⟩ := blk12 hA
  have HU : Hid (W.heap[w.heap.size + 1]? = _) := Lib.hid hU
  have BW := Lib.hid bel
  have SW0 := Lib.hid (S0.out.below bel); have SW3 := Lib.hid (S3.out.below bel)
  clear eW hA hU bel y0 y2 y3 y4 y5 y6 y8 y9 y10 y11 S0 S3
  go_region
  go_wp2_with fail
  refine (len_any _ xs W.drew (by exact SW0.out) l0).mono ?_
  rintro e w1 ⟨rfl, b1⟩
  have B1 := Lib.hid (below_of BW.out.drew b1)
  have T3 := Lib.hid (Sl.below (w := W.drew) SW3.out b1)
  have T0 := Lib.hid (Sl.below (w := W.drew) SW0.out b1)
  have U1 := Lib.hid (blk_below' (w := W.drew) b1 HU.out)
  clear b1 SW3 SW0 HU
  go_wp2_with fail
  refine (len_any _ ys w1 T3.out l3).mono ?_
  rintro e w2 ⟨rfl, b2⟩
  have B2 := Lib.hid (below_of B1.out b2)
  have X3 := Lib.hid (T3.out.below b2)
  have X0 := Lib.hid (T0.out.below b2)
  have U2 := Lib.hid (blk_below' b2 U1.out)
  clear b2 T3 T0 U1
  rw [e3]
  have E0 := Lib.hid e0; have E3 := Lib.hid e3; have HL0 := Lib.hid l0; have HL3 := Lib.hid l3
  clear e0 e3 l0 l3
  have hM : max ((bl s.p : Nat) : Int) ((bl s.q : Nat) : Int) = ((lnE s : Nat) : Int) := by unfold lnE; omega
  obtain ⟨u0, u1, u2, u3⟩ := (blk4' U2.out).1
  obtain ⟨g0, g1, g2, g3⟩ := (blk4' U2.out).2
  have hR : w.heap.size ≤ w.heap.size + 1 := Nat.le_succ _
  have hlt2 : w.heap.size + 1 < w2.heap.size := (Array.getElem?_eq_some_iff.1 U2.out).1
  by_cases hbig : 262082 < lnE s
  · have hd : decide ((262082 : Int) < ((lnE s : Nat) : Int)) = true := decide_eq_true (by omega)
    obtain ⟨L, hL⟩ : ∃ L, lnE s = L := ⟨_, rfl⟩
    rw [hL] at hd hM hln hbig
    clear hL u0 u1 u2 u3 g0 g1 g2 g3
    have hng : ¬ (L : Int) ≤ 262082 := by omega
    go_wp2_with fail
    refine (noSteps_is w2).mono ?_
    rintro e w3 ⟨rfl, b3⟩
    have B3 := Lib.hid (below_of B2.out b3)
    obtain ⟨⟨u0, u1, u2, u3⟩, g0, g1, g2, g3⟩ := blk4' (blk_below' b3 U2.out)
    clear b3
    go_wp2
    refine bodyPost_ret (v := .agg #[.int .i64 1, .int .i64 0, .int .i64 0, .int .i64 1]) ?_ rfl ⟨1, 0, 0, 1, rfl, sure_no s, (((B3.out.setCell (p := ⟨w.heap.size + 1, 0, none⟩) hR _).setCell (p := ⟨w.heap.size + 1, 1, none⟩) hR _).setCell (p := ⟨w.heap.size + 1, 2, none⟩) hR _).setCell (p := ⟨w.heap.size + 1, 3, none⟩) hR _⟩
    simp [results, Tryz.results50, go_sem, *]
  · have hC : max (((lnE s : Nat) : Int) - 62) 0 = ((ctE s : Nat) : Int) := by unfold ctE; omega
    have hS : min ((ctE s : Nat) : Int) 1 = ((min (ctE s) 1 : Nat) : Int) := by omega
    have hc : ctE s ≤ 262144 := by unfold ctE; omega
    have LX := lead_of (X := s.p) (c := ctE s) (by have := LB.out.1; unfold ctE; omega)
    have LY := lead_of (X := s.q) (c := ctE s) (by have := LB.out.2; unfold ctE; omega)
    have L1 := Lib.hid (lead_any (.slice a0 k0 c0) xs (ctE s) s.p (s.p / 2 ^ ctE s) w2 X0.out HL0.out E0.out HP.out hc rfl LX.2)
    have L2 : Hid (∀ w3, Below w2.heap.size w2 w3 → Calls Tryz.prog 75 #[.slice a3 k3 c3, .int .i64 (ctE s : Nat)] w3 fun e w' => e = .returned (.int .i64 (s.q / 2 ^ ctE s : Nat)) ∧ Below w3.heap.size w3 w') := Lib.hid (fun w3 hb => lead_any (.slice a3 k3 c3) ys (ctE s) s.q (s.q / 2 ^ ctE s) w3 (X3.out.below hb) HL3.out E3.out HQ.out hc rfl LY.2)
    have WK : Hid (∀ w3, Calls Tryz.prog 74 #[.int .i64 (s.p / 2 ^ ctE s : Nat), .int .i64 (s.q / 2 ^ ctE s : Nat), .int .i64 ((min (ctE s) 1 : Nat) : Int)] w3 fun e w' => ∃ va vb vc vd, e = .returned (.agg #[.int .i64 va, .int .i64 vb, .int .i64 vc, .int .i64 vd]) ∧ Sure s va vb vc vd ∧ Below w3.heap.size w3 w') := Lib.hid (fun w3 => (walk_any s _ _ _ w3 (ws_start s) rfl).mono (by
      rintro e w' ⟨va, vb, vc, vd, rfl, ⟨x, y, h⟩, hb⟩
      exact ⟨va, vb, vc, vd, rfl, ws_sure (by unfold maxL; omega) h, hb⟩))
    clear LX LY hc
    have hng : (lnE s : Int) ≤ 262082 := by omega
    obtain ⟨L, hL⟩ : ∃ L, lnE s = L := ⟨_, rfl⟩
    obtain ⟨c, hcc⟩ : ∃ c, ctE s = c := ⟨_, rfl⟩
    obtain ⟨X, hX⟩ : ∃ X, s.p / 2 ^ ctE s = X := ⟨_, rfl⟩
    obtain ⟨Y, hY⟩ : ∃ Y, s.q / 2 ^ ctE s = Y := ⟨_, rfl⟩
    obtain ⟨σ, hσ⟩ : ∃ σ, min (ctE s) 1 = σ := ⟨_, rfl⟩
    rw [hX] at L1 WK; rw [hY] at L2 WK; rw [hσ] at hS WK
    rw [hcc] at hC hS L1 L2
    rw [hL] at hM hng hln hC
    have hw : IntKind.i64.wrap ((L : Int) - 62) = (L : Int) - 62 := by rw [IntKind.wrap_i64]; omega
    clear hL hcc hX hY hσ hbig u0 u1 u2 u3 g0 g1 g2 g3
    go_wp2_with fail
    refine L1.out.mono ?_
    rintro e w3 ⟨rfl, b3⟩
    have B3 := Lib.hid (below_of B2.out b3)
    have U3 := Lib.hid (blk_below' b3 U2.out)
    have C2 := Lib.hid (L2.out w3 b3)
    clear b3 U2 L1 L2
    go_wp2_with fail
    refine C2.out.mono ?_
    rintro e w4 ⟨rfl, b4⟩
    have B4 := Lib.hid (below_of B3.out b4)
    have U4 := Lib.hid (blk_below' b4 U3.out)
    clear b4 U3 C2
    go_wp2_with fail
    refine (WK.out w4).mono ?_
    rintro e w5 ⟨va, vb, vc, vd, rfl, hsure, b5⟩
    have B5 := Lib.hid (below_of B4.out b5)
    obtain ⟨⟨u0, u1, u2, u3⟩, g0, g1, g2, g3⟩ := blk4' (blk_below' b5 U4.out)
    have hlt5 := (Array.getElem?_eq_some_iff.1 (blk_below' b5 U4.out)).1
    have HSU := Lib.hid hsure
    clear b5 hsure
    go_wp2
    refine bodyPost_ret (v := .agg #[.int .i64 va, .int .i64 vb, .int .i64 vc, .int .i64 vd]) ?_ rfl ⟨va, vb, vc, vd, rfl, HSU.out, (((B5.out.setCell (p := ⟨w.heap.size + 1, 0, none⟩) hR _).setCell (p := ⟨w.heap.size + 1, 1, none⟩) hR _).setCell (p := ⟨w.heap.size + 1, 2, none⟩) hR _).setCell (p := ⟨w.heap.size + 1, 3, none⟩) hR _⟩
    simp [results, Tryz.results50, go_sem, *]
end Go.Proofs.YtfdilnfmcpbkgaaGreatDoor

/- Package whole: mixed. -/
namespace Go.Proofs.YtfdilnfmcpbkgaaGreatDoor
open Go.RowKit Mth

theorem intr_allocz {w : World} {v : Value} {z : Int} {o : Obj} (h : IntR w v z) : IntR (w.alloc o) v z := h.below ((Below.refl _ _).alloc (Nat.le_refl _) _)
theorem intr_set2z {w : World} {v y0 y1 : Value} {z : Int} {R : Nat} (h : IntR w v z) (hR : w.heap[R]? = some (.cells #[.bool false, .slice none 0 0] 25 (0, 0))) : IntR ((w.setCell ⟨R, 0, none⟩ y0).setCell ⟨R, 1, none⟩ y1) v z := h.far hR
/-- cells of which none is an integer -/
def NoInt (cs : Array Value) : Prop := ∀ (i : Nat) (k : IntKind) (n : Int), cs[i]? ≠ some (.int k n)
theorem noint6 (n0 n1 n2 : Bool) (a0 : Option Addr) (k0 c0 : Nat) (a1 : Option Addr) (k1 c1 : Nat) (a2 : Option Addr) (k2 c2 : Nat) : NoInt #[.bool n0, .slice a0 k0 c0, .bool n1, .slice a1 k1 c1, .bool n2, .slice a2 k2 c2] := by
  intro i k n
  rcases i with _ | _ | _ | _ | _ | _ | i <;> simp
theorem noint2 (n0 : Bool) (a0 : Option Addr) (k0 c0 : Nat) : NoInt #[.bool n0, .slice a0 k0 c0] := by
  intro i k n
  rcases i with _ | _ | i <;> simp
/-- an Int whose limbs lie in another block -/
def NotIn (v : Value) (R : Nat) : Prop := ∀ (n : Bool) (b off len cap : Nat), v = .agg #[.bool n, .slice (some ⟨b, off, none⟩) len cap] → 0 < len → b ≠ R
theorem IntR.notIn {w : World} {v : Value} {z : Int} {R : Nat} {cs : Array Value} {T : TypeId} (h : IntR w v z) (hR : w.heap[R]? = some (.cells cs T (0, 0))) (hn : NoInt cs) : NotIn v R := by
  rintro n b off len cap rfl hp rfl
  obtain ⟨n', u, xs, e, ⟨ao', cap', e', _, _, _, _, h5⟩, _⟩ := h.2
  simp only [Value.agg.injEq, Array.mk.injEq, List.cons.injEq, Value.bool.injEq, and_true] at e
  obtain ⟨_, rfl⟩ := e
  simp only [Value.slice.injEq] at e'
  obtain ⟨rfl, rfl, _⟩ := e'
  obtain ⟨b', off', e2, _, hc⟩ := h5 hp
  simp only [Option.some.injEq, Addr.mk.injEq] at e2
  obtain ⟨rfl, rfl, _⟩ := e2
  have := hc 0 hp
  rw [cell_of_row w b _ _ _ (0, 0) hR] at this
  exact hn _ _ _ this
theorem IntR.setNe {w : World} {v y : Value} {z : Int} {R j : Nat} (h : IntR w v z) (hn : NotIn v R) : IntR (w.setCell ⟨R, j, none⟩ y) v z := by
  obtain ⟨⟨u, rfl, ys, h1, h2⟩, n', u', xs, e, h3, h4⟩ := h
  simp only [Value.agg.injEq, Array.mk.injEq, List.cons.injEq, Value.bool.injEq, and_true] at e
  obtain ⟨rfl, rfl⟩ := e
  exact ⟨⟨u, rfl, ys, h1.set_far (fun b off cap e hp => hn _ _ _ _ _ (by rw [e]) hp), h2⟩, _, u, xs, rfl, h3.set_far (fun b off cap e hp => hn _ _ _ _ _ (by rw [e]) hp), h4⟩
theorem set6 {w : World} {v y0 y1 y2 y3 y4 y5 : Value} {z : Int} {R : Nat} (h : IntR w v z) (hn : NotIn v R) : IntR ((((((w.setCell ⟨R, 0, none⟩ y0).setCell ⟨R, 1, none⟩ y1).setCell ⟨R, 2, none⟩ y2).setCell ⟨R, 3, none⟩ y3).setCell ⟨R, 4, none⟩ y4).setCell ⟨R, 5, none⟩ y5) v z :=
  (((((h.setNe hn).setNe hn).setNe hn).setNe hn).setNe hn).setNe hn
/-- a box of an Int that was answered -/
def UiO (W wx : World) (z : Int) (s : Value) : Prop := ∃ (g : Nat) (n : Bool) (a : Option Addr) (k c : Nat), s = .pointer (some ⟨g, 0, none⟩) ∧ wx.heap[g]? = some (.cells #[.bool n, .slice a k c] 25 (0, 0)) ∧ IntR wx (.agg #[.bool n, .slice a k c]) z ∧ Below W.heap.size W wx
/-- a row of three Ints in a block -/
def Row3 (w : World) (R : Nat) (z0 z1 z2 : Int) (k : Nat) : Prop := ∃ (n0 : Bool) (a0 : Option Addr) (k0 c0 : Nat) (n1 : Bool) (a1 : Option Addr) (k1 c1 : Nat) (n2 : Bool) (a2 : Option Addr) (k2 c2 : Nat),
  w.heap[R]? = some (.cells #[.bool n0, .slice a0 k0 c0, .bool n1, .slice a1 k1 c1, .bool n2, .slice a2 k2 c2] 52 (0, 0)) ∧ (1 ≤ k → IntR w (.agg #[.bool n0, .slice a0 k0 c0]) z0) ∧ (2 ≤ k → IntR w (.agg #[.bool n1, .slice a1 k1 c1]) z1) ∧ (3 ≤ k → IntR w (.agg #[.bool n2, .slice a2 k2 c2]) z2)
def MxO (W wr : World) (R : Nat) (z0 z1 z2 : Int) (i : Value) : Prop := ∃ k : Nat, i = .int .i64 k ∧ k ≤ 3 ∧ Row3 wr R z0 z1 z2 k ∧ Zr W wr R 52 6
theorem blk6 {w : World} {g : Nat} {x0 x1 x2 x3 x4 x5 : Value} {T : TypeId} (h : w.heap[g]? = some (.cells #[x0, x1, x2, x3, x4, x5] T (0, 0))) :
    (w.cell? ⟨g, 0, none⟩ = some x0 ∧ w.cell? ⟨g, 1, none⟩ = some x1 ∧ w.cell? ⟨g, 2, none⟩ = some x2 ∧ w.cell? ⟨g, 3, none⟩ = some x3 ∧ w.cell? ⟨g, 4, none⟩ = some x4 ∧ w.cell? ⟨g, 5, none⟩ = some x5) ∧
    (w.frozen? ⟨g, 0, none⟩ = false ∧ w.frozen? ⟨g, 1, none⟩ = false ∧ w.frozen? ⟨g, 2, none⟩ = false ∧ w.frozen? ⟨g, 3, none⟩ = false ∧ w.frozen? ⟨g, 4, none⟩ = false ∧ w.frozen? ⟨g, 5, none⟩ = false) := by
  refine ⟨⟨?_, ?_, ?_, ?_, ?_, ?_⟩, frozen_of_row w g 0 _ _ h, frozen_of_row w g 1 _ _ h, frozen_of_row w g 2 _ _ h, frozen_of_row w g 3 _ _ h, frozen_of_row w g 4 _ _ h, frozen_of_row w g 5 _ _ h⟩ <;> (rw [cell_of_row w g _ _ _ (0, 0) h]; rfl)
theorem alloc5 (w : World) (o1 o2 o3 o4 o5 : Obj) : ∃ W, ((((w.alloc o1).alloc o2).alloc o3).alloc o4).alloc o5 = W ∧ W.heap[w.heap.size]? = some o1 ∧ W.heap[w.heap.size + 1]? = some o2 ∧ W.heap[w.heap.size + 1 + 1]? = some o3 ∧ W.heap[w.heap.size + 1 + 1 + 1]? = some o4 ∧ W.heap[w.heap.size + 1 + 1 + 1 + 1]? = some o5 ∧ Below w.heap.size w W ∧ w.heap.size + 1 + 1 + 1 + 1 < W.heap.size := by
  obtain ⟨W, rfl, h1, h2, h3, h4, h5, h6⟩ := alloc4 w o1 o2 o3 o4
  have hb : Below ((((w.alloc o1).alloc o2).alloc o3).alloc o4).heap.size ((((w.alloc o1).alloc o2).alloc o3).alloc o4) (((((w.alloc o1).alloc o2).alloc o3).alloc o4).alloc o5) := (Below.refl _ _).alloc (Nat.le_refl _) _
  have e : ((((w.alloc o1).alloc o2).alloc o3).alloc o4).heap.size = w.heap.size + 1 + 1 + 1 + 1 := by simp
  refine ⟨_, rfl, blk_below' hb h1, blk_below' hb h2, blk_below' hb h3, blk_below' hb h4, ?_, below_of h5 hb, by simp⟩
  have h := heap_alloc_new ((((w.alloc o1).alloc o2).alloc o3).alloc o4) o5
  rw [e] at h; exact h

set_option maxHeartbeats 16000000 in
set_option maxRecDepth 100000 in
theorem mixed_any (n0 n1 n2 n3 n4 n5 : Bool) (a0 a1 a2 a3 a4 a5 : Option Addr) (k0 c0 k1 c1 k2 c2 k3 c3 k4 c4 k5 c5 : Nat) (nx ny : Bool) (ax ay : Option Addr) (kx cx ky cy : Nat) (f0 f1 f2 g0 g1 g2 x y z0 z1 z2 : Int) (w : World)
    (hx : IntR w (.agg #[.bool nx, .slice ax kx cx]) x) (hy : IntR w (.agg #[.bool ny, .slice ay ky cy]) y)
    (h0 : IntR w (.agg #[.bool n0, .slice a0 k0 c0]) f0) (h1 : IntR w (.agg #[.bool n1, .slice a1 k1 c1]) f1) (h2 : IntR w (.agg #[.bool n2, .slice a2 k2 c2]) f2) (h3 : IntR w (.agg #[.bool n3, .slice a3 k3 c3]) g0) (h4 : IntR w (.agg #[.bool n4, .slice a4 k4 c4]) g1) (h5 : IntR w (.agg #[.bool n5, .slice a5 k5 c5]) g2)
    (m0 : Mx Big x y f0 g0 z0) (m1 : Mx Big x y f1 g1 z1) (m2 : Mx Big x y f2 g2 z2) :
    Calls Tryz.prog 52 #[.agg #[.bool n0, .slice a0 k0 c0, .bool n1, .slice a1 k1 c1, .bool n2, .slice a2 k2 c2, .bool n3, .slice a3 k3 c3, .bool n4, .slice a4 k4 c4, .bool n5, .slice a5 k5 c5], .agg #[.bool nx, .slice ax kx cx], .agg #[.bool ny, .slice ay ky cy]] w fun e w' => ∃ n0 a0 k0 c0 n1 a1 k1 c1 n2 a2 k2 c2, e = .returned (.agg #[.bool n0, .slice a0 k0 c0, .bool n1, .slice a1 k1 c1, .bool n2, .slice a2 k2 c2]) ∧
      IntR w' (.agg #[.bool n0, .slice a0 k0 c0]) z0 ∧ IntR w' (.agg #[.bool n1, .slice a1 k1 c1]) z1 ∧ IntR w' (.agg #[.bool n2, .slice a2 k2 c2]) z2 ∧ Below w.heap.size w w' := by
  have MU0 : Hid (∀ w1, Below w.heap.size w w1 → Calls Tryz.prog 11 #[.agg #[.bool nx, .slice ax kx cx], .agg #[.bool n0, .slice a0 k0 c0]] w1 fun e w' => Res1 w1 w' e (x * f0)) := Lib.hid (fun w1 hb => mulF _ _ x f0 w1 (hx.below hb).2 (h0.below hb).2 m0.up)
  have MU1 : Hid (∀ w1, Below w.heap.size w w1 → Calls Tryz.prog 11 #[.agg #[.bool nx, .slice ax kx cx], .agg #[.bool n1, .slice a1 k1 c1]] w1 fun e w' => Res1 w1 w' e (x * f1)) := Lib.hid (fun w1 hb => mulF _ _ x f1 w1 (hx.below hb).2 (h1.below hb).2 m1.up)
  have MU2 : Hid (∀ w1, Below w.heap.size w w1 → Calls Tryz.prog 11 #[.agg #[.bool nx, .slice ax kx cx], .agg #[.bool n2, .slice a2 k2 c2]] w1 fun e w' => Res1 w1 w' e (x * f2)) := Lib.hid (fun w1 hb => mulF _ _ x f2 w1 (hx.below hb).2 (h2.below hb).2 m2.up)
  have MD0 : Hid (∀ w1, Below w.heap.size w w1 → Calls Tryz.prog 11 #[.agg #[.bool ny, .slice ay ky cy], .agg #[.bool n3, .slice a3 k3 c3]] w1 fun e w' => Res1 w1 w' e (y * g0)) := Lib.hid (fun w1 hb => mulF _ _ y g0 w1 (hy.below hb).2 (h3.below hb).2 m0.dn)
  have MD1 : Hid (∀ w1, Below w.heap.size w w1 → Calls Tryz.prog 11 #[.agg #[.bool ny, .slice ay ky cy], .agg #[.bool n4, .slice a4 k4 c4]] w1 fun e w' => Res1 w1 w' e (y * g1)) := Lib.hid (fun w1 hb => mulF _ _ y g1 w1 (hy.below hb).2 (h4.below hb).2 m1.dn)
  have MD2 : Hid (∀ w1, Below w.heap.size w w1 → Calls Tryz.prog 11 #[.agg #[.bool ny, .slice ay ky cy], .agg #[.bool n5, .slice a5 k5 c5]] w1 fun e w' => Res1 w1 w' e (y * g2)) := Lib.hid (fun w1 hb => mulF _ _ y g2 w1 (hy.below hb).2 (h5.below hb).2 m2.dn)
  have AD0 : Hid (∀ va vb w1, IntR w1 va (x * f0) → IntR w1 vb (y * g0) → Calls Tryz.prog 12 #[va, vb] w1 fun e w' => Res1 w1 w' e z0) := Lib.hid (fun va vb w1 ha hb => by have := addF va vb (x * f0) (y * g0) w1 ha.2 hb.2 (by rw [m0.sm]; exact m0.sn); rw [m0.sm] at this; exact this)
  have AD1 : Hid (∀ va vb w1, IntR w1 va (x * f1) → IntR w1 vb (y * g1) → Calls Tryz.prog 12 #[va, vb] w1 fun e w' => Res1 w1 w' e z1) := Lib.hid (fun va vb w1 ha hb => by have := addF va vb (x * f1) (y * g1) w1 ha.2 hb.2 (by rw [m1.sm]; exact m1.sn); rw [m1.sm] at this; exact this)
  have AD2 : Hid (∀ va vb w1, IntR w1 va (x * f2) → IntR w1 vb (y * g2) → Calls Tryz.prog 12 #[va, vb] w1 fun e w' => Res1 w1 w' e z2) := Lib.hid (fun va vb w1 ha hb => by have := addF va vb (x * f2) (y * g2) w1 ha.2 hb.2 (by rw [m2.sm]; exact m2.sn); rw [m2.sm] at this; exact this)

  clear hx hy h0 h1 h2 h3 h4 h5 m0 m1 m2
  go_enter Tryz.func52, Tryz.ntmps52
  go_wp2
  obtain ⟨W, eW, hA, hX, hY, hR, hM, bel, hsz⟩ := alloc5 w (Obj.cells #[Value.bool n0, Value.slice a0 k0 c0, Value.bool n1, Value.slice a1 k1 c1, Value.bool n2, Value.slice a2 k2 c2, Value.bool n3, Value.slice a3 k3 c3, Value.bool n4, Value.slice a4 k4 c4, Value.bool n5, Value.slice a5 k5 c5] 54) (Obj.cells #[Value.bool nx, Value.slice ax kx cx] 25) (Obj.cells #[Value.bool ny, Value.slice ay ky cy] 25) (Obj.cells #[Value.bool false, Value.slice none 0 0, Value.bool false, Value.slice none 0 0, Value.bool false, Value.slice none 0 0] 52) (Obj.cells #[Value.bool false, Value.slice none 0 0, Value.bool false, Value.slice none 0 0, Value.bool false, Value.slice none 0 0] 52)
  rw [eW]
  have HA := Lib.hid hA; have HX := Lib.hid hX; have HY := Lib.hid hY; have HR := Lib.hid hR; have BW := Lib.hid bel
  have ST : Hid (MxO W W (w.heap.size + 1 + 1 + 1 + 1) z0 z1 z2 (.int .i64 (0 : Nat))) := Lib.hid ⟨0, rfl, by omega, ⟨_, _, _, _, _, _, _, _, _, _, _, _, hM, (fun h => by omega), (fun h => by omega), (fun h => by omega)⟩, zr_start' hM⟩
  clear eW hA hX hY hR hM bel
  go_loopw [13] (fun i wr => MxO W wr (w.heap.size + 1 + 1 + 1 + 1) z0 z1 z2 i) (fun i _ => 3 - (intOf i).toNat)
  case atStart => exact ST.out
  case round =>
    obtain ⟨k, rfl, hk, ⟨p0, b0, i0, j0, p1, b1, i1, j1, p2, b2, i2, j2, hM, d0, d1, d2⟩, hz⟩ := hrel
    have hszr : W.heap.size ≤ wr.heap.size := by obtain ⟨⟨_, _, _, h, _⟩, _⟩ := hz; exact h
    have HM := Lib.hid hM; have HZ := Lib.hid hz
    have HA2 := Lib.hid (hz.blk HA.out (by omega)); have HX2 := Lib.hid (hz.blk HX.out (by omega)); have HY2 := Lib.hid (hz.blk HY.out (by omega)); have HR2 := Lib.hid (hz.blk HR.out (by omega))
    have BR := Lib.hid (hz.below BW.out (by omega))
    have D0 := Lib.hid d0; have D1 := Lib.hid d1; have D2 := Lib.hid d2
    clear hM hz d0 d1 d2
    obtain rfl | rfl | rfl | rfl : k = 0 ∨ k = 1 ∨ k = 2 ∨ k = 3 := by omega
    · -- 0
      obtain ⟨y0, y1, _, _, _⟩ := blk2 HX2.out
      obtain ⟨q0, q1, q2, q3, q4, q5, q6, q7, q8, q9, q10, q11⟩ := blk12 HA2.out
      have hw0 : (w.heap.size + 1) < wr.heap.size := (Array.getElem?_eq_some_iff.1 HX2.out).1
      have hw1 : w.heap.size < wr.heap.size := (Array.getElem?_eq_some_iff.1 HA2.out).1
      have STAY : Hid (∀ w', Below wr.heap.size wr w' → w'.cell? ⟨w.heap.size + 1, 0, none⟩ = some (.bool nx) ∧ w'.cell? ⟨w.heap.size + 1, 1, none⟩ = some (.slice ax kx cx) ∧ w'.cell? ⟨w.heap.size, 0, none⟩ = some (.bool n0) ∧ w'.cell? ⟨w.heap.size, 1, none⟩ = some (.slice a0 k0 c0) ∧ Below wr.heap.size wr w' ∧ wr.heap.size ≤ w'.heap.size) :=
        Lib.hid (fun w' h => ⟨cell_to h y0 hw0, cell_to h y1 hw0, cell_to h q0 hw1, cell_to h q1 hw1, h, h.size⟩)
      have MUL : Hid (∀ w1, Below wr.heap.size wr w1 → Calls Tryz.prog 11 #[.agg #[.bool nx, .slice ax kx cx], .agg #[.bool n0, .slice a0 k0 c0]] w1 fun e w' => Res1 w1 w' e (x * f0)) := Lib.hid (fun w1 h => MU0.out w1 (below_of BR.out h))
      have hB0 := (Below.refl wr.heap.size wr).drew
      clear y0 y1 q0 q1 q2 q3 q4 q5 q6 q7 q8 q9 q10 q11
      go_wp2_with fail
      go_cut [9] (fun s wx => UiO wr wx (x * f0) s)
      case first =>
        go_region_held3 (fun w' => w'.cell? ⟨w.heap.size + 1, 0, none⟩ = some (.bool nx) ∧ w'.cell? ⟨w.heap.size + 1, 1, none⟩ = some (.slice ax kx cx) ∧ w'.cell? ⟨w.heap.size, 0, none⟩ = some (.bool n0) ∧ w'.cell? ⟨w.heap.size, 1, none⟩ = some (.slice a0 k0 c0) ∧ Below wr.heap.size wr w' ∧ wr.heap.size ≤ w'.heap.size)
          (((try go_split_ands); refine STAY.out _ ?_; repeat (first | assumption | exact Below.refl _ _ | (with_reducible refine Below.drew ?_) | exact below_to (by assumption) (by assumption) | ((with_reducible refine Below.alloc ?_ ?_ _); rotate_left; (focus (first | omega | (simp; done) | (simp; omega)))) | ((with_reducible refine Below.setCell ?_ ?_ _); rotate_left; (focus (first | omega | (simp; done) | (simp; omega)))))))
          (first
          | (go_at_call 11; go_split_ands; (refine Calls.mono (MUL.out _ (by assumption)) ?_; rintro e w4 ⟨m4, d4, l4, e4, rfl, z4, hb4⟩; have hk4 := below_to hb4 (by assumption); have hz4 := hk4.size; obtain ⟨hc4, hf4⟩ := bcell hb4; have hy4 := hb4.size; (try simp only [sz_alloc, sz_set, sz_drew] at hy4); (try (have hq4 : wr.heap.size < w4.heap.size := by omega)))))
        all_goals
          (go_wp2_with fail
           go_meet
           clear hc4 hf4
           refine ⟨_, m4, d4, l4, e4, rfl, ?_, ?_, ?_⟩)
        all_goals
          repeat (first
             | (with_reducible assumption)
             | ((with_reducible refine blk_newz ?_); (first | omega | (simp only [sz_alloc, sz_set, sz_drew]; omega) | (focus (simp only [sz_alloc, sz_set, sz_drew]; done))))
             | ((with_reducible refine blk_ltz ?_ ?_); (first | omega | (simp only [sz_alloc, sz_set, sz_drew]; omega) | (focus (simp only [sz_alloc, sz_set, sz_drew]; done))))
             | (with_reducible refine blk_own2z ?_)
             | ((with_reducible refine blk_twoz ?_ ?_); (first | omega | (simp only [sz_alloc, sz_set, sz_drew]; omega) | (focus (simp only [sz_alloc, sz_set, sz_drew]; done))))
             | (with_reducible refine blk_drew ?_)
             | ((with_reducible refine blk_below hb4 ?_ ?_); (first | omega | (simp only [sz_alloc, sz_set, sz_drew]; omega) | (focus (simp only [sz_alloc, sz_set, sz_drew]; done))))
             | (with_reducible refine intr_allocz ?_)
             | (with_reducible refine intr_set2z ?_ ?_)
             | ((with_reducible refine Below.alloc ?_ ?_ _); rotate_left; (focus (first | omega | (simp; done) | (simp; omega))))
             | ((with_reducible refine Below.setCell ?_ ?_ _); rotate_left; (focus (first | omega | (simp; done) | (simp; omega))))
             | (first | omega | (simp only [sz_alloc, sz_set, sz_drew]; omega) | (focus (simp only [sz_alloc, sz_set, sz_drew]; done))))
      case rest =>
        obtain ⟨gb1, m15, d15, l15, e15, rfl, hG1, zz1, hb1⟩ := hcut
        generalize wc = wa at *
        have HG1 := Lib.hid hG1; have ZZ1 := Lib.hid zz1
        have HY3 := Lib.hid (blk_below' hb1 HY2.out); have HA3 := Lib.hid (blk_below' hb1 HA2.out); have HR3 := Lib.hid (blk_below' hb1 HR2.out); have HM3 := Lib.hid (blk_below' hb1 HM.out)
        have BR3 := Lib.hid (below_of BR.out hb1); have HZ3 := Lib.hid (HZ.out.call hb1)
        have E0 : Hid (1 ≤ 0 → IntR wa (.agg #[.bool p0, .slice b0 i0 j0]) z0) := Lib.hid (fun h => (D0.out h).below hb1); have E1 : Hid (2 ≤ 0 → IntR wa (.agg #[.bool p1, .slice b1 i1 j1]) z1) := Lib.hid (fun h => (D1.out h).below hb1); have E2 : Hid (3 ≤ 0 → IntR wa (.agg #[.bool p2, .slice b2 i2 j2]) z2) := Lib.hid (fun h => (D2.out h).below hb1)
        clear hG1 zz1 hb1 HX2 HA2 HY2 HR2 HM BR HZ D0 D1 D2 STAY MUL hB0 hw0 hw1
        obtain ⟨y0, y1, _, _, _⟩ := blk2 HY3.out
        obtain ⟨q0, q1, q2, q3, q4, q5, q6, q7, q8, q9, q10, q11⟩ := blk12 HA3.out
        have hw0 : (w.heap.size + 1 + 1) < wa.heap.size := (Array.getElem?_eq_some_iff.1 HY3.out).1
        have hw1 : w.heap.size < wa.heap.size := (Array.getElem?_eq_some_iff.1 HA3.out).1
        have STAY : Hid (∀ w', Below wa.heap.size wa w' → w'.cell? ⟨w.heap.size + 1 + 1, 0, none⟩ = some (.bool ny) ∧ w'.cell? ⟨w.heap.size + 1 + 1, 1, none⟩ = some (.slice ay ky cy) ∧ w'.cell? ⟨w.heap.size, 6, none⟩ = some (.bool n3) ∧ w'.cell? ⟨w.heap.size, 7, none⟩ = some (.slice a3 k3 c3) ∧ Below wa.heap.size wa w' ∧ wa.heap.size ≤ w'.heap.size) :=
          Lib.hid (fun w' h => ⟨cell_to h y0 hw0, cell_to h y1 hw0, cell_to h q6 hw1, cell_to h q7 hw1, h, h.size⟩)
        have MUL : Hid (∀ w1, Below wa.heap.size wa w1 → Calls Tryz.prog 11 #[.agg #[.bool ny, .slice ay ky cy], .agg #[.bool n3, .slice a3 k3 c3]] w1 fun e w' => Res1 w1 w' e (y * g0)) := Lib.hid (fun w1 h => MD0.out w1 (below_of BR3.out h))
        have hB0 := (Below.refl wa.heap.size wa).drew
        clear y0 y1 q0 q1 q2 q3 q4 q5 q6 q7 q8 q9 q10 q11
        go_wp2_with fail
        go_cut [11] (fun s wx => UiO wa wx (y * g0) s)
        case first =>
          go_region_held3 (fun w' => w'.cell? ⟨w.heap.size + 1 + 1, 0, none⟩ = some (.bool ny) ∧ w'.cell? ⟨w.heap.size + 1 + 1, 1, none⟩ = some (.slice ay ky cy) ∧ w'.cell? ⟨w.heap.size, 6, none⟩ = some (.bool n3) ∧ w'.cell? ⟨w.heap.size, 7, none⟩ = some (.slice a3 k3 c3) ∧ Below wa.heap.size wa w' ∧ wa.heap.size ≤ w'.heap.size)
            (((try go_split_ands); refine STAY.out _ ?_; repeat (first | assumption | exact Below.refl _ _ | (with_reducible refine Below.drew ?_) | exact below_to (by assumption) (by assumption) | ((with_reducible refine Below.alloc ?_ ?_ _); rotate_left; (focus (first | omega | (simp; done) | (simp; omega)))) | ((with_reducible refine Below.setCell ?_ ?_ _); rotate_left; (focus (first | omega | (simp; done) | (simp; omega)))))))
            (first
            | (go_at_call 11; go_split_ands; (refine Calls.mono (MUL.out _ (by assumption)) ?_; rintro e w4 ⟨m4, d4, l4, e4, rfl, z4, hb4⟩; have hk4 := below_to hb4 (by assumption); have hz4 := hk4.size; obtain ⟨hc4, hf4⟩ := bcell hb4; have hy4 := hb4.size; (try simp only [sz_alloc, sz_set, sz_drew] at hy4); (try (have hq4 : wa.heap.size < w4.heap.size := by omega)))))
          all_goals
            (go_wp2_with fail
             go_meet
             clear hc4 hf4
             refine ⟨_, m4, d4, l4, e4, rfl, ?_, ?_, ?_⟩)
          all_goals
            repeat (first
               | (with_reducible assumption)
               | ((with_reducible refine blk_newz ?_); (first | omega | (simp only [sz_alloc, sz_set, sz_drew]; omega) | (focus (simp only [sz_alloc, sz_set, sz_drew]; done))))
               | ((with_reducible refine blk_ltz ?_ ?_); (first | omega | (simp only [sz_alloc, sz_set, sz_drew]; omega) | (focus (simp only [sz_alloc, sz_set, sz_drew]; done))))
               | (with_reducible refine blk_own2z ?_)
               | ((with_reducible refine blk_twoz ?_ ?_); (first | omega | (simp only [sz_alloc, sz_set, sz_drew]; omega) | (focus (simp only [sz_alloc, sz_set, sz_drew]; done))))
               | (with_reducible refine blk_drew ?_)
               | ((with_reducible refine blk_below hb4 ?_ ?_); (first | omega | (simp only [sz_alloc, sz_set, sz_drew]; omega) | (focus (simp only [sz_alloc, sz_set, sz_drew]; done))))
               | (with_reducible refine intr_allocz ?_)
               | (with_reducible refine intr_set2z ?_ ?_)
               | ((with_reducible refine Below.alloc ?_ ?_ _); rotate_left; (focus (first | omega | (simp; done) | (simp; omega))))
               | ((with_reducible refine Below.setCell ?_ ?_ _); rotate_left; (focus (first | omega | (simp; done) | (simp; omega))))
               | (first | omega | (simp only [sz_alloc, sz_set, sz_drew]; omega) | (focus (simp only [sz_alloc, sz_set, sz_drew]; done))))
        case rest =>
          obtain ⟨gb2, m25, d25, l25, e25, rfl, hG2, zz2, hb2⟩ := hcut
          generalize wc = wb at *
          have HG2 := Lib.hid hG2; have ZZ2 := Lib.hid zz2
          have HG1' := Lib.hid (blk_below' hb2 HG1.out); have ZZ1' := Lib.hid (ZZ1.out.below hb2)
          have HR4 := Lib.hid (blk_below' hb2 HR3.out); have HM4 := Lib.hid (blk_below' hb2 HM3.out)
          have BR4 := Lib.hid (below_of BR3.out hb2); have HZ4 := Lib.hid (HZ3.out.call hb2)
          have F0 : Hid (1 ≤ 0 → IntR wb (.agg #[.bool p0, .slice b0 i0 j0]) z0) := Lib.hid (fun h => (E0.out h).below hb2); have F1 : Hid (2 ≤ 0 → IntR wb (.agg #[.bool p1, .slice b1 i1 j1]) z1) := Lib.hid (fun h => (E1.out h).below hb2); have F2 : Hid (3 ≤ 0 → IntR wb (.agg #[.bool p2, .slice b2 i2 j2]) z2) := Lib.hid (fun h => (E2.out h).below hb2)
          clear hG2 zz2 hb2 HG1 ZZ1 HA3 HY3 HR3 HM3 BR3 HZ3 E0 E1 E2 STAY MUL hB0 hw0 hw1
          obtain ⟨y0, y1, _, _, _⟩ := blk2 HG1'.out
          obtain ⟨y2, y3, _, _, _⟩ := blk2 HG2.out
          go_wp2_with fail
          refine (AD0.out _ _ wb ZZ1'.out ZZ2.out).mono ?_
          rintro e w6 ⟨m6, d6, l6, e6, rfl, z6, hb6⟩
          have HM5 := Lib.hid (blk_below' hb6 HM4.out); have HZ5 := Lib.hid (HZ4.out.call hb6)
          have Z6 := Lib.hid z6
          have G0 : Hid (1 ≤ 0 → IntR w6 (.agg #[.bool p0, .slice b0 i0 j0]) z0) := Lib.hid (fun h => (F0.out h).below hb6); have G1 : Hid (2 ≤ 0 → IntR w6 (.agg #[.bool p1, .slice b1 i1 j1]) z1) := Lib.hid (fun h => (F1.out h).below hb6); have G2 : Hid (3 ≤ 0 → IntR w6 (.agg #[.bool p2, .slice b2 i2 j2]) z2) := Lib.hid (fun h => (F2.out h).below hb6)
          have NI : Hid (∀ (v : Value) (z : Int), IntR w6 v z → NotIn v (w.heap.size + 1 + 1 + 1 + 1)) := Lib.hid (fun v z h => h.notIn HM5.out (noint6 _ _ _ _ _ _ _ _ _ _ _ _))
          obtain ⟨⟨r0, r1, r2, r3, r4, r5⟩, s0, s1, s2, s3, s4, s5⟩ := blk6 HM5.out
          have hltM := (Array.getElem?_eq_some_iff.1 HM5.out).1
          clear z6 hb6 y0 y1 y2 y3 HG1' ZZ1' HG2 ZZ2 HM4 HZ4 F0 F1 F2 BR4 HR4
          go_wp2
          go_roundw
          case rel => exact ⟨1, by go_num, by omega, ⟨_, _, _, _, _, _, _, _, _, _, _, _, blk_seti (ds := #[.bool m6, .slice d6 l6 e6, .bool p1, .slice b1 i1 j1, .bool p2, .slice b2 i2 j2]) (blk_seti HM5.out rfl) rfl, (fun _ => (Z6.out.setNe (NI.out _ _ Z6.out)).setNe (NI.out _ _ Z6.out)), (fun h => by omega), (fun h => by omega)⟩, (HZ5.out.set).set⟩
          case measure => simp [intOf]

    · -- 1
      obtain ⟨y0, y1, _, _, _⟩ := blk2 HX2.out
      obtain ⟨q0, q1, q2, q3, q4, q5, q6, q7, q8, q9, q10, q11⟩ := blk12 HA2.out
      have hw0 : (w.heap.size + 1) < wr.heap.size := (Array.getElem?_eq_some_iff.1 HX2.out).1
      have hw1 : w.heap.size < wr.heap.size := (Array.getElem?_eq_some_iff.1 HA2.out).1
      have STAY : Hid (∀ w', Below wr.heap.size wr w' → w'.cell? ⟨w.heap.size + 1, 0, none⟩ = some (.bool nx) ∧ w'.cell? ⟨w.heap.size + 1, 1, none⟩ = some (.slice ax kx cx) ∧ w'.cell? ⟨w.heap.size, 2, none⟩ = some (.bool n1) ∧ w'.cell? ⟨w.heap.size, 3, none⟩ = some (.slice a1 k1 c1) ∧ Below wr.heap.size wr w' ∧ wr.heap.size ≤ w'.heap.size) :=
        Lib.hid (fun w' h => ⟨cell_to h y0 hw0, cell_to h y1 hw0, cell_to h q2 hw1, cell_to h q3 hw1, h, h.size⟩)
      have MUL : Hid (∀ w1, Below wr.heap.size wr w1 → Calls Tryz.prog 11 #[.agg #[.bool nx, .slice ax kx cx], .agg #[.bool n1, .slice a1 k1 c1]] w1 fun e w' => Res1 w1 w' e (x * f1)) := Lib.hid (fun w1 h => MU1.out w1 (below_of BR.out h))
      have hB0 := (Below.refl wr.heap.size wr).drew
      clear y0 y1 q0 q1 q2 q3 q4 q5 q6 q7 q8 q9 q10 q11
      go_wp2_with fail
      go_cut [9] (fun s wx => UiO wr wx (x * f1) s)
      case first =>
        go_region_held3 (fun w' => w'.cell? ⟨w.heap.size + 1, 0, none⟩ = some (.bool nx) ∧ w'.cell? ⟨w.heap.size + 1, 1, none⟩ = some (.slice ax kx cx) ∧ w'.cell? ⟨w.heap.size, 2, none⟩ = some (.bool n1) ∧ w'.cell? ⟨w.heap.size, 3, none⟩ = some (.slice a1 k1 c1) ∧ Below wr.heap.size wr w' ∧ wr.heap.size ≤ w'.heap.size)
          (((try go_split_ands); refine STAY.out _ ?_; repeat (first | assumption | exact Below.refl _ _ | (with_reducible refine Below.drew ?_) | exact below_to (by assumption) (by assumption) | ((with_reducible refine Below.alloc ?_ ?_ _); rotate_left; (focus (first | omega | (simp; done) | (simp; omega)))) | ((with_reducible refine Below.setCell ?_ ?_ _); rotate_left; (focus (first | omega | (simp; done) | (simp; omega)))))))
          (first
          | (go_at_call 11; go_split_ands; (refine Calls.mono (MUL.out _ (by assumption)) ?_; rintro e w4 ⟨m4, d4, l4, e4, rfl, z4, hb4⟩; have hk4 := below_to hb4 (by assumption); have hz4 := hk4.size; obtain ⟨hc4, hf4⟩ := bcell hb4; have hy4 := hb4.size; (try simp only [sz_alloc, sz_set, sz_drew] at hy4); (try (have hq4 : wr.heap.size < w4.heap.size := by omega)))))
        all_goals
          (go_wp2_with fail
           go_meet
           clear hc4 hf4
           refine ⟨_, m4, d4, l4, e4, rfl, ?_, ?_, ?_⟩)
        all_goals
          repeat (first
             | (with_reducible assumption)
             | ((with_reducible refine blk_newz ?_); (first | omega | (simp only [sz_alloc, sz_set, sz_drew]; omega) | (focus (simp only [sz_alloc, sz_set, sz_drew]; done))))
             | ((with_reducible refine blk_ltz ?_ ?_); (first | omega | (simp only [sz_alloc, sz_set, sz_drew]; omega) | (focus (simp only [sz_alloc, sz_set, sz_drew]; done))))
             | (with_reducible refine blk_own2z ?_)
             | ((with_reducible refine blk_twoz ?_ ?_); (first | omega | (simp only [sz_alloc, sz_set, sz_drew]; omega) | (focus (simp only [sz_alloc, sz_set, sz_drew]; done))))
             | (with_reducible refine blk_drew ?_)
             | ((with_reducible refine blk_below hb4 ?_ ?_); (first | omega | (simp only [sz_alloc, sz_set, sz_drew]; omega) | (focus (simp only [sz_alloc, sz_set, sz_drew]; done))))
             | (with_reducible refine intr_allocz ?_)
             | (with_reducible refine intr_set2z ?_ ?_)
             | ((with_reducible refine Below.alloc ?_ ?_ _); rotate_left; (focus (first | omega | (simp; done) | (simp; omega))))
             | ((with_reducible refine Below.setCell ?_ ?_ _); rotate_left; (focus (first | omega | (simp; done) | (simp; omega))))
             | (first | omega | (simp only [sz_alloc, sz_set, sz_drew]; omega) | (focus (simp only [sz_alloc, sz_set, sz_drew]; done))))
      case rest =>
        obtain ⟨gb1, m15, d15, l15, e15, rfl, hG1, zz1, hb1⟩ := hcut
        generalize wc = wa at *
        have HG1 := Lib.hid hG1; have ZZ1 := Lib.hid zz1
        have HY3 := Lib.hid (blk_below' hb1 HY2.out); have HA3 := Lib.hid (blk_below' hb1 HA2.out); have HR3 := Lib.hid (blk_below' hb1 HR2.out); have HM3 := Lib.hid (blk_below' hb1 HM.out)
        have BR3 := Lib.hid (below_of BR.out hb1); have HZ3 := Lib.hid (HZ.out.call hb1)
        have E0 : Hid (1 ≤ 1 → IntR wa (.agg #[.bool p0, .slice b0 i0 j0]) z0) := Lib.hid (fun h => (D0.out h).below hb1); have E1 : Hid (2 ≤ 1 → IntR wa (.agg #[.bool p1, .slice b1 i1 j1]) z1) := Lib.hid (fun h => (D1.out h).below hb1); have E2 : Hid (3 ≤ 1 → IntR wa (.agg #[.bool p2, .slice b2 i2 j2]) z2) := Lib.hid (fun h => (D2.out h).below hb1)
        clear hG1 zz1 hb1 HX2 HA2 HY2 HR2 HM BR HZ D0 D1 D2 STAY MUL hB0 hw0 hw1
        obtain ⟨y0, y1, _, _, _⟩ := blk2 HY3.out
        obtain ⟨q0, q1, q2, q3, q4, q5, q6, q7, q8, q9, q10, q11⟩ := blk12 HA3.out
        have hw0 : (w.heap.size + 1 + 1) < wa.heap.size := (Array.getElem?_eq_some_iff.1 HY3.out).1
        have hw1 : w.heap.size < wa.heap.size := (Array.getElem?_eq_some_iff.1 HA3.out).1
        have STAY : Hid (∀ w', Below wa.heap.size wa w' → w'.cell? ⟨w.heap.size + 1 + 1, 0, none⟩ = some (.bool ny) ∧ w'.cell? ⟨w.heap.size + 1 + 1, 1, none⟩ = some (.slice ay ky cy) ∧ w'.cell? ⟨w.heap.size, 8, none⟩ = some (.bool n4) ∧ w'.cell? ⟨w.heap.size, 9, none⟩ = some (.slice a4 k4 c4) ∧ Below wa.heap.size wa w' ∧ wa.heap.size ≤ w'.heap.size) :=
          Lib.hid (fun w' h => ⟨cell_to h y0 hw0, cell_to h y1 hw0, cell_to h q8 hw1, cell_to h q9 hw1, h, h.size⟩)
        have MUL : Hid (∀ w1, Below wa.heap.size wa w1 → Calls Tryz.prog 11 #[.agg #[.bool ny, .slice ay ky cy], .agg #[.bool n4, .slice a4 k4 c4]] w1 fun e w' => Res1 w1 w' e (y * g1)) := Lib.hid (fun w1 h => MD1.out w1 (below_of BR3.out h))
        have hB0 := (Below.refl wa.heap.size wa).drew
        clear y0 y1 q0 q1 q2 q3 q4 q5 q6 q7 q8 q9 q10 q11
        go_wp2_with fail
        go_cut [11] (fun s wx => UiO wa wx (y * g1) s)
        case first =>
          go_region_held3 (fun w' => w'.cell? ⟨w.heap.size + 1 + 1, 0, none⟩ = some (.bool ny) ∧ w'.cell? ⟨w.heap.size + 1 + 1, 1, none⟩ = some (.slice ay ky cy) ∧ w'.cell? ⟨w.heap.size, 8, none⟩ = some (.bool n4) ∧ w'.cell? ⟨w.heap.size, 9, none⟩ = some (.slice a4 k4 c4) ∧ Below wa.heap.size wa w' ∧ wa.heap.size ≤ w'.heap.size)
            (((try go_split_ands); refine STAY.out _ ?_; repeat (first | assumption | exact Below.refl _ _ | (with_reducible refine Below.drew ?_) | exact below_to (by assumption) (by assumption) | ((with_reducible refine Below.alloc ?_ ?_ _); rotate_left; (focus (first | omega | (simp; done) | (simp; omega)))) | ((with_reducible refine Below.setCell ?_ ?_ _); rotate_left; (focus (first | omega | (simp; done) | (simp; omega)))))))
            (first
            | (go_at_call 11; go_split_ands; (refine Calls.mono (MUL.out _ (by assumption)) ?_; rintro e w4 ⟨m4, d4, l4, e4, rfl, z4, hb4⟩; have hk4 := below_to hb4 (by assumption); have hz4 := hk4.size; obtain ⟨hc4, hf4⟩ := bcell hb4; have hy4 := hb4.size; (try simp only [sz_alloc, sz_set, sz_drew] at hy4); (try (have hq4 : wa.heap.size < w4.heap.size := by omega)))))
          all_goals
            (go_wp2_with fail
             go_meet
             clear hc4 hf4
             refine ⟨_, m4, d4, l4, e4, rfl, ?_, ?_, ?_⟩)
          all_goals
            repeat (first
               | (with_reducible assumption)
               | ((with_reducible refine blk_newz ?_); (first | omega | (simp only [sz_alloc, sz_set, sz_drew]; omega) | (focus (simp only [sz_alloc, sz_set, sz_drew]; done))))
               | ((with_reducible refine blk_ltz ?_ ?_); (first | omega | (simp only [sz_alloc, sz_set, sz_drew]; omega) | (focus (simp only [sz_alloc, sz_set, sz_drew]; done))))
               | (with_reducible refine blk_own2z ?_)
               | ((with_reducible refine blk_twoz ?_ ?_); (first | omega | (simp only [sz_alloc, sz_set, sz_drew]; omega) | (focus (simp only [sz_alloc, sz_set, sz_drew]; done))))
               | (with_reducible refine blk_drew ?_)
               | ((with_reducible refine blk_below hb4 ?_ ?_); (first | omega | (simp only [sz_alloc, sz_set, sz_drew]; omega) | (focus (simp only [sz_alloc, sz_set, sz_drew]; done))))
               | (with_reducible refine intr_allocz ?_)
               | (with_reducible refine intr_set2z ?_ ?_)
               | ((with_reducible refine Below.alloc ?_ ?_ _); rotate_left; (focus (first | omega | (simp; done) | (simp; omega))))
               | ((with_reducible refine Below.setCell ?_ ?_ _); rotate_left; (focus (first | omega | (simp; done) | (simp; omega))))
               | (first | omega | (simp only [sz_alloc, sz_set, sz_drew]; omega) | (focus (simp only [sz_alloc, sz_set, sz_drew]; done))))
        case rest =>
          obtain ⟨gb2, m25, d25, l25, e25, rfl, hG2, zz2, hb2⟩ := hcut
          generalize wc = wb at *
          have HG2 := Lib.hid hG2; have ZZ2 := Lib.hid zz2
          have HG1' := Lib.hid (blk_below' hb2 HG1.out); have ZZ1' := Lib.hid (ZZ1.out.below hb2)
          have HR4 := Lib.hid (blk_below' hb2 HR3.out); have HM4 := Lib.hid (blk_below' hb2 HM3.out)
          have BR4 := Lib.hid (below_of BR3.out hb2); have HZ4 := Lib.hid (HZ3.out.call hb2)
          have F0 : Hid (1 ≤ 1 → IntR wb (.agg #[.bool p0, .slice b0 i0 j0]) z0) := Lib.hid (fun h => (E0.out h).below hb2); have F1 : Hid (2 ≤ 1 → IntR wb (.agg #[.bool p1, .slice b1 i1 j1]) z1) := Lib.hid (fun h => (E1.out h).below hb2); have F2 : Hid (3 ≤ 1 → IntR wb (.agg #[.bool p2, .slice b2 i2 j2]) z2) := Lib.hid (fun h => (E2.out h).below hb2)
          clear hG2 zz2 hb2 HG1 ZZ1 HA3 HY3 HR3 HM3 BR3 HZ3 E0 E1 E2 STAY MUL hB0 hw0 hw1
          obtain ⟨y0, y1, _, _, _⟩ := blk2 HG1'.out
          obtain ⟨y2, y3, _, _, _⟩ := blk2 HG2.out
          go_wp2_with fail
          refine (AD1.out _ _ wb ZZ1'.out ZZ2.out).mono ?_
          rintro e w6 ⟨m6, d6, l6, e6, rfl, z6, hb6⟩
          have HM5 := Lib.hid (blk_below' hb6 HM4.out); have HZ5 := Lib.hid (HZ4.out.call hb6)
          have Z6 := Lib.hid z6
          have G0 : Hid (1 ≤ 1 → IntR w6 (.agg #[.bool p0, .slice b0 i0 j0]) z0) := Lib.hid (fun h => (F0.out h).below hb6); have G1 : Hid (2 ≤ 1 → IntR w6 (.agg #[.bool p1, .slice b1 i1 j1]) z1) := Lib.hid (fun h => (F1.out h).below hb6); have G2 : Hid (3 ≤ 1 → IntR w6 (.agg #[.bool p2, .slice b2 i2 j2]) z2) := Lib.hid (fun h => (F2.out h).below hb6)
          have NI : Hid (∀ (v : Value) (z : Int), IntR w6 v z → NotIn v (w.heap.size + 1 + 1 + 1 + 1)) := Lib.hid (fun v z h => h.notIn HM5.out (noint6 _ _ _ _ _ _ _ _ _ _ _ _))
          obtain ⟨⟨r0, r1, r2, r3, r4, r5⟩, s0, s1, s2, s3, s4, s5⟩ := blk6 HM5.out
          have hltM := (Array.getElem?_eq_some_iff.1 HM5.out).1
          clear z6 hb6 y0 y1 y2 y3 HG1' ZZ1' HG2 ZZ2 HM4 HZ4 F0 F1 F2 BR4 HR4
          go_wp2
          go_roundw
          case rel => exact ⟨2, by go_num, by omega, ⟨_, _, _, _, _, _, _, _, _, _, _, _, blk_seti (ds := #[.bool p0, .slice b0 i0 j0, .bool m6, .slice d6 l6 e6, .bool p2, .slice b2 i2 j2]) (blk_seti HM5.out rfl) rfl, (fun _ => ((G0.out (by omega)).setNe (NI.out _ _ (G0.out (by omega)))).setNe (NI.out _ _ (G0.out (by omega)))), (fun _ => (Z6.out.setNe (NI.out _ _ Z6.out)).setNe (NI.out _ _ Z6.out)), (fun h => by omega)⟩, (HZ5.out.set).set⟩
          case measure => simp [intOf]

    · -- 2
      obtain ⟨y0, y1, _, _, _⟩ := blk2 HX2.out
      obtain ⟨q0, q1, q2, q3, q4, q5, q6, q7, q8, q9, q10, q11⟩ := blk12 HA2.out
      have hw0 : (w.heap.size + 1) < wr.heap.size := (Array.getElem?_eq_some_iff.1 HX2.out).1
      have hw1 : w.heap.size < wr.heap.size := (Array.getElem?_eq_some_iff.1 HA2.out).1
      have STAY : Hid (∀ w', Below wr.heap.size wr w' → w'.cell? ⟨w.heap.size + 1, 0, none⟩ = some (.bool nx) ∧ w'.cell? ⟨w.heap.size + 1, 1, none⟩ = some (.slice ax kx cx) ∧ w'.cell? ⟨w.heap.size, 4, none⟩ = some (.bool n2) ∧ w'.cell? ⟨w.heap.size, 5, none⟩ = some (.slice a2 k2 c2) ∧ Below wr.heap.size wr w' ∧ wr.heap.size ≤ w'.heap.size) :=
        Lib.hid (fun w' h => ⟨cell_to h y0 hw0, cell_to h y1 hw0, cell_to h q4 hw1, cell_to h q5 hw1, h, h.size⟩)
      have MUL : Hid (∀ w1, Below wr.heap.size wr w1 → Calls Tryz.prog 11 #[.agg #[.bool nx, .slice ax kx cx], .agg #[.bool n2, .slice a2 k2 c2]] w1 fun e w' => Res1 w1 w' e (x * f2)) := Lib.hid (fun w1 h => MU2.out w1 (below_of BR.out h))
      have hB0 := (Below.refl wr.heap.size wr).drew
      clear y0 y1 q0 q1 q2 q3 q4 q5 q6 q7 q8 q9 q10 q11
      go_wp2_with fail
      go_cut [9] (fun s wx => UiO wr wx (x * f2) s)
      case first =>
        go_region_held3 (fun w' => w'.cell? ⟨w.heap.size + 1, 0, none⟩ = some (.bool nx) ∧ w'.cell? ⟨w.heap.size + 1, 1, none⟩ = some (.slice ax kx cx) ∧ w'.cell? ⟨w.heap.size, 4, none⟩ = some (.bool n2) ∧ w'.cell? ⟨w.heap.size, 5, none⟩ = some (.slice a2 k2 c2) ∧ Below wr.heap.size wr w' ∧ wr.heap.size ≤ w'.heap.size)
          (((try go_split_ands); refine STAY.out _ ?_; repeat (first | assumption | exact Below.refl _ _ | (with_reducible refine Below.drew ?_) | exact below_to (by assumption) (by assumption) | ((with_reducible refine Below.alloc ?_ ?_ _); rotate_left; (focus (first | omega | (simp; done) | (simp; omega)))) | ((with_reducible refine Below.setCell ?_ ?_ _); rotate_left; (focus (first | omega | (simp; done) | (simp; omega)))))))
          (first
          | (go_at_call 11; go_split_ands; (refine Calls.mono (MUL.out _ (by assumption)) ?_; rintro e w4 ⟨m4, d4, l4, e4, rfl, z4, hb4⟩; have hk4 := below_to hb4 (by assumption); have hz4 := hk4.size; obtain ⟨hc4, hf4⟩ := bcell hb4; have hy4 := hb4.size; (try simp only [sz_alloc, sz_set, sz_drew] at hy4); (try (have hq4 : wr.heap.size < w4.heap.size := by omega)))))
        all_goals
          (go_wp2_with fail
           go_meet
           clear hc4 hf4
           refine ⟨_, m4, d4, l4, e4, rfl, ?_, ?_, ?_⟩)
        all_goals
          repeat (first
             | (with_reducible assumption)
             | ((with_reducible refine blk_newz ?_); (first | omega | (simp only [sz_alloc, sz_set, sz_drew]; omega) | (focus (simp only [sz_alloc, sz_set, sz_drew]; done))))
             | ((with_reducible refine blk_ltz ?_ ?_); (first | omega | (simp only [sz_alloc, sz_set, sz_drew]; omega) | (focus (simp only [sz_alloc, sz_set, sz_drew]; done))))
             | (with_reducible refine blk_own2z ?_)
             | ((with_reducible refine blk_twoz ?_ ?_); (first | omega | (simp only [sz_alloc, sz_set, sz_drew]; omega) | (focus (simp only [sz_alloc, sz_set, sz_drew]; done))))
             | (with_reducible refine blk_drew ?_)
             | ((with_reducible refine blk_below hb4 ?_ ?_); (first | omega | (simp only [sz_alloc, sz_set, sz_drew]; omega) | (focus (simp only [sz_alloc, sz_set, sz_drew]; done))))
             | (with_reducible refine intr_allocz ?_)
             | (with_reducible refine intr_set2z ?_ ?_)
             | ((with_reducible refine Below.alloc ?_ ?_ _); rotate_left; (focus (first | omega | (simp; done) | (simp; omega))))
             | ((with_reducible refine Below.setCell ?_ ?_ _); rotate_left; (focus (first | omega | (simp; done) | (simp; omega))))
             | (first | omega | (simp only [sz_alloc, sz_set, sz_drew]; omega) | (focus (simp only [sz_alloc, sz_set, sz_drew]; done))))
      case rest =>
        obtain ⟨gb1, m15, d15, l15, e15, rfl, hG1, zz1, hb1⟩ := hcut
        generalize wc = wa at *
        have HG1 := Lib.hid hG1; have ZZ1 := Lib.hid zz1
        have HY3 := Lib.hid (blk_below' hb1 HY2.out); have HA3 := Lib.hid (blk_below' hb1 HA2.out); have HR3 := Lib.hid (blk_below' hb1 HR2.out); have HM3 := Lib.hid (blk_below' hb1 HM.out)
        have BR3 := Lib.hid (below_of BR.out hb1); have HZ3 := Lib.hid (HZ.out.call hb1)
        have E0 : Hid (1 ≤ 2 → IntR wa (.agg #[.bool p0, .slice b0 i0 j0]) z0) := Lib.hid (fun h => (D0.out h).below hb1); have E1 : Hid (2 ≤ 2 → IntR wa (.agg #[.bool p1, .slice b1 i1 j1]) z1) := Lib.hid (fun h => (D1.out h).below hb1); have E2 : Hid (3 ≤ 2 → IntR wa (.agg #[.bool p2, .slice b2 i2 j2]) z2) := Lib.hid (fun h => (D2.out h).below hb1)
        clear hG1 zz1 hb1 HX2 HA2 HY2 HR2 HM BR HZ D0 D1 D2 STAY MUL hB0 hw0 hw1
        obtain ⟨y0, y1, _, _, _⟩ := blk2 HY3.out
        obtain ⟨q0, q1, q2, q3, q4, q5, q6, q7, q8, q9, q10, q11⟩ := blk12 HA3.out
        have hw0 : (w.heap.size + 1 + 1) < wa.heap.size := (Array.getElem?_eq_some_iff.1 HY3.out).1
        have hw1 : w.heap.size < wa.heap.size := (Array.getElem?_eq_some_iff.1 HA3.out).1
        have STAY : Hid (∀ w', Below wa.heap.size wa w' → w'.cell? ⟨w.heap.size + 1 + 1, 0, none⟩ = some (.bool ny) ∧ w'.cell? ⟨w.heap.size + 1 + 1, 1, none⟩ = some (.slice ay ky cy) ∧ w'.cell? ⟨w.heap.size, 10, none⟩ = some (.bool n5) ∧ w'.cell? ⟨w.heap.size, 11, none⟩ = some (.slice a5 k5 c5) ∧ Below wa.heap.size wa w' ∧ wa.heap.size ≤ w'.heap.size) :=
          Lib.hid (fun w' h => ⟨cell_to h y0 hw0, cell_to h y1 hw0, cell_to h q10 hw1, cell_to h q11 hw1, h, h.size⟩)
        have MUL : Hid (∀ w1, Below wa.heap.size wa w1 → Calls Tryz.prog 11 #[.agg #[.bool ny, .slice ay ky cy], .agg #[.bool n5, .slice a5 k5 c5]] w1 fun e w' => Res1 w1 w' e (y * g2)) := Lib.hid (fun w1 h => MD2.out w1 (below_of BR3.out h))
        have hB0 := (Below.refl wa.heap.size wa).drew
        clear y0 y1 q0 q1 q2 q3 q4 q5 q6 q7 q8 q9 q10 q11
        go_wp2_with fail
        go_cut [11] (fun s wx => UiO wa wx (y * g2) s)
        case first =>
          go_region_held3 (fun w' => w'.cell? ⟨w.heap.size + 1 + 1, 0, none⟩ = some (.bool ny) ∧ w'.cell? ⟨w.heap.size + 1 + 1, 1, none⟩ = some (.slice ay ky cy) ∧ w'.cell? ⟨w.heap.size, 10, none⟩ = some (.bool n5) ∧ w'.cell? ⟨w.heap.size, 11, none⟩ = some (.slice a5 k5 c5) ∧ Below wa.heap.size wa w' ∧ wa.heap.size ≤ w'.heap.size)
            (((try go_split_ands); refine STAY.out _ ?_; repeat (first | assumption | exact Below.refl _ _ | (with_reducible refine Below.drew ?_) | exact below_to (by assumption) (by assumption) | ((with_reducible refine Below.alloc ?_ ?_ _); rotate_left; (focus (first | omega | (simp; done) | (simp; omega)))) | ((with_reducible refine Below.setCell ?_ ?_ _); rotate_left; (focus (first | omega | (simp; done) | (simp; omega)))))))
            (first
            | (go_at_call 11; go_split_ands; (refine Calls.mono (MUL.out _ (by assumption)) ?_; rintro e w4 ⟨m4, d4, l4, e4, rfl, z4, hb4⟩; have hk4 := below_to hb4 (by assumption); have hz4 := hk4.size; obtain ⟨hc4, hf4⟩ := bcell hb4; have hy4 := hb4.size; (try simp only [sz_alloc, sz_set, sz_drew] at hy4); (try (have hq4 : wa.heap.size < w4.heap.size := by omega)))))
          all_goals
            (go_wp2_with fail
             go_meet
             clear hc4 hf4
             refine ⟨_, m4, d4, l4, e4, rfl, ?_, ?_, ?_⟩)
          all_goals
            repeat (first
               | (with_reducible assumption)
               | ((with_reducible refine blk_newz ?_); (first | omega | (simp only [sz_alloc, sz_set, sz_drew]; omega) | (focus (simp only [sz_alloc, sz_set, sz_drew]; done))))
               | ((with_reducible refine blk_ltz ?_ ?_); (first | omega | (simp only [sz_alloc, sz_set, sz_drew]; omega) | (focus (simp only [sz_alloc, sz_set, sz_drew]; done))))
               | (with_reducible refine blk_own2z ?_)
               | ((with_reducible refine blk_twoz ?_ ?_); (first | omega | (simp only [sz_alloc, sz_set, sz_drew]; omega) | (focus (simp only [sz_alloc, sz_set, sz_drew]; done))))
               | (with_reducible refine blk_drew ?_)
               | ((with_reducible refine blk_below hb4 ?_ ?_); (first | omega | (simp only [sz_alloc, sz_set, sz_drew]; omega) | (focus (simp only [sz_alloc, sz_set, sz_drew]; done))))
               | (with_reducible refine intr_allocz ?_)
               | (with_reducible refine intr_set2z ?_ ?_)
               | ((with_reducible refine Below.alloc ?_ ?_ _); rotate_left; (focus (first | omega | (simp; done) | (simp; omega))))
               | ((with_reducible refine Below.setCell ?_ ?_ _); rotate_left; (focus (first | omega | (simp; done) | (simp; omega))))
               | (first | omega | (simp only [sz_alloc, sz_set, sz_drew]; omega) | (focus (simp only [sz_alloc, sz_set, sz_drew]; done))))
        case rest =>
          obtain ⟨gb2, m25, d25, l25, e25, rfl, hG2, zz2, hb2⟩ := hcut
          generalize wc = wb at *
          have HG2 := Lib.hid hG2; have ZZ2 := Lib.hid zz2
          have HG1' := Lib.hid (blk_below' hb2 HG1.out); have ZZ1' := Lib.hid (ZZ1.out.below hb2)
          have HR4 := Lib.hid (blk_below' hb2 HR3.out); have HM4 := Lib.hid (blk_below' hb2 HM3.out)
          have BR4 := Lib.hid (below_of BR3.out hb2); have HZ4 := Lib.hid (HZ3.out.call hb2)
          have F0 : Hid (1 ≤ 2 → IntR wb (.agg #[.bool p0, .slice b0 i0 j0]) z0) := Lib.hid (fun h => (E0.out h).below hb2); have F1 : Hid (2 ≤ 2 → IntR wb (.agg #[.bool p1, .slice b1 i1 j1]) z1) := Lib.hid (fun h => (E1.out h).below hb2); have F2 : Hid (3 ≤ 2 → IntR wb (.agg #[.bool p2, .slice b2 i2 j2]) z2) := Lib.hid (fun h => (E2.out h).below hb2)
          clear hG2 zz2 hb2 HG1 ZZ1 HA3 HY3 HR3 HM3 BR3 HZ3 E0 E1 E2 STAY MUL hB0 hw0 hw1
          obtain ⟨y0, y1, _, _, _⟩ := blk2 HG1'.out
          obtain ⟨y2, y3, _, _, _⟩ := blk2 HG2.out
          go_wp2_with fail
          refine (AD2.out _ _ wb ZZ1'.out ZZ2.out).mono ?_
          rintro e w6 ⟨m6, d6, l6, e6, rfl, z6, hb6⟩
          have HM5 := Lib.hid (blk_below' hb6 HM4.out); have HZ5 := Lib.hid (HZ4.out.call hb6)
          have Z6 := Lib.hid z6
          have G0 : Hid (1 ≤ 2 → IntR w6 (.agg #[.bool p0, .slice b0 i0 j0]) z0) := Lib.hid (fun h => (F0.out h).below hb6); have G1 : Hid (2 ≤ 2 → IntR w6 (.agg #[.bool p1, .slice b1 i1 j1]) z1) := Lib.hid (fun h => (F1.out h).below hb6); have G2 : Hid (3 ≤ 2 → IntR w6 (.agg #[.bool p2, .slice b2 i2 j2]) z2) := Lib.hid (fun h => (F2.out h).below hb6)
          have NI : Hid (∀ (v : Value) (z : Int), IntR w6 v z → NotIn v (w.heap.size + 1 + 1 + 1 + 1)) := Lib.hid (fun v z h => h.notIn HM5.out (noint6 _ _ _ _ _ _ _ _ _ _ _ _))
          obtain ⟨⟨r0, r1, r2, r3, r4, r5⟩, s0, s1, s2, s3, s4, s5⟩ := blk6 HM5.out
          have hltM := (Array.getElem?_eq_some_iff.1 HM5.out).1
          clear z6 hb6 y0 y1 y2 y3 HG1' ZZ1' HG2 ZZ2 HM4 HZ4 F0 F1 F2 BR4 HR4
          go_wp2
          go_roundw
          case rel => exact ⟨3, by go_num, by omega, ⟨_, _, _, _, _, _, _, _, _, _, _, _, blk_seti (ds := #[.bool p0, .slice b0 i0 j0, .bool p1, .slice b1 i1 j1, .bool m6, .slice d6 l6 e6]) (blk_seti HM5.out rfl) rfl, (fun _ => ((G0.out (by omega)).setNe (NI.out _ _ (G0.out (by omega)))).setNe (NI.out _ _ (G0.out (by omega)))), (fun _ => ((G1.out (by omega)).setNe (NI.out _ _ (G1.out (by omega)))).setNe (NI.out _ _ (G1.out (by omega)))), (fun _ => (Z6.out.setNe (NI.out _ _ Z6.out)).setNe (NI.out _ _ Z6.out))⟩, (HZ5.out.set).set⟩
          case measure => simp [intOf]

    · obtain ⟨⟨r0, r1, r2, r3, r4, r5⟩, s0, s1, s2, s3, s4, s5⟩ := blk6 HM.out
      obtain ⟨⟨t0, t1, t2, t3, t4, t5⟩, v0, v1, v2, v3, v4, v5⟩ := blk6 HR2.out
      have NI : Hid (∀ (v : Value) (z : Int), IntR wr v z → NotIn v (w.heap.size + 1 + 1 + 1)) := Lib.hid (fun v z h => h.notIn HR2.out (noint6 _ _ _ _ _ _ _ _ _ _ _ _))
      have hle : w.heap.size ≤ w.heap.size + 1 + 1 + 1 := by omega
      have hltM := (Array.getElem?_eq_some_iff.1 HM.out).1
      have hltR := (Array.getElem?_eq_some_iff.1 HR2.out).1
      go_wp2
      refine bodyPost_ret (v := .agg #[.bool p0, .slice b0 i0 j0, .bool p1, .slice b1 i1 j1, .bool p2, .slice b2 i2 j2]) ?_ rfl ⟨_, _, _, _, _, _, _, _, _, _, _, _, rfl, set6 (D0.out (by omega)) (NI.out _ _ (D0.out (by omega))), set6 (D1.out (by omega)) (NI.out _ _ (D1.out (by omega))), set6 (D2.out (by omega)) (NI.out _ _ (D2.out (by omega))), (((((BR.out.setCell (p := ⟨w.heap.size + 1 + 1 + 1, 0, none⟩) hle _).setCell (p := ⟨w.heap.size + 1 + 1 + 1, 1, none⟩) hle _).setCell (p := ⟨w.heap.size + 1 + 1 + 1, 2, none⟩) hle _).setCell (p := ⟨w.heap.size + 1 + 1 + 1, 3, none⟩) hle _).setCell (p := ⟨w.heap.size + 1 + 1 + 1, 4, none⟩) hle _).setCell (p := ⟨w.heap.size + 1 + 1 + 1, 5, none⟩) hle _⟩
      simp [results, Tryz.results52, go_sem, *]
end Go.Proofs.YtfdilnfmcpbkgaaGreatDoor

/- Package whole: next. -/
namespace Go.Proofs.YtfdilnfmcpbkgaaGreatDoor
open Go.RowKit Mth

/-- two rows of three Ints: Euclid's rows s -/
def Rws (w : World) (A B : Nat) (s : ESt) (n0 n1 n2 n3 n4 n5 : Bool) (a0 a1 a2 a3 a4 a5 : Option Addr) (k0 c0 k1 c1 k2 c2 k3 c3 k4 c4 k5 c5 : Nat) : Prop :=
  (IntR w (.agg #[.bool n0, .slice a0 k0 c0]) (s.p : Int) ∧ IntR w (.agg #[.bool n1, .slice a1 k1 c1]) (r1 s) ∧ IntR w (.agg #[.bool n2, .slice a2 k2 c2]) (r2 s) ∧ IntR w (.agg #[.bool n3, .slice a3 k3 c3]) (s.q : Int) ∧ IntR w (.agg #[.bool n4, .slice a4 k4 c4]) (r3 s) ∧ IntR w (.agg #[.bool n5, .slice a5 k5 c5]) (r4 s)) ∧ s.p < Big ∧ s.q < Big ∧ EInv A B s
theorem Rws.below {w w' : World} {A B : Nat} {s : ESt} {n0 n1 n2 n3 n4 n5 : Bool} {a0 a1 a2 a3 a4 a5 : Option Addr} {k0 c0 k1 c1 k2 c2 k3 c3 k4 c4 k5 c5 : Nat} (h : Rws w A B s n0 n1 n2 n3 n4 n5 a0 a1 a2 a3 a4 a5 k0 c0 k1 c1 k2 c2 k3 c3 k4 c4 k5 c5) (hb : Below w.heap.size w w') : Rws w' A B s n0 n1 n2 n3 n4 n5 a0 a1 a2 a3 a4 a5 k0 c0 k1 c1 k2 c2 k3 c3 k4 c4 k5 c5 := by
  obtain ⟨⟨h0, h1, h2, h3, h4, h5⟩, h⟩ := h
  exact ⟨⟨h0.below hb, h1.below hb, h2.below hb, h3.below hb, h4.below hb, h5.below hb⟩, h⟩
theorem noint12 (n0 n1 n2 n3 n4 n5 : Bool) (a0 a1 a2 a3 a4 a5 : Option Addr) (k0 c0 k1 c1 k2 c2 k3 c3 k4 c4 k5 c5 : Nat) : NoInt #[.bool n0, .slice a0 k0 c0, .bool n1, .slice a1 k1 c1, .bool n2, .slice a2 k2 c2, .bool n3, .slice a3 k3 c3, .bool n4, .slice a4 k4 c4, .bool n5, .slice a5 k5 c5] := by
  intro i k n
  rcases i with _ | _ | _ | _ | _ | _ | _ | _ | _ | _ | _ | _ | i <;> simp
theorem frozen12 {w : World} {g : Nat} {cs : Array Value} {T : TypeId} (h : w.heap[g]? = some (.cells cs T (0, 0))) : (w.frozen? ⟨g, 0, none⟩ = false ∧ w.frozen? ⟨g, 1, none⟩ = false ∧ w.frozen? ⟨g, 2, none⟩ = false ∧ w.frozen? ⟨g, 3, none⟩ = false ∧ w.frozen? ⟨g, 4, none⟩ = false ∧ w.frozen? ⟨g, 5, none⟩ = false ∧ w.frozen? ⟨g, 6, none⟩ = false ∧ w.frozen? ⟨g, 7, none⟩ = false ∧ w.frozen? ⟨g, 8, none⟩ = false ∧ w.frozen? ⟨g, 9, none⟩ = false ∧ w.frozen? ⟨g, 10, none⟩ = false ∧ w.frozen? ⟨g, 11, none⟩ = false) :=
  ⟨frozen_of_row w g 0 _ _ h, frozen_of_row w g 1 _ _ h, frozen_of_row w g 2 _ _ h, frozen_of_row w g 3 _ _ h, frozen_of_row w g 4 _ _ h, frozen_of_row w g 5 _ _ h, frozen_of_row w g 6 _ _ h, frozen_of_row w g 7 _ _ h, frozen_of_row w g 8 _ _ h, frozen_of_row w g 9 _ _ h, frozen_of_row w g 10 _ _ h, frozen_of_row w g 11 _ _ h⟩
theorem set12 {w : World} {v y0 y1 y2 y3 y4 y5 y6 y7 y8 y9 y10 y11 : Value} {z : Int} {R : Nat} (h : IntR w v z) (hn : NotIn v R) : IntR ((((((((((((w.setCell ⟨R, 0, none⟩ y0).setCell ⟨R, 1, none⟩ y1).setCell ⟨R, 2, none⟩ y2).setCell ⟨R, 3, none⟩ y3).setCell ⟨R, 4, none⟩ y4).setCell ⟨R, 5, none⟩ y5).setCell ⟨R, 6, none⟩ y6).setCell ⟨R, 7, none⟩ y7).setCell ⟨R, 8, none⟩ y8).setCell ⟨R, 9, none⟩ y9).setCell ⟨R, 10, none⟩ y10).setCell ⟨R, 11, none⟩ y11) v z :=
  (((((((((((h.setNe hn).setNe hn).setNe hn).setNe hn).setNe hn).setNe hn).setNe hn).setNe hn).setNe hn).setNe hn).setNe hn).setNe hn
theorem below12 {w w1 : World} {R : Nat} {y0 y1 y2 y3 y4 y5 y6 y7 y8 y9 y10 y11 : Value} (h : Below w.heap.size w w1) (hR : w.heap.size ≤ R) : Below w.heap.size w ((((((((((((w1.setCell ⟨R, 0, none⟩ y0).setCell ⟨R, 1, none⟩ y1).setCell ⟨R, 2, none⟩ y2).setCell ⟨R, 3, none⟩ y3).setCell ⟨R, 4, none⟩ y4).setCell ⟨R, 5, none⟩ y5).setCell ⟨R, 6, none⟩ y6).setCell ⟨R, 7, none⟩ y7).setCell ⟨R, 8, none⟩ y8).setCell ⟨R, 9, none⟩ y9).setCell ⟨R, 10, none⟩ y10).setCell ⟨R, 11, none⟩ y11) :=
  (((((((((((h.setCell (p := ⟨R, 0, none⟩) hR _).setCell (p := ⟨R, 1, none⟩) hR _).setCell (p := ⟨R, 2, none⟩) hR _).setCell (p := ⟨R, 3, none⟩) hR _).setCell (p := ⟨R, 4, none⟩) hR _).setCell (p := ⟨R, 5, none⟩) hR _).setCell (p := ⟨R, 6, none⟩) hR _).setCell (p := ⟨R, 7, none⟩) hR _).setCell (p := ⟨R, 8, none⟩) hR _).setCell (p := ⟨R, 9, none⟩) hR _).setCell (p := ⟨R, 10, none⟩) hR _).setCell (p := ⟨R, 11, none⟩) hR _
theorem heap12 {w : World} {R : Nat} {x0 x1 x2 x3 x4 x5 x6 x7 x8 x9 x10 x11 y0 y1 y2 y3 y4 y5 y6 y7 y8 y9 y10 y11 : Value} {T : TypeId} (h : w.heap[R]? = some (.cells #[x0, x1, x2, x3, x4, x5, x6, x7, x8, x9, x10, x11] T (0, 0))) : ((((((((((((w.setCell ⟨R, 0, none⟩ y0).setCell ⟨R, 1, none⟩ y1).setCell ⟨R, 2, none⟩ y2).setCell ⟨R, 3, none⟩ y3).setCell ⟨R, 4, none⟩ y4).setCell ⟨R, 5, none⟩ y5).setCell ⟨R, 6, none⟩ y6).setCell ⟨R, 7, none⟩ y7).setCell ⟨R, 8, none⟩ y8).setCell ⟨R, 9, none⟩ y9).setCell ⟨R, 10, none⟩ y10).setCell ⟨R, 11, none⟩ y11).heap[R]? = some (.cells #[y0, y1, y2, y3, y4, y5, y6, y7, y8, y9, y10, y11] T (0, 0)) := by
  have h0 := blk_seti (i := 0) (v := y0) (ds := #[y0, x1, x2, x3, x4, x5, x6, x7, x8, x9, x10, x11]) h rfl
  have h1 := blk_seti (i := 1) (v := y1) (ds := #[y0, y1, x2, x3, x4, x5, x6, x7, x8, x9, x10, x11]) h0 rfl
  have h2 := blk_seti (i := 2) (v := y2) (ds := #[y0, y1, y2, x3, x4, x5, x6, x7, x8, x9, x10, x11]) h1 rfl
  have h3 := blk_seti (i := 3) (v := y3) (ds := #[y0, y1, y2, y3, x4, x5, x6, x7, x8, x9, x10, x11]) h2 rfl
  have h4 := blk_seti (i := 4) (v := y4) (ds := #[y0, y1, y2, y3, y4, x5, x6, x7, x8, x9, x10, x11]) h3 rfl
  have h5 := blk_seti (i := 5) (v := y5) (ds := #[y0, y1, y2, y3, y4, y5, x6, x7, x8, x9, x10, x11]) h4 rfl
  have h6 := blk_seti (i := 6) (v := y6) (ds := #[y0, y1, y2, y3, y4, y5, y6, x7, x8, x9, x10, x11]) h5 rfl
  have h7 := blk_seti (i := 7) (v := y7) (ds := #[y0, y1, y2, y3, y4, y5, y6, y7, x8, x9, x10, x11]) h6 rfl
  have h8 := blk_seti (i := 8) (v := y8) (ds := #[y0, y1, y2, y3, y4, y5, y6, y7, y8, x9, x10, x11]) h7 rfl
  have h9 := blk_seti (i := 9) (v := y9) (ds := #[y0, y1, y2, y3, y4, y5, y6, y7, y8, y9, x10, x11]) h8 rfl
  have h10 := blk_seti (i := 10) (v := y10) (ds := #[y0, y1, y2, y3, y4, y5, y6, y7, y8, y9, y10, x11]) h9 rfl
  have h11 := blk_seti (i := 11) (v := y11) (ds := #[y0, y1, y2, y3, y4, y5, y6, y7, y8, y9, y10, y11]) h10 rfl
  exact h11
theorem far12 {w : World} {R g : Nat} {o : Obj} {y0 y1 y2 y3 y4 y5 y6 y7 y8 y9 y10 y11 : Value} (hne : g ≠ R) (h : w.heap[g]? = some o) : ((((((((((((w.setCell ⟨R, 0, none⟩ y0).setCell ⟨R, 1, none⟩ y1).setCell ⟨R, 2, none⟩ y2).setCell ⟨R, 3, none⟩ y3).setCell ⟨R, 4, none⟩ y4).setCell ⟨R, 5, none⟩ y5).setCell ⟨R, 6, none⟩ y6).setCell ⟨R, 7, none⟩ y7).setCell ⟨R, 8, none⟩ y8).setCell ⟨R, 9, none⟩ y9).setCell ⟨R, 10, none⟩ y10).setCell ⟨R, 11, none⟩ y11).heap[g]? = some o := by
  rw [heap_setCell_other _ ⟨R, 11, none⟩ g _ hne]
  rw [heap_setCell_other _ ⟨R, 10, none⟩ g _ hne]
  rw [heap_setCell_other _ ⟨R, 9, none⟩ g _ hne]
  rw [heap_setCell_other _ ⟨R, 8, none⟩ g _ hne]
  rw [heap_setCell_other _ ⟨R, 7, none⟩ g _ hne]
  rw [heap_setCell_other _ ⟨R, 6, none⟩ g _ hne]
  rw [heap_setCell_other _ ⟨R, 5, none⟩ g _ hne]
  rw [heap_setCell_other _ ⟨R, 4, none⟩ g _ hne]
  rw [heap_setCell_other _ ⟨R, 3, none⟩ g _ hne]
  rw [heap_setCell_other _ ⟨R, 2, none⟩ g _ hne]
  rw [heap_setCell_other _ ⟨R, 1, none⟩ g _ hne]
  rw [heap_setCell_other _ ⟨R, 0, none⟩ g _ hne]
  exact h

/-- all blocks but R stay, and R is a block of k cells without integers -/
def ZrN (W w' : World) (R : Nat) (T : TypeId) (k : Nat) : Prop := W.grownBy w' (some R) ∧ ∃ cs : Array Value, w'.heap[R]? = some (.cells cs T (0, 0)) ∧ cs.size = k ∧ NoInt cs
theorem zrn_start {W : World} {R : Nat} {T : TypeId} {cs : Array Value} (h : W.heap[R]? = some (.cells cs T (0, 0))) (hn : NoInt cs) : ZrN W W R T cs.size := ⟨⟨rfl, rfl, rfl, Nat.le_refl _, fun _ _ _ => rfl⟩, cs, h, rfl, hn⟩
theorem ZrN.zr {W w1 : World} {R k : Nat} {T : TypeId} (h : ZrN W w1 R T k) : Zr W w1 R T k := by
  obtain ⟨h1, cs, h2, h3, _⟩ := h
  exact ⟨h1, cs, h2, h3⟩
theorem ZrN.drew {W w1 : World} {R k : Nat} {T : TypeId} (h : ZrN W w1 R T k) : ZrN W w1.drew R T k := ⟨grown_trans' h.1 ⟨rfl, rfl, rfl, Nat.le_refl _, fun _ _ _ => rfl⟩, h.2⟩
theorem ZrN.call {W w1 w2 : World} {R k : Nat} {T : TypeId} (hb : Below w1.heap.size w1 w2) (h : ZrN W w1 R T k) : ZrN W w2 R T k := by
  obtain ⟨h1, cs, h2, h3⟩ := h
  exact ⟨grown_trans' h1 (grown_of_below hb _), cs, (hb.block _ (Array.getElem?_eq_some_iff.1 h2).1).trans h2, h3⟩
theorem noint_set {cs : Array Value} {j : Nat} {y : Value} (h : NoInt cs) (hy : ∀ k n, y ≠ .int k n) : NoInt (cs.setIfInBounds j y) := by
  intro i k n e
  rw [Array.getElem?_setIfInBounds] at e
  split at e
  · split at e
    · exact hy k n (Option.some.inj e)
    · cases e
  · exact h i k n e
theorem ZrN.set {W w1 : World} {R k j : Nat} {T : TypeId} {y : Value} (h : ZrN W w1 R T k) (hy : ∀ k n, y ≠ .int k n) : ZrN W (w1.setCell ⟨R, j, none⟩ y) R T k := by
  obtain ⟨h1, cs, h2, h3, h4⟩ := h
  exact ⟨grown_trans' h1 ⟨rfl, rfl, rfl, by simp, fun i _ hk => heap_setCell_other w1 ⟨R, j, none⟩ i _ (fun e => hk (by simp [e]))⟩, _, heap_setCell_same w1 R j _ _ y h2, by simp [h3], noint_set h4 hy⟩
theorem ZrN.setB {W w1 : World} {R k j : Nat} {T : TypeId} {x : Bool} (h : ZrN W w1 R T k) : ZrN W (w1.setCell ⟨R, j, none⟩ (.bool x)) R T k := h.set (fun _ _ e => by cases e)
theorem ZrN.setS {W w1 : World} {R k j n c : Nat} {T : TypeId} {ao : Option Addr} (h : ZrN W w1 R T k) : ZrN W (w1.setCell ⟨R, j, none⟩ (.slice ao n c)) R T k := h.set (fun _ _ e => by cases e)
theorem ZrN.cell {W w1 : World} {R k b o : Nat} {T : TypeId} {v : Value} (h : ZrN W w1 R T k) (hc : W.cell? ⟨b, o, none⟩ = some v) (hne : b ≠ R) : w1.cell? ⟨b, o, none⟩ = some v := h.zr.cell hc hne
theorem ZrN.notIn {W w1 : World} {R k : Nat} {T : TypeId} {v : Value} {z : Int} (h : ZrN W w1 R T k) (hv : IntR w1 v z) : NotIn v R := by
  obtain ⟨_, cs, h2, _, h4⟩ := h
  exact hv.notIn h2 h4
theorem ZrN.twelve {W w1 : World} {R : Nat} {T : TypeId} (h : ZrN W w1 R T 12) : ∃ x0 x1 x2 x3 x4 x5 x6 x7 x8 x9 x10 x11, w1.heap[R]? = some (.cells #[x0, x1, x2, x3, x4, x5, x6, x7, x8, x9, x10, x11] T (0, 0)) := by
  obtain ⟨_, cs, h2, h3, _⟩ := h
  obtain ⟨l⟩ := cs
  match l, h3 with
  | [x0, x1, x2, x3, x4, x5, x6, x7, x8, x9, x10, x11], _ => exact ⟨x0, x1, x2, x3, x4, x5, x6, x7, x8, x9, x10, x11, h2⟩
theorem Sl.zr {W w1 : World} {kd : IntKind} {v : Value} {xs : List Nat} {R k : Nat} {T : TypeId} (h : Sl W kd v xs) (hz : Zr W w1 R T k) (hne : ∀ b off cap, v = .slice (some ⟨b, off, none⟩) xs.length cap → 0 < xs.length → b ≠ R) : Sl w1 kd v xs := by
  obtain ⟨ao, cap, rfl, h1, h2, h3, h4, h5⟩ := h
  have hsz : W.heap.size ≤ w1.heap.size := by obtain ⟨⟨_, _, _, h, _⟩, _⟩ := hz; exact h
  refine ⟨ao, cap, rfl, h1, h2, h3, h4, fun hp => ?_⟩
  obtain ⟨b, off, rfl, hb, hc⟩ := h5 hp
  exact ⟨b, off, rfl, by omega, fun j hj => hz.cell (hc j hj) (hne b off cap rfl hp)⟩
theorem IntR.zr {W w1 : World} {v : Value} {z : Int} {R k : Nat} {T : TypeId} (h : IntR W v z) (hz : Zr W w1 R T k) (hn : NotIn v R) : IntR w1 v z := by
  obtain ⟨⟨u, rfl, ys, h1, h2⟩, n', u', xs, e, h3, h4⟩ := h
  simp only [Value.agg.injEq, Array.mk.injEq, List.cons.injEq, Value.bool.injEq, and_true] at e
  obtain ⟨rfl, rfl⟩ := e
  exact ⟨⟨u, rfl, ys, h1.zr hz (fun b off cap e hp => hn _ _ _ _ _ (by rw [e]) hp), h2⟩, _, u, xs, rfl, h3.zr hz (fun b off cap e hp => hn _ _ _ _ _ (by rw [e]) hp), h4⟩
theorem IntR.zrn {W w1 : World} {v : Value} {z : Int} {R k : Nat} {T : TypeId} {cs : Array Value} (h : IntR W v z) (hR : W.heap[R]? = some (.cells cs T (0, 0))) (hn : NoInt cs) (hz : ZrN W w1 R T k) : IntR w1 v z := h.zr hz.zr (h.notIn hR hn)
theorem Rws.zrn {w w' : World} {A B R k : Nat} {T : TypeId} {cs : Array Value} {s : ESt} {n0 n1 n2 n3 n4 n5 : Bool} {a0 a1 a2 a3 a4 a5 : Option Addr} {k0 c0 k1 c1 k2 c2 k3 c3 k4 c4 k5 c5 : Nat} (h : Rws w A B s n0 n1 n2 n3 n4 n5 a0 a1 a2 a3 a4 a5 k0 c0 k1 c1 k2 c2 k3 c3 k4 c4 k5 c5) (hR : w.heap[R]? = some (.cells cs T (0, 0))) (hn : NoInt cs) (hz : ZrN w w' R T k) : Rws w' A B s n0 n1 n2 n3 n4 n5 a0 a1 a2 a3 a4 a5 k0 c0 k1 c1 k2 c2 k3 c3 k4 c4 k5 c5 := by
  obtain ⟨⟨h0, h1, h2, h3, h4, h5⟩, h⟩ := h
  exact ⟨⟨h0.zrn hR hn hz, h1.zrn hR hn hz, h2.zrn hR hn hz, h3.zrn hR hn hz, h4.zrn hR hn hz, h5.zrn hR hn hz⟩, h⟩

set_option maxHeartbeats 16000000 in
set_option maxRecDepth 100000 in
theorem rnext_any (A B : Nat) (s : ESt) (n0 n1 n2 n3 n4 n5 : Bool) (a0 a1 a2 a3 a4 a5 : Option Addr) (k0 c0 k1 c1 k2 c2 k3 c3 k4 c4 k5 c5 : Nat) (w : World) (hrw : Rws w A B s n0 n1 n2 n3 n4 n5 a0 a1 a2 a3 a4 a5 k0 c0 k1 c1 k2 c2 k3 c3 k4 c4 k5 c5) (hA : max A 1 < Big) (hB : max B 1 < Big) (hq : 0 < s.q) :
    Calls Tryz.prog 24 #[.agg #[.bool n0, .slice a0 k0 c0, .bool n1, .slice a1 k1 c1, .bool n2, .slice a2 k2 c2, .bool n3, .slice a3 k3 c3, .bool n4, .slice a4 k4 c4, .bool n5, .slice a5 k5 c5]] w fun e w' => ∃ s' n0 n1 n2 n3 n4 n5 a0 a1 a2 a3 a4 a5 k0 c0 k1 c1 k2 c2 k3 c3 k4 c4 k5 c5, e = .returned (.agg #[.bool n0, .slice a0 k0 c0, .bool n1, .slice a1 k1 c1, .bool n2, .slice a2 k2 c2, .bool n3, .slice a3 k3 c3, .bool n4, .slice a4 k4 c4, .bool n5, .slice a5 k5 c5]) ∧ Rws w' A B s' n0 n1 n2 n3 n4 n5 a0 a1 a2 a3 a4 a5 k0 c0 k1 c1 k2 c2 k3 c3 k4 c4 k5 c5 ∧ eEnd s' = eEnd s ∧ s'.q < s.q ∧ Below w.heap.size w w' := by
  have HW := Lib.hid hrw
  obtain ⟨⟨h0, h1, h2, h3, h4, h5⟩, hp, hqq, hinv⟩ := hrw
  have SU : Hid (∀ w1, Below w.heap.size w w1 → Calls Tryz.prog 50 #[.agg #[.bool n0, .slice a0 k0 c0, .bool n1, .slice a1 k1 c1, .bool n2, .slice a2 k2 c2, .bool n3, .slice a3 k3 c3, .bool n4, .slice a4 k4 c4, .bool n5, .slice a5 k5 c5]] w1 fun e w' => ∃ va vb vc vd, e = .returned (.agg #[.int .i64 va, .int .i64 vb, .int .i64 vc, .int .i64 vd]) ∧ Sure s va vb vc vd ∧ Below w1.heap.size w1 w') := Lib.hid (fun w1 hb => sure_any s _ _ _ _ _ _ _ _ _ _ _ _ _ _ _ _ _ _ _ _ _ _ _ _ w1 (h0.below hb) (h3.below hb) hp hqq)
  have HA := Lib.hid hA; have HB := Lib.hid hB; have HQ := Lib.hid hq; have HI := Lib.hid hinv; have HP := Lib.hid hp; have HQQ := Lib.hid hqq
  clear h0 h1 h2 h3 h4 h5 hp hqq hinv hA hB hq
  go_enter Tryz.func24, Tryz.ntmps24
  obtain ⟨W, eW, hX, hR, bel, hsz⟩ := alloc2 w (Obj.cells #[Value.bool n0, Value.slice a0 k0 c0, Value.bool n1, Value.slice a1 k1 c1, Value.bool n2, Value.slice a2 k2 c2, Value.bool n3, Value.slice a3 k3 c3, Value.bool n4, Value.slice a4 k4 c4, Value.bool n5, Value.slice a5 k5 c5] 54) (Obj.cells #[Value.bool false, Value.slice none 0 0, Value.bool false, Value.slice none 0 0, Value.bool false, Value.slice none 0 0, Value.bool false, Value.slice none 0 0, Value.bool false, Value.slice none 0 0, Value.bool false, Value.slice none 0 0] 54)
  obtain ⟨q0, q1, q2, q3, q4, q5, q6, q7, q8, q9, q10, q11⟩ := blk12 hX
  have HX := Lib.hid hX; have HR : Hid (W.heap[w.heap.size + 1]? = _) := Lib.hid hR; have BW := Lib.hid bel
  have SUW := Lib.hid (SU.out W bel)
  clear hX hR bel SU
  go_wp2_with fail
  clear eW
  refine SUW.out.mono ?_
  rintro e w1 ⟨va, vb, vc, vd, rfl, hsu, b1⟩
  have HS := Lib.hid hsu
  have hz1 := b1.size
  obtain ⟨V, eV, hV, belV, hszV⟩ := alloc1 w1 (Obj.cells #[Value.int IntKind.i64 va, Value.int IntKind.i64 vb, Value.int IntKind.i64 vc, Value.int IntKind.i64 vd] 87)
  have BV := Lib.hid (below_of (below_of BW.out b1) belV)
  have HXV := Lib.hid (blk_below' belV (blk_below' b1 HX.out)); have HRV := Lib.hid (blk_below' belV (blk_below' b1 HR.out)); have HV := Lib.hid hV
  obtain ⟨mv, hmv⟩ : ∃ mv, (!decide (va = 1 ∧ vb = 0 ∧ vc = 0 ∧ vd = 1)) = mv := ⟨_, rfl⟩
  have MV := Lib.hid (moves_is va vb vc vd mv V hmv)
  have HMV := Lib.hid hmv
  obtain ⟨⟨r0, r1', r2', r3'⟩, _⟩ := blk4' hV
  clear hsu b1 hV belV HX HR SUW BW hmv q0 q1 q2 q3 q4 q5 q6 q7 q8 q9 q10 q11
  go_wp2_with fail
  clear eV
  refine MV.out.mono ?_
  rintro e w2 ⟨rfl, b2⟩
  have B2 := Lib.hid (below_of BV.out b2)
  have hz2 := b2.size
  have HX2 := Lib.hid (blk_below' b2 HXV.out); have HR2 := Lib.hid (blk_below' b2 HRV.out); have HV2 := Lib.hid (blk_below' b2 HV.out)
  have HW2 := Lib.hid (HW.out.below B2.out)
  clear b2 HXV HRV HV BV HW MV r0 r1' r2' r3'
  obtain ⟨q0, q1, q2, q3, q4, q5, q6, q7, q8, q9, q10, q11⟩ := blk12 HX2.out
  obtain ⟨z0, z1, z2, z3, z4, z5, z6, z7, z8, z9, z10, z11⟩ := blk12 HR2.out
  obtain ⟨g0, g1, g2, g3, g4, g5, g6, g7, g8, g9, g10, g11⟩ := frozen12 HR2.out
  obtain ⟨⟨t0, t1, t2, t3⟩, _⟩ := blk4' HV2.out
  have l0 : w.heap.size < w2.heap.size := (Array.getElem?_eq_some_iff.1 HX2.out).1
  have l1 : w1.heap.size < w2.heap.size := (Array.getElem?_eq_some_iff.1 HV2.out).1
  have l2 : w.heap.size + 1 < w2.heap.size := (Array.getElem?_eq_some_iff.1 HR2.out).1
  cases mv
  · -- a division
    obtain ⟨hi', he', hq', ep, e1r, e2r, hqc, x1, x2, x3⟩ := div_mix HI.out HQ.out HA.out HB.out HP.out HQQ.out
    have HSP : Hid ((eNext s).p < Big ∧ (eNext s).q < Big ∧ EInv A B (eNext s) ∧ eEnd (eNext s) = eEnd s ∧ (eNext s).q < s.q) := Lib.hid ⟨by rw [ep]; exact HQQ.out, by have := x1.sn; rw [Int.natAbs_natCast] at this; exact this, hi', he', hq'⟩
    have QU : Hid (Calls Tryz.prog 15 #[.agg #[.bool n0, .slice a0 k0 c0], .agg #[.bool n3, .slice a3 k3 c3]] w2 fun e w' => Res2 w2 w' e ((s.p / s.q : Nat) : Int) (rC (s.p : Int) (s.q : Int))) := Lib.hid (by
      obtain ⟨⟨h0, h1, h2, h3, h4, h5⟩, _⟩ := HW2.out
      have h := quoF _ _ (s.p : Int) (s.q : Int) w2 h0.2 h3.2 (by rw [Int.natAbs_natCast]; exact HP.out) (by rw [Int.natAbs_natCast]; exact HQQ.out) (by have := HQ.out; omega)
      rw [hqc] at h; exact h)
    have EP := Lib.hid ep; have E1R := Lib.hid e1r; have E2R := Lib.hid e2r
    clear z0 z1 z2 z3 z4 z5 z6 z7 z8 z9 z10 z11 g0 g1 g2 g3 g4 g5 g6 g7 g8 g9 g10 g11 t0 t1 t2 t3 hi' he' hq' ep e1r e2r hqc
    go_wp2_with fail
    refine QU.out.mono ?_
    rintro e w3 ⟨m1, d1, l1', e1, m2, d2, l2', e2, rfl, y1, y2, b3⟩
    have B3 := Lib.hid b3
    have IQ := Lib.hid y1
    have hz3 := b3.size
    obtain ⟨V3, eV3, hV1, hV2, belV3, hszV3⟩ := alloc2 w3 (Obj.cells #[Value.bool m1, Value.slice d1 l1' e1] 25) (Obj.cells #[Value.bool m2, Value.slice d2 l2' e2] 25)
    have B23 := Lib.hid (below_of b3 belV3)
    have IQ3 := Lib.hid (y1.below belV3)
    have HW3 := Lib.hid (HW2.out.below B23.out)
    have HX3 := Lib.hid (blk_below' B23.out HX2.out); have HR3 := Lib.hid (blk_below' B23.out HR2.out); have HQ3 := Lib.hid hV1
    have hBV3 := B23.out
    clear y1 y2 b3 hV1 hV2 belV3 q0 q1 q2 q3 q4 q5 q6 q7 q8 q9 q10 q11 IQ
    go_wp2_with fail
    try rw [eV3]
    clear eV3
    obtain ⟨q0, q1, q2, q3, q4, q5, q6, q7, q8, q9, q10, q11⟩ := blk12 HX3.out
    obtain ⟨t0, t1, _, _, _⟩ := blk2 HQ3.out
    have l3 : w.heap.size < V3.heap.size := (Array.getElem?_eq_some_iff.1 HX3.out).1
    have l4 : w3.heap.size < V3.heap.size := (Array.getElem?_eq_some_iff.1 HQ3.out).1
    have OF1 : Hid (∀ w1, Calls Tryz.prog 17 #[.int .i64 1] w1 fun e w' => Res0 w1 w' e 1) := Lib.hid (fun w1 => ofF 1 w1 (by omega) (by omega))
    have NG : Hid (∀ w1, ZrN V3 w1 (w.heap.size + 1) 54 12 → Calls Tryz.prog 19 #[.agg #[.bool m1, .slice d1 l1' e1]] w1 fun e w' => Res0 w1 w' e (-((s.p / s.q : Nat) : Int))) := Lib.hid (fun w1 hb => negF _ _ w1 (IQ3.out.zrn HR3.out (noint12 _ _ _ _ _ _ _ _ _ _ _ _ _ _ _ _ _ _ _ _ _ _ _ _) hb).2 (by rw [Int.natAbs_natCast]; exact Nat.lt_of_le_of_lt (Nat.div_le_self _ _) HP.out))
    have MX : Hid (∀ (nx ny : Bool) (ax ay : Option Addr) (kx cx ky cy : Nat) w1, ZrN V3 w1 (w.heap.size + 1) 54 12 → IntR w1 (.agg #[.bool nx, .slice ax kx cx]) 1 → IntR w1 (.agg #[.bool ny, .slice ay ky cy]) (-((s.p / s.q : Nat) : Int)) → Calls Tryz.prog 52 #[.agg #[.bool n0, .slice a0 k0 c0, .bool n1, .slice a1 k1 c1, .bool n2, .slice a2 k2 c2, .bool n3, .slice a3 k3 c3, .bool n4, .slice a4 k4 c4, .bool n5, .slice a5 k5 c5], .agg #[.bool nx, .slice ax kx cx], .agg #[.bool ny, .slice ay ky cy]] w1 fun e w' => ∃ n0 a0 k0 c0 n1 a1 k1 c1 n2 a2 k2 c2, e = .returned (.agg #[.bool n0, .slice a0 k0 c0, .bool n1, .slice a1 k1 c1, .bool n2, .slice a2 k2 c2]) ∧ IntR w' (.agg #[.bool n0, .slice a0 k0 c0]) ((eNext s).q : Int) ∧ IntR w' (.agg #[.bool n1, .slice a1 k1 c1]) (r3 (eNext s)) ∧ IntR w' (.agg #[.bool n2, .slice a2 k2 c2]) (r4 (eNext s)) ∧ Below w1.heap.size w1 w') := Lib.hid (fun nx ny ax ay kx cx ky cy w1 hb ha hb' => by
      obtain ⟨⟨h0, h1, h2, h3, h4, h5⟩, _⟩ := HW3.out.zrn HR3.out (noint12 _ _ _ _ _ _ _ _ _ _ _ _ _ _ _ _ _ _ _ _ _ _ _ _) hb
      exact mixed_any _ _ _ _ _ _ _ _ _ _ _ _ _ _ _ _ _ _ _ _ _ _ _ _ nx ny ax ay kx cx ky cy _ _ _ _ _ _ _ _ _ _ _ w1 ha hb' h0 h1 h2 h3 h4 h5 x1 x2 x3)
    have STAY : Hid (∀ w', ZrN V3 w' (w.heap.size + 1) 54 12 → w'.cell? ⟨w.heap.size, 0, none⟩ = some (.bool n0) ∧ w'.cell? ⟨w.heap.size, 1, none⟩ = some (.slice a0 k0 c0) ∧ w'.cell? ⟨w.heap.size, 2, none⟩ = some (.bool n1) ∧ w'.cell? ⟨w.heap.size, 3, none⟩ = some (.slice a1 k1 c1) ∧ w'.cell? ⟨w.heap.size, 4, none⟩ = some (.bool n2) ∧ w'.cell? ⟨w.heap.size, 5, none⟩ = some (.slice a2 k2 c2) ∧ w'.cell? ⟨w.heap.size, 6, none⟩ = some (.bool n3) ∧ w'.cell? ⟨w.heap.size, 7, none⟩ = some (.slice a3 k3 c3) ∧ w'.cell? ⟨w.heap.size, 8, none⟩ = some (.bool n4) ∧ w'.cell? ⟨w.heap.size, 9, none⟩ = some (.slice a4 k4 c4) ∧ w'.cell? ⟨w.heap.size, 10, none⟩ = some (.bool n5) ∧ w'.cell? ⟨w.heap.size, 11, none⟩ = some (.slice a5 k5 c5) ∧ w'.cell? ⟨w3.heap.size, 0, none⟩ = some (.bool m1) ∧ w'.cell? ⟨w3.heap.size, 1, none⟩ = some (.slice d1 l1' e1) ∧ ZrN V3 w' (w.heap.size + 1) 54 12) :=
      Lib.hid (fun w' h => ⟨h.cell q0 (by omega), h.cell q1 (by omega), h.cell q2 (by omega), h.cell q3 (by omega), h.cell q4 (by omega), h.cell q5 (by omega), h.cell q6 (by omega), h.cell q7 (by omega), h.cell q8 (by omega), h.cell q9 (by omega), h.cell q10 (by omega), h.cell q11 (by omega), h.cell t0 (by omega), h.cell t1 (by omega), h⟩)
    have ROW : Hid (∀ w', ZrN V3 w' (w.heap.size + 1) 54 12 → IntR w' (.agg #[.bool n3, .slice a3 k3 c3]) ((eNext s).p : Int) ∧ IntR w' (.agg #[.bool n4, .slice a4 k4 c4]) (r1 (eNext s)) ∧ IntR w' (.agg #[.bool n5, .slice a5 k5 c5]) (r2 (eNext s))) := Lib.hid (fun w' h => by
      obtain ⟨⟨h0, h1, h2, h3, h4, h5⟩, _⟩ := HW3.out.zrn HR3.out (noint12 _ _ _ _ _ _ _ _ _ _ _ _ _ _ _ _ _ _ _ _ _ _ _ _) h
      rw [EP.out, E1R.out, E2R.out]
      exact ⟨h3, h4, h5⟩)
    have hB0 : ZrN V3 V3.drew (w.heap.size + 1) 54 12 := (zrn_start HR3.out (noint12 _ _ _ _ _ _ _ _ _ _ _ _ _ _ _ _ _ _ _ _ _ _ _ _)).drew
    clear q0 q1 q2 q3 q4 q5 q6 q7 q8 q9 q10 q11 t0 t1 x1 x2 x3 hBV3
    go_region_held3 (fun w' => w'.cell? ⟨w.heap.size, 0, none⟩ = some (.bool n0) ∧ w'.cell? ⟨w.heap.size, 1, none⟩ = some (.slice a0 k0 c0) ∧ w'.cell? ⟨w.heap.size, 2, none⟩ = some (.bool n1) ∧ w'.cell? ⟨w.heap.size, 3, none⟩ = some (.slice a1 k1 c1) ∧ w'.cell? ⟨w.heap.size, 4, none⟩ = some (.bool n2) ∧ w'.cell? ⟨w.heap.size, 5, none⟩ = some (.slice a2 k2 c2) ∧ w'.cell? ⟨w.heap.size, 6, none⟩ = some (.bool n3) ∧ w'.cell? ⟨w.heap.size, 7, none⟩ = some (.slice a3 k3 c3) ∧ w'.cell? ⟨w.heap.size, 8, none⟩ = some (.bool n4) ∧ w'.cell? ⟨w.heap.size, 9, none⟩ = some (.slice a4 k4 c4) ∧ w'.cell? ⟨w.heap.size, 10, none⟩ = some (.bool n5) ∧ w'.cell? ⟨w.heap.size, 11, none⟩ = some (.slice a5 k5 c5) ∧ w'.cell? ⟨w3.heap.size, 0, none⟩ = some (.bool m1) ∧ w'.cell? ⟨w3.heap.size, 1, none⟩ = some (.slice d1 l1' e1) ∧ ZrN V3 w' (w.heap.size + 1) 54 12)
      (((try go_split_ands); refine STAY.out _ ?_; repeat (first | (with_reducible assumption) | (with_reducible refine ZrN.setS ?_) | (with_reducible refine ZrN.setB ?_))))
      (first
      | (go_at_call 17; go_split_ands; (with_reducible refine Calls.mono (OF1.out _) ?_); rintro e wA ⟨mA, dA, lA, eA, rfl, zA, bA⟩; have hkA := ZrN.call bA (by with_reducible assumption))
      | (go_at_call 19; go_split_ands; (with_reducible refine Calls.mono (NG.out _ (by with_reducible assumption)) ?_); rintro e wB ⟨mB, dB, lB, eB, rfl, zB, bB⟩; have hkB := ZrN.call bB (by with_reducible assumption); have zAA := zA.below bB)
      | (go_at_call 52; go_split_ands; (with_reducible refine Calls.mono (MX.out _ _ _ _ _ _ _ _ _ (by with_reducible assumption) zAA zB) ?_); rintro e wF ⟨Fn0, Fa0, Fk0, Fc0, Fn1, Fa1, Fk1, Fc1, Fn2, Fa2, Fk2, Fc2, rfl, v0, v1, v2, bF⟩; have hkF := ZrN.call bF (by with_reducible assumption); obtain ⟨u0, u1, u2⟩ := ROW.out _ (hkF); obtain ⟨x0, x1, x2, x3, x4, x5, x6, x7, x8, x9, x10, x11, HFR⟩ := hkF.twelve; obtain ⟨g0, g1, g2, g3, g4, g5, g6, g7, g8, g9, g10, g11⟩ := frozen12 HFR; obtain ⟨z0, z1, z2, z3, z4, z5, z6, z7, z8, z9, z10, z11⟩ := blk12 HFR))
    have NI : Hid (∀ (v : Value) (z : Int), IntR wF v z → NotIn v (w.heap.size + 1)) := Lib.hid (fun v z h => hkF.notIn h)
    have hle : w.heap.size ≤ w.heap.size + 1 := Nat.le_succ _
    have HBF := Lib.hid (hkF.zr.below (below_of B2.out B23.out) hle)
    have Y0 := Lib.hid (u0); have N0 := Lib.hid (NI.out _ _ (u0))
    have Y1 := Lib.hid (u1); have N1 := Lib.hid (NI.out _ _ (u1))
    have Y2 := Lib.hid (u2); have N2 := Lib.hid (NI.out _ _ (u2))
    have Y3 := Lib.hid (v0); have N3 := Lib.hid (NI.out _ _ (v0))
    have Y4 := Lib.hid (v1); have N4 := Lib.hid (NI.out _ _ (v1))
    have Y5 := Lib.hid (v2); have N5 := Lib.hid (NI.out _ _ (v2))
    go_wp2
    refine bodyPost_ret (v := .agg #[.bool n3, .slice a3 k3 c3, .bool n4, .slice a4 k4 c4, .bool n5, .slice a5 k5 c5, .bool Fn0, .slice Fa0 Fk0 Fc0, .bool Fn1, .slice Fa1 Fk1 Fc1, .bool Fn2, .slice Fa2 Fk2 Fc2]) ?_ rfl ⟨eNext s, n3, n4, n5, Fn0, Fn1, Fn2, a3, a4, a5, Fa0, Fa1, Fa2, k3, c3, k4, c4, k5, c5, Fk0, Fc0, Fk1, Fc1, Fk2, Fc2, rfl, ⟨⟨set12 Y0.out N0.out, set12 Y1.out N1.out, set12 Y2.out N2.out, set12 Y3.out N3.out, set12 Y4.out N4.out, set12 Y5.out N5.out⟩, HSP.out.1, HSP.out.2.1, HSP.out.2.2.1⟩, HSP.out.2.2.2.1, HSP.out.2.2.2.2, below12 HBF.out hle⟩
    simp [results, Tryz.results24, go_sem, *]
  · -- steps
    obtain ⟨⟨kv1, kv2, kv3, kv4⟩, hgo⟩ := HS.out
    unfold Mq at kv1 kv2 kv3 kv4
    obtain ⟨s', hi', he', hq', x1, x2, x3, x4, x5, x6⟩ := hgo (by have := HMV.out; intro h; rw [decide_eq_true h] at this; simp at this) A B HI.out HA.out HB.out
    have OA : Hid (∀ w1, Calls Tryz.prog 17 #[.int .i64 va] w1 fun e w' => Res0 w1 w' e va) := Lib.hid (fun w1 => ofF va w1 (by omega) (by omega))
    have OB : Hid (∀ w1, Calls Tryz.prog 17 #[.int .i64 vb] w1 fun e w' => Res0 w1 w' e vb) := Lib.hid (fun w1 => ofF vb w1 (by omega) (by omega))
    have OC : Hid (∀ w1, Calls Tryz.prog 17 #[.int .i64 vc] w1 fun e w' => Res0 w1 w' e vc) := Lib.hid (fun w1 => ofF vc w1 (by omega) (by omega))
    have OD : Hid (∀ w1, Calls Tryz.prog 17 #[.int .i64 vd] w1 fun e w' => Res0 w1 w' e vd) := Lib.hid (fun w1 => ofF vd w1 (by omega) (by omega))
    have MX1 : Hid (∀ (nx ny : Bool) (ax ay : Option Addr) (kx cx ky cy : Nat) w1, ZrN w2 w1 (w.heap.size + 1) 54 12 → IntR w1 (.agg #[.bool nx, .slice ax kx cx]) va → IntR w1 (.agg #[.bool ny, .slice ay ky cy]) vb → Calls Tryz.prog 52 #[.agg #[.bool n0, .slice a0 k0 c0, .bool n1, .slice a1 k1 c1, .bool n2, .slice a2 k2 c2, .bool n3, .slice a3 k3 c3, .bool n4, .slice a4 k4 c4, .bool n5, .slice a5 k5 c5], .agg #[.bool nx, .slice ax kx cx], .agg #[.bool ny, .slice ay ky cy]] w1 fun e w' => ∃ n0 a0 k0 c0 n1 a1 k1 c1 n2 a2 k2 c2, e = .returned (.agg #[.bool n0, .slice a0 k0 c0, .bool n1, .slice a1 k1 c1, .bool n2, .slice a2 k2 c2]) ∧ IntR w' (.agg #[.bool n0, .slice a0 k0 c0]) (s'.p : Int) ∧ IntR w' (.agg #[.bool n1, .slice a1 k1 c1]) (r1 s') ∧ IntR w' (.agg #[.bool n2, .slice a2 k2 c2]) (r2 s') ∧ Below w1.heap.size w1 w') := Lib.hid (fun nx ny ax ay kx cx ky cy w1 hb ha hb' => by
      obtain ⟨⟨h0, h1, h2, h3, h4, h5⟩, _⟩ := HW2.out.zrn HR2.out (noint12 _ _ _ _ _ _ _ _ _ _ _ _ _ _ _ _ _ _ _ _ _ _ _ _) hb
      exact mixed_any _ _ _ _ _ _ _ _ _ _ _ _ _ _ _ _ _ _ _ _ _ _ _ _ nx ny ax ay kx cx ky cy _ _ _ _ _ _ _ _ _ _ _ w1 ha hb' h0 h1 h2 h3 h4 h5 x1 x2 x3)
    have MX2 : Hid (∀ (nx ny : Bool) (ax ay : Option Addr) (kx cx ky cy : Nat) w1, ZrN w2 w1 (w.heap.size + 1) 54 12 → IntR w1 (.agg #[.bool nx, .slice ax kx cx]) vc → IntR w1 (.agg #[.bool ny, .slice ay ky cy]) vd → Calls Tryz.prog 52 #[.agg #[.bool n0, .slice a0 k0 c0, .bool n1, .slice a1 k1 c1, .bool n2, .slice a2 k2 c2, .bool n3, .slice a3 k3 c3, .bool n4, .slice a4 k4 c4, .bool n5, .slice a5 k5 c5], .agg #[.bool nx, .slice ax kx cx], .agg #[.bool ny, .slice ay ky cy]] w1 fun e w' => ∃ n0 a0 k0 c0 n1 a1 k1 c1 n2 a2 k2 c2, e = .returned (.agg #[.bool n0, .slice a0 k0 c0, .bool n1, .slice a1 k1 c1, .bool n2, .slice a2 k2 c2]) ∧ IntR w' (.agg #[.bool n0, .slice a0 k0 c0]) (s'.q : Int) ∧ IntR w' (.agg #[.bool n1, .slice a1 k1 c1]) (r3 s') ∧ IntR w' (.agg #[.bool n2, .slice a2 k2 c2]) (r4 s') ∧ Below w1.heap.size w1 w') := Lib.hid (fun nx ny ax ay kx cx ky cy w1 hb ha hb' => by
      obtain ⟨⟨h0, h1, h2, h3, h4, h5⟩, _⟩ := HW2.out.zrn HR2.out (noint12 _ _ _ _ _ _ _ _ _ _ _ _ _ _ _ _ _ _ _ _ _ _ _ _) hb
      exact mixed_any _ _ _ _ _ _ _ _ _ _ _ _ _ _ _ _ _ _ _ _ _ _ _ _ nx ny ax ay kx cx ky cy _ _ _ _ _ _ _ _ _ _ _ w1 ha hb' h0 h1 h2 h3 h4 h5 x4 x5 x6)
    have HSP : Hid (s'.p < Big ∧ s'.q < Big ∧ EInv A B s' ∧ eEnd s' = eEnd s ∧ s'.q < s.q) := Lib.hid ⟨by have := x1.sn; rw [Int.natAbs_natCast] at this; exact this, by have := x4.sn; rw [Int.natAbs_natCast] at this; exact this, hi', he', hq'⟩
    have STAY : Hid (∀ w', ZrN w2 w' (w.heap.size + 1) 54 12 → w'.cell? ⟨w.heap.size, 0, none⟩ = some (.bool n0) ∧ w'.cell? ⟨w.heap.size, 1, none⟩ = some (.slice a0 k0 c0) ∧ w'.cell? ⟨w.heap.size, 2, none⟩ = some (.bool n1) ∧ w'.cell? ⟨w.heap.size, 3, none⟩ = some (.slice a1 k1 c1) ∧ w'.cell? ⟨w.heap.size, 4, none⟩ = some (.bool n2) ∧ w'.cell? ⟨w.heap.size, 5, none⟩ = some (.slice a2 k2 c2) ∧ w'.cell? ⟨w.heap.size, 6, none⟩ = some (.bool n3) ∧ w'.cell? ⟨w.heap.size, 7, none⟩ = some (.slice a3 k3 c3) ∧ w'.cell? ⟨w.heap.size, 8, none⟩ = some (.bool n4) ∧ w'.cell? ⟨w.heap.size, 9, none⟩ = some (.slice a4 k4 c4) ∧ w'.cell? ⟨w.heap.size, 10, none⟩ = some (.bool n5) ∧ w'.cell? ⟨w.heap.size, 11, none⟩ = some (.slice a5 k5 c5) ∧ w'.cell? ⟨w1.heap.size, 0, none⟩ = some (.int .i64 va) ∧ w'.cell? ⟨w1.heap.size, 1, none⟩ = some (.int .i64 vb) ∧ w'.cell? ⟨w1.heap.size, 2, none⟩ = some (.int .i64 vc) ∧ w'.cell? ⟨w1.heap.size, 3, none⟩ = some (.int .i64 vd) ∧ ZrN w2 w' (w.heap.size + 1) 54 12) :=
      Lib.hid (fun w' h => ⟨h.cell q0 (by omega), h.cell q1 (by omega), h.cell q2 (by omega), h.cell q3 (by omega), h.cell q4 (by omega), h.cell q5 (by omega), h.cell q6 (by omega), h.cell q7 (by omega), h.cell q8 (by omega), h.cell q9 (by omega), h.cell q10 (by omega), h.cell q11 (by omega), h.cell t0 (by omega), h.cell t1 (by omega), h.cell t2 (by omega), h.cell t3 (by omega), h⟩)
    have hB0 : ZrN w2 w2.drew (w.heap.size + 1) 54 12 := (zrn_start HR2.out (noint12 _ _ _ _ _ _ _ _ _ _ _ _ _ _ _ _ _ _ _ _ _ _ _ _)).drew
    clear q0 q1 q2 q3 q4 q5 q6 q7 q8 q9 q10 q11 z0 z1 z2 z3 z4 z5 z6 z7 z8 z9 z10 z11 g0 g1 g2 g3 g4 g5 g6 g7 g8 g9 g10 g11 t0 t1 t2 t3 kv1 kv2 kv3 kv4 hgo hi' he' hq' x1 x2 x3 x4 x5 x6
    go_wp2_with fail
    go_region_held3 (fun w' => w'.cell? ⟨w.heap.size, 0, none⟩ = some (.bool n0) ∧ w'.cell? ⟨w.heap.size, 1, none⟩ = some (.slice a0 k0 c0) ∧ w'.cell? ⟨w.heap.size, 2, none⟩ = some (.bool n1) ∧ w'.cell? ⟨w.heap.size, 3, none⟩ = some (.slice a1 k1 c1) ∧ w'.cell? ⟨w.heap.size, 4, none⟩ = some (.bool n2) ∧ w'.cell? ⟨w.heap.size, 5, none⟩ = some (.slice a2 k2 c2) ∧ w'.cell? ⟨w.heap.size, 6, none⟩ = some (.bool n3) ∧ w'.cell? ⟨w.heap.size, 7, none⟩ = some (.slice a3 k3 c3) ∧ w'.cell? ⟨w.heap.size, 8, none⟩ = some (.bool n4) ∧ w'.cell? ⟨w.heap.size, 9, none⟩ = some (.slice a4 k4 c4) ∧ w'.cell? ⟨w.heap.size, 10, none⟩ = some (.bool n5) ∧ w'.cell? ⟨w.heap.size, 11, none⟩ = some (.slice a5 k5 c5) ∧ w'.cell? ⟨w1.heap.size, 0, none⟩ = some (.int .i64 va) ∧ w'.cell? ⟨w1.heap.size, 1, none⟩ = some (.int .i64 vb) ∧ w'.cell? ⟨w1.heap.size, 2, none⟩ = some (.int .i64 vc) ∧ w'.cell? ⟨w1.heap.size, 3, none⟩ = some (.int .i64 vd) ∧ ZrN w2 w' (w.heap.size + 1) 54 12)
      (((try go_split_ands); refine STAY.out _ ?_; repeat (first | (with_reducible assumption) | (with_reducible refine ZrN.setS ?_) | (with_reducible refine ZrN.setB ?_))))
      (first
      | (go_at_call 17; go_split_ands; first
        | ((with_reducible refine Calls.mono (OA.out _) ?_); rintro e wA ⟨mA, dA, lA, eA, rfl, zA, bA⟩; have hkA := ZrN.call bA (by with_reducible assumption))
        | ((with_reducible refine Calls.mono (OB.out _) ?_); rintro e wB ⟨mB, dB, lB, eB, rfl, zB, bB⟩; have hkB := ZrN.call bB (by with_reducible assumption); have zAA := zA.below bB)
        | ((with_reducible refine Calls.mono (OC.out _) ?_); rintro e wC ⟨mC, dC, lC, eC, rfl, zC, bC⟩; have hkC := ZrN.call bC (by with_reducible assumption); have uv0 := u0.below bC; have uv1 := u1.below bC; have uv2 := u2.below bC)
        | ((with_reducible refine Calls.mono (OD.out _) ?_); rintro e wD ⟨mD, dD, lD, eD, rfl, zD, bD⟩; have hkD := ZrN.call bD (by with_reducible assumption); have zCC := zC.below bD; have uw0 := uv0.below bD; have uw1 := uv1.below bD; have uw2 := uv2.below bD))
      | (go_at_call 52; go_split_ands; first
        | (have h5 := zD; (with_reducible refine Calls.mono (MX2.out _ _ _ _ _ _ _ _ _ (by with_reducible assumption) zCC zD) ?_); rintro e wF ⟨Fn0, Fa0, Fk0, Fc0, Fn1, Fa1, Fk1, Fc1, Fn2, Fa2, Fk2, Fc2, rfl, v0, v1, v2, bF⟩; have ux0 := uw0.below bF; have ux1 := uw1.below bF; have ux2 := uw2.below bF; have hkF := ZrN.call bF (by with_reducible assumption); obtain ⟨x0, x1, x2, x3, x4, x5, x6, x7, x8, x9, x10, x11, HFR⟩ := hkF.twelve; obtain ⟨g0, g1, g2, g3, g4, g5, g6, g7, g8, g9, g10, g11⟩ := frozen12 HFR; obtain ⟨z0, z1, z2, z3, z4, z5, z6, z7, z8, z9, z10, z11⟩ := blk12 HFR)
        | ((with_reducible refine Calls.mono (MX1.out _ _ _ _ _ _ _ _ _ (by with_reducible assumption) zAA zB) ?_); rintro e wE ⟨En0, Ea0, Ek0, Ec0, En1, Ea1, Ek1, Ec1, En2, Ea2, Ek2, Ec2, rfl, u0, u1, u2, bE⟩; have hkE := ZrN.call bE (by with_reducible assumption))))
    have NI : Hid (∀ (v : Value) (z : Int), IntR wF v z → NotIn v (w.heap.size + 1)) := Lib.hid (fun v z h => hkF.notIn h)
    have hle : w.heap.size ≤ w.heap.size + 1 := Nat.le_succ _
    have HBF := Lib.hid (hkF.zr.below B2.out hle)
    have Y0 := Lib.hid (ux0); have N0 := Lib.hid (NI.out _ _ (ux0))
    have Y1 := Lib.hid (ux1); have N1 := Lib.hid (NI.out _ _ (ux1))
    have Y2 := Lib.hid (ux2); have N2 := Lib.hid (NI.out _ _ (ux2))
    have Y3 := Lib.hid (v0); have N3 := Lib.hid (NI.out _ _ (v0))
    have Y4 := Lib.hid (v1); have N4 := Lib.hid (NI.out _ _ (v1))
    have Y5 := Lib.hid (v2); have N5 := Lib.hid (NI.out _ _ (v2))
    go_wp2
    refine bodyPost_ret (v := .agg #[.bool En0, .slice Ea0 Ek0 Ec0, .bool En1, .slice Ea1 Ek1 Ec1, .bool En2, .slice Ea2 Ek2 Ec2, .bool Fn0, .slice Fa0 Fk0 Fc0, .bool Fn1, .slice Fa1 Fk1 Fc1, .bool Fn2, .slice Fa2 Fk2 Fc2]) ?_ rfl ⟨s', En0, En1, En2, Fn0, Fn1, Fn2, Ea0, Ea1, Ea2, Fa0, Fa1, Fa2, Ek0, Ec0, Ek1, Ec1, Ek2, Ec2, Fk0, Fc0, Fk1, Fc1, Fk2, Fc2, rfl, ⟨⟨set12 Y0.out N0.out, set12 Y1.out N1.out, set12 Y2.out N2.out, set12 Y3.out N3.out, set12 Y4.out N4.out, set12 Y5.out N5.out⟩, HSP.out.1, HSP.out.2.1, HSP.out.2.2.1⟩, HSP.out.2.2.2.1, HSP.out.2.2.2.2, below12 HBF.out hle⟩
    simp [results, Tryz.results24, go_sem, *]
end Go.Proofs.YtfdilnfmcpbkgaaGreatDoor

/- Package whole: Extended. -/
namespace Go.Proofs.YtfdilnfmcpbkgaaGreatDoor
open Go.RowKit Mth

set_option maxHeartbeats 4000000 in
set_option maxRecDepth 100000 in
theorem extI_big (va vb : Value) (x y : Int) (w : World) (ha : IntV w va x) (hb : IntV w vb y) (hl : Big ≤ x.natAbs ∨ Big ≤ y.natAbs) :
    Calls Tryz.prog 6 #[va, vb] w fun e w' => e = .returned (.tuple #[.agg #[.bool false, .slice none 0 0], .agg #[.bool false, .slice none 0 0], .agg #[.bool false, .slice none 0 0], .int .i64 5]) ∧ Below w.heap.size w w' := by
  obtain ⟨n1, a1, k1, c1, t1, rfl, N1, R1'⟩ := ha.rd
  obtain ⟨n2, a2, k2, c2, t2, rfl, N2, R2'⟩ := hb.rd
  have L1 : 4096 < t1 ↔ Big ≤ x.natAbs := by
    obtain ⟨u, e, hn⟩ := N1
    simp only [Value.agg.injEq, Array.mk.injEq, List.cons.injEq, and_true] at e
    obtain ⟨rfl, _⟩ := e
    exact num_long hn
  have L2 : 4096 < t2 ↔ Big ≤ y.natAbs := by
    obtain ⟨u, e, hn⟩ := N2
    simp only [Value.agg.injEq, Array.mk.injEq, List.cons.injEq, and_true] at e
    obtain ⟨rfl, _⟩ := e
    exact num_long hn
  have R1 := Lib.hid R1'; have R2 := Lib.hid R2'
  have hfd := field_amount
  obtain ⟨d1, hd1⟩ : ∃ d, decide ((4096 : Int) < (t1 : Int)) = d := ⟨_, rfl⟩
  have HD : Hid (d1 = true ∨ decide ((4096 : Int) < (t2 : Int)) = true) := Lib.hid (by
    rcases hl with h | h
    · exact .inl (by rw [← hd1]; exact decide_eq_true (by have := L1.2 h; omega))
    · exact .inr (decide_eq_true (by have := L2.2 h; omega)))
  clear hl
  clear R1' R2' L1 L2 N1 N2
  go_enter Tryz.func6, Tryz.ntmps6
  obtain ⟨W, eW, hA, hB, hR1, hR2, hR3, bel, hsz⟩ := alloc5 w (Obj.cells #[Value.bool n1, Value.slice a1 k1 c1] 25) (Obj.cells #[Value.bool n2, Value.slice a2 k2 c2] 25) (Obj.cells #[Value.bool false, Value.slice none 0 0] 25) (Obj.cells #[Value.bool false, Value.slice none 0 0] 25) (Obj.cells #[Value.bool false, Value.slice none 0 0] 25)
  obtain ⟨p0, p1, _, _, _⟩ := blk2 hA
  have HA := Lib.hid hA; have HB := Lib.hid hB; have HR1 := Lib.hid hR1; have HR2 : Hid (W.heap[w.heap.size + 1 + 1 + 1]? = _) := Lib.hid hR2; have HR3 : Hid (W.heap[w.heap.size + 1 + 1 + 1 + 1]? = _) := Lib.hid hR3
  have BW := Lib.hid bel
  clear hA hB hR1 hR2 hR3 bel
  go_wp2_with fail
  clear eW
  refine (R1.out W BW.out).mono ?_
  rintro e w1 ⟨rfl, b1, s1⟩
  have B1 := Lib.hid (below_of BW.out b1)
  have A1 := Lib.hid (blk_below' b1 HA.out); have Bb1 := Lib.hid (blk_below' b1 HB.out); have Q1 := Lib.hid (blk_below' b1 HR1.out); have Q2 := Lib.hid (blk_below' b1 HR2.out); have Q3 := Lib.hid (blk_below' b1 HR3.out)
  clear b1 s1 p0 p1 HA HB HR1 HR2 HR3
  cases d1
  · have hd2 : decide ((4096 : Int) < (t2 : Int)) = true := by rcases HD.out with h | h; · cases h
                                                               · exact h
    obtain ⟨q0, q1, _, _, _⟩ := blk2 Bb1.out
    clear HD
    go_wp2_with (go_at_call 23; refine (long_is _ _ _ _).mono ?_; rintro e w' ⟨rfl, rfl⟩)
    refine (R2.out w1 B1.out).mono ?_
    rintro e w2 ⟨rfl, b2, s2⟩
    have B2 := Lib.hid (below_of B1.out b2)
    have P1 := Lib.hid (blk_below' b2 Q1.out); have P2 := Lib.hid (blk_below' b2 Q2.out); have P3 := Lib.hid (blk_below' b2 Q3.out)
    clear b2 s2 q0 q1 Q1 Q2 Q3
    obtain ⟨x00, x01, x02, x03, x04⟩ := blk2 P1.out
    obtain ⟨x10, x11, x12, x13, x14⟩ := blk2 P2.out
    obtain ⟨x20, x21, x22, x23, x24⟩ := blk2 P3.out
    have l2 : w.heap.size ≤ w.heap.size + 1 + 1 := by omega
    have l3 : w.heap.size ≤ w.heap.size + 1 + 1 + 1 := by omega
    have l4 : w.heap.size ≤ w.heap.size + 1 + 1 + 1 + 1 := by omega
    go_wp2_with (go_at_call 23; refine (long_is _ _ _ _).mono ?_; rintro e w' ⟨rfl, rfl⟩)
    refine bodyPost_ret (v := .tuple #[.agg #[.bool false, .slice none 0 0], .agg #[.bool false, .slice none 0 0], .agg #[.bool false, .slice none 0 0], .int .i64 5]) ?_ rfl ⟨rfl, set_below (set_below (set_below (set_below (set_below (set_below B2.out l2) l2) l3) l3) l4) l4⟩
    simp [results, Tryz.results6, go_sem, *]
  · clear HD
    obtain ⟨x00, x01, x02, x03, x04⟩ := blk2 Q1.out
    obtain ⟨x10, x11, x12, x13, x14⟩ := blk2 Q2.out
    obtain ⟨x20, x21, x22, x23, x24⟩ := blk2 Q3.out
    have l2 : w.heap.size ≤ w.heap.size + 1 + 1 := by omega
    have l3 : w.heap.size ≤ w.heap.size + 1 + 1 + 1 := by omega
    have l4 : w.heap.size ≤ w.heap.size + 1 + 1 + 1 + 1 := by omega
    go_wp2_with (go_at_call 23; refine (long_is _ _ _ _).mono ?_; rintro e w' ⟨rfl, rfl⟩)
    refine bodyPost_ret (v := .tuple #[.agg #[.bool false, .slice none 0 0], .agg #[.bool false, .slice none 0 0], .agg #[.bool false, .slice none 0 0], .int .i64 5]) ?_ rfl ⟨rfl, set_below (set_below (set_below (set_below (set_below (set_below B1.out l2) l2) l3) l3) l4) l4⟩
    simp [results, Tryz.results6, go_sem, *]

end Go.Proofs.YtfdilnfmcpbkgaaGreatDoor

/- Package whole: Extended where neither is long: the beginning. -/
namespace Go.Proofs.YtfdilnfmcpbkgaaGreatDoor
open Go.RowKit Mth

theorem heap12z {w : World} {R : Nat} {y0 y1 y2 y3 y4 y5 y6 y7 y8 y9 y10 y11 : Value} (h : w.heap[R]? = some (.cells #[.bool false, .slice none 0 0, .bool false, .slice none 0 0, .bool false, .slice none 0 0, .bool false, .slice none 0 0, .bool false, .slice none 0 0, .bool false, .slice none 0 0] 54 (0, 0))) : ((((((((((((w.setCell ⟨R, 0, none⟩ y0).setCell ⟨R, 1, none⟩ y1).setCell ⟨R, 2, none⟩ y2).setCell ⟨R, 3, none⟩ y3).setCell ⟨R, 4, none⟩ y4).setCell ⟨R, 5, none⟩ y5).setCell ⟨R, 6, none⟩ y6).setCell ⟨R, 7, none⟩ y7).setCell ⟨R, 8, none⟩ y8).setCell ⟨R, 9, none⟩ y9).setCell ⟨R, 10, none⟩ y10).setCell ⟨R, 11, none⟩ y11).heap[R]? = some (.cells #[y0, y1, y2, y3, y4, y5, y6, y7, y8, y9, y10, y11] 54 (0, 0)) := heap12 h
theorem intr_set12z {w : World} {v y0 y1 y2 y3 y4 y5 y6 y7 y8 y9 y10 y11 : Value} {z : Int} {R : Nat} (h : IntR w v z) (hR : w.heap[R]? = some (.cells #[.bool false, .slice none 0 0, .bool false, .slice none 0 0, .bool false, .slice none 0 0, .bool false, .slice none 0 0, .bool false, .slice none 0 0, .bool false, .slice none 0 0] 54 (0, 0))) : IntR ((((((((((((w.setCell ⟨R, 0, none⟩ y0).setCell ⟨R, 1, none⟩ y1).setCell ⟨R, 2, none⟩ y2).setCell ⟨R, 3, none⟩ y3).setCell ⟨R, 4, none⟩ y4).setCell ⟨R, 5, none⟩ y5).setCell ⟨R, 6, none⟩ y6).setCell ⟨R, 7, none⟩ y7).setCell ⟨R, 8, none⟩ y8).setCell ⟨R, 9, none⟩ y9).setCell ⟨R, 10, none⟩ y10).setCell ⟨R, 11, none⟩ y11) v z := set12 h (h.notIn hR (noint12 _ _ _ _ _ _ _ _ _ _ _ _ _ _ _ _ _ _ _ _ _ _ _ _))
theorem intr_callz {w w' : World} {v : Value} {z : Int} (hb : Below w.heap.size w w') (h : IntR w v z) : IntR w' v z := h.below hb
theorem r_start (A B : Nat) : r1 (eStart A B) = 1 ∧ r2 (eStart A B) = 0 ∧ r3 (eStart A B) = 0 ∧ r4 (eStart A B) = 1 := ⟨rfl, by simp [r2, eStart, sg], by simp [r3, eStart, sg], rfl⟩
def limbQ (w : World) (b off j : Nat) : Nat := match w.cell? ⟨b, off + j, none⟩ with | some (.int _ z) => z.toNat | _ => 0
def natQ (w : World) : Value → Nat
  | .slice (some a) n _ => val B64 ((List.range n).map (limbQ w a.block a.off))
  | _ => 0
theorem natQ_eq {w : World} {v : Value} {xs : List Nat} (h : Sl w .u64 v xs) : natQ w v = val B64 xs := by
  obtain ⟨ao, cap, rfl, h1, h2, h3, h4, h5⟩ := h
  by_cases hp : 0 < xs.length
  · obtain ⟨b, off, rfl, hb, hc⟩ := h5 hp
    have e : (List.range xs.length).map (limbQ w b off) = xs := by
      apply List.ext_getElem
      · simp
      · intro j hj1 hj2
        simp only [List.getElem_map, List.getElem_range, limbQ]
        rw [hc j hj2]
        simp [List.getD_eq_getElem?_getD, hj2]
    show val B64 ((List.range xs.length).map (limbQ w b off)) = _
    rw [e]
  · have : xs = [] := List.eq_nil_of_length_eq_zero (by omega)
    subst this
    cases ao <;> rfl
/-- three boxes of Ints -/
def EvO (W wx : World) (n1 : Bool) (a1 : Option Addr) (k1 c1 : Nat) (n2 : Bool) (a2 : Option Addr) (k2 c2 : Nat) (n3 : Bool) (a3 : Option Addr) (k3 c3 : Nat) (s t u : Value) : Prop := ∃ g h k : Nat, s = .pointer (some ⟨g, 0, none⟩) ∧ t = .pointer (some ⟨h, 0, none⟩) ∧ u = .pointer (some ⟨k, 0, none⟩) ∧
  W.heap.size ≤ g ∧ W.heap.size ≤ h ∧ W.heap.size ≤ k ∧ g ≠ h ∧ g ≠ k ∧ h ≠ k ∧ wx.heap[g]? = some (.cells #[.bool n1, .slice a1 k1 c1] 25 (0, 0)) ∧ wx.heap[h]? = some (.cells #[.bool n2, .slice a2 k2 c2] 25 (0, 0)) ∧ wx.heap[k]? = some (.cells #[.bool n3, .slice a3 k3 c3] 25 (0, 0)) ∧ Below W.heap.size W wx
/-- what stays while three results are written -/
def Ev (w w' : World) (G X Y P Q R : Nat) (og ox oy : Obj) (vg vx vy : Value) (zg zx zy : Int) : Prop := Below w.heap.size w w' ∧ (w'.heap[G]? = some og ∧ w'.heap[X]? = some ox ∧ w'.heap[Y]? = some oy) ∧ (IsB w' P 25 ∧ IsB w' Q 25 ∧ IsB w' R 25) ∧ (IntR w' vg zg ∧ IntR w' vx zx ∧ IntR w' vy zy)
theorem IsB.intr {w : World} {R : Nat} {T : TypeId} {v y0 y1 : Value} {z : Int} (h : IsB w R T) (hi : IntR w v z) : IntR ((w.setCell ⟨R, 0, none⟩ y0).setCell ⟨R, 1, none⟩ y1) v z := by
  obtain ⟨x, ao, n, c, hR⟩ := h
  exact hi.far hR
theorem Ev.drew {w w1 : World} {G X Y P Q R : Nat} {og ox oy : Obj} {vg vx vy : Value} {zg zx zy : Int} (h : Ev w w1 G X Y P Q R og ox oy vg vx vy zg zx zy) : Ev w w1.drew G X Y P Q R og ox oy vg vx vy zg zx zy := ⟨h.1.drew, h.2⟩
theorem Ev.setP {w w1 : World} {G X Y P Q R : Nat} {og ox oy : Obj} {vg vx vy : Value} {zg zx zy : Int} {x : Bool} {ao : Option Addr} {n c : Nat} (h : Ev w w1 G X Y P Q R og ox oy vg vx vy zg zx zy) (hl : w.heap.size ≤ P) (nG : G ≠ P) (nX : X ≠ P) (nY : Y ≠ P) (nQ : Q ≠ P) (nR : R ≠ P) :
    Ev w ((w1.setCell ⟨P, 0, none⟩ (.bool x)).setCell ⟨P, 1, none⟩ (.slice ao n c)) G X Y P Q R og ox oy vg vx vy zg zx zy := by
  obtain ⟨g1, ⟨g2, g3, g4⟩, ⟨b0, b1, b2⟩, g5, g6, g7⟩ := h
  exact ⟨(g1.setCell (p := ⟨P, 0, none⟩) hl _).setCell (p := ⟨P, 1, none⟩) hl _, ⟨blk_two g2 nG, blk_two g3 nX, blk_two g4 nY⟩, ⟨b0.set _ _ _ _, b1.far nQ, b2.far nR⟩, b0.intr g5, b0.intr g6, b0.intr g7⟩
theorem Ev.setQ {w w1 : World} {G X Y P Q R : Nat} {og ox oy : Obj} {vg vx vy : Value} {zg zx zy : Int} {x : Bool} {ao : Option Addr} {n c : Nat} (h : Ev w w1 G X Y P Q R og ox oy vg vx vy zg zx zy) (hl : w.heap.size ≤ Q) (nG : G ≠ Q) (nX : X ≠ Q) (nY : Y ≠ Q) (nP : P ≠ Q) (nR : R ≠ Q) :
    Ev w ((w1.setCell ⟨Q, 0, none⟩ (.bool x)).setCell ⟨Q, 1, none⟩ (.slice ao n c)) G X Y P Q R og ox oy vg vx vy zg zx zy := by
  obtain ⟨g1, ⟨g2, g3, g4⟩, ⟨b0, b1, b2⟩, g5, g6, g7⟩ := h
  exact ⟨(g1.setCell (p := ⟨Q, 0, none⟩) hl _).setCell (p := ⟨Q, 1, none⟩) hl _, ⟨blk_two g2 nG, blk_two g3 nX, blk_two g4 nY⟩, ⟨b0.far nP, b1.set _ _ _ _, b2.far nR⟩, b1.intr g5, b1.intr g6, b1.intr g7⟩
theorem Ev.setR {w w1 : World} {G X Y P Q R : Nat} {og ox oy : Obj} {vg vx vy : Value} {zg zx zy : Int} {x : Bool} {ao : Option Addr} {n c : Nat} (h : Ev w w1 G X Y P Q R og ox oy vg vx vy zg zx zy) (hl : w.heap.size ≤ R) (nG : G ≠ R) (nX : X ≠ R) (nY : Y ≠ R) (nP : P ≠ R) (nQ : Q ≠ R) :
    Ev w ((w1.setCell ⟨R, 0, none⟩ (.bool x)).setCell ⟨R, 1, none⟩ (.slice ao n c)) G X Y P Q R og ox oy vg vx vy zg zx zy := by
  obtain ⟨g1, ⟨g2, g3, g4⟩, ⟨b0, b1, b2⟩, g5, g6, g7⟩ := h
  exact ⟨(g1.setCell (p := ⟨R, 0, none⟩) hl _).setCell (p := ⟨R, 1, none⟩) hl _, ⟨blk_two g2 nG, blk_two g3 nX, blk_two g4 nY⟩, ⟨b0.far nP, b1.far nQ, b2.set _ _ _ _⟩, b2.intr g5, b2.intr g6, b2.intr g7⟩
/-- the second row's number, as it lies in memory -/
def qIn (w : World) (g : Nat) : Nat := match w.cell? ⟨g, 7, none⟩ with | some v => natQ w v | none => 0
theorem qIn_eq {w : World} {g q : Nat} {n0 n1 n2 n3 n4 n5 : Bool} {a0 a1 a2 a3 a4 a5 : Option Addr} {k0 c0 k1 c1 k2 c2 k3 c3 k4 c4 k5 c5 : Nat} {T : TypeId} (h : w.heap[g]? = some (.cells #[.bool n0, .slice a0 k0 c0, .bool n1, .slice a1 k1 c1, .bool n2, .slice a2 k2 c2, .bool n3, .slice a3 k3 c3, .bool n4, .slice a4 k4 c4, .bool n5, .slice a5 k5 c5] T (0, 0))) (hi : IntR w (.agg #[.bool n3, .slice a3 k3 c3]) (q : Int)) : qIn w g = q := by
  obtain ⟨_, _, _, _, _, _, _, h7, _⟩ := blk12 h
  obtain ⟨xs, s, _, e⟩ := hi.limbs
  unfold qIn
  rw [h7]
  simp only
  rw [natQ_eq s, e, Int.natAbs_natCast]
/-- what Extended's loop holds -/
def ExO (W wr : World) (A B g : Nat) : Prop := ∃ (s : ESt) (n0 n1 n2 n3 n4 n5 : Bool) (a0 a1 a2 a3 a4 a5 : Option Addr) (k0 c0 k1 c1 k2 c2 k3 c3 k4 c4 k5 c5 : Nat), wr.heap[g]? = some (.cells #[.bool n0, .slice a0 k0 c0, .bool n1, .slice a1 k1 c1, .bool n2, .slice a2 k2 c2, .bool n3, .slice a3 k3 c3, .bool n4, .slice a4 k4 c4, .bool n5, .slice a5 k5 c5] 54 (0, 0)) ∧ Rws wr A B s n0 n1 n2 n3 n4 n5 a0 a1 a2 a3 a4 a5 k0 c0 k1 c1 k2 c2 k3 c3 k4 c4 k5 c5 ∧ eEnd s = eEnd (eStart A B) ∧ ZrN W wr g 54 12
theorem zrn12 {W w : World} {R k : Nat} {T : TypeId} {b0 b1 b2 b3 b4 b5 : Bool} {a0 a1 a2 a3 a4 a5 : Option Addr} {k0 k1 k2 k3 k4 k5 c0 c1 c2 c3 c4 c5 : Nat} (h : ZrN W w R T k) : ZrN W ((((((((((((w.setCell ⟨R, 0, none⟩ (.bool b0)).setCell ⟨R, 1, none⟩ (.slice a0 k0 c0)).setCell ⟨R, 2, none⟩ (.bool b1)).setCell ⟨R, 3, none⟩ (.slice a1 k1 c1)).setCell ⟨R, 4, none⟩ (.bool b2)).setCell ⟨R, 5, none⟩ (.slice a2 k2 c2)).setCell ⟨R, 6, none⟩ (.bool b3)).setCell ⟨R, 7, none⟩ (.slice a3 k3 c3)).setCell ⟨R, 8, none⟩ (.bool b4)).setCell ⟨R, 9, none⟩ (.slice a4 k4 c4)).setCell ⟨R, 10, none⟩ (.bool b5)).setCell ⟨R, 11, none⟩ (.slice a5 k5 c5)) R T k :=
  ((((((((((((h.setB).setS).setB).setS).setB).setS).setB).setS).setB).setS).setB).setS)
theorem rws12 {w : World} {R A B : Nat} {T : TypeId} {cs : Array Value} {s : ESt} {n0 n1 n2 n3 n4 n5 : Bool} {a0 a1 a2 a3 a4 a5 : Option Addr} {k0 c0 k1 c1 k2 c2 k3 c3 k4 c4 k5 c5 : Nat} {y0 y1 y2 y3 y4 y5 y6 y7 y8 y9 y10 y11 : Value} (h : Rws w A B s n0 n1 n2 n3 n4 n5 a0 a1 a2 a3 a4 a5 k0 c0 k1 c1 k2 c2 k3 c3 k4 c4 k5 c5) (hR : w.heap[R]? = some (.cells cs T (0, 0))) (hn : NoInt cs) : Rws ((((((((((((w.setCell ⟨R, 0, none⟩ y0).setCell ⟨R, 1, none⟩ y1).setCell ⟨R, 2, none⟩ y2).setCell ⟨R, 3, none⟩ y3).setCell ⟨R, 4, none⟩ y4).setCell ⟨R, 5, none⟩ y5).setCell ⟨R, 6, none⟩ y6).setCell ⟨R, 7, none⟩ y7).setCell ⟨R, 8, none⟩ y8).setCell ⟨R, 9, none⟩ y9).setCell ⟨R, 10, none⟩ y10).setCell ⟨R, 11, none⟩ y11) A B s n0 n1 n2 n3 n4 n5 a0 a1 a2 a3 a4 a5 k0 c0 k1 c1 k2 c2 k3 c3 k4 c4 k5 c5 := by
  obtain ⟨⟨h0, h1, h2, h3, h4, h5⟩, h⟩ := h
  exact ⟨⟨set12 h0 (h0.notIn hR hn), set12 h1 (h1.notIn hR hn), set12 h2 (h2.notIn hR hn), set12 h3 (h3.notIn hR hn), set12 h4 (h4.notIn hR hn), set12 h5 (h5.notIn hR hn)⟩, h⟩
/-- a box of two rows -/
def RxO (W wx : World) (z0 z1 z2 z3 z4 z5 : Int) (v : Value) : Prop := ∃ (g : Nat) (n0 n1 n2 n3 n4 n5 : Bool) (a0 a1 a2 a3 a4 a5 : Option Addr) (k0 c0 k1 c1 k2 c2 k3 c3 k4 c4 k5 c5 : Nat), v = .pointer (some ⟨g, 0, none⟩) ∧ W.heap.size ≤ g ∧ wx.heap[g]? = some (.cells #[.bool n0, .slice a0 k0 c0, .bool n1, .slice a1 k1 c1, .bool n2, .slice a2 k2 c2, .bool n3, .slice a3 k3 c3, .bool n4, .slice a4 k4 c4, .bool n5, .slice a5 k5 c5] 54 (0, 0)) ∧
  IntR wx (.agg #[.bool n0, .slice a0 k0 c0]) z0 ∧ IntR wx (.agg #[.bool n1, .slice a1 k1 c1]) z1 ∧ IntR wx (.agg #[.bool n2, .slice a2 k2 c2]) z2 ∧ IntR wx (.agg #[.bool n3, .slice a3 k3 c3]) z3 ∧ IntR wx (.agg #[.bool n4, .slice a4 k4 c4]) z4 ∧ IntR wx (.agg #[.bool n5, .slice a5 k5 c5]) z5 ∧ Below W.heap.size W wx
set_option maxHeartbeats 32000000 in
set_option maxRecDepth 100000 in
theorem extI_fine (va vb : Value) (x y : Int) (w : World) (ha : IntV w va x) (hb : IntV w vb y) (hx : x.natAbs < Big) (hy : y.natAbs < Big) :
    Calls Tryz.prog 6 #[va, vb] w fun e w' => ∃ v1 v2 v3, e = .returned (.tuple #[v1, v2, v3, .int .i64 0]) ∧ IntR w' v1 (xG x y) ∧ IntR w' v2 (xX x y) ∧ IntR w' v3 (xY x y) ∧ Below w.heap.size w w' := by
  obtain ⟨n1, a1, k1, c1, t1, rfl, N1, R1'⟩ := ha.rd
  obtain ⟨n2, a2, k2, c2, t2, rfl, N2, R2'⟩ := hb.rd
  have L1 : 4096 < t1 ↔ Big ≤ x.natAbs := by
    obtain ⟨u, e, hn⟩ := N1
    simp only [Value.agg.injEq, Array.mk.injEq, List.cons.injEq, and_true] at e
    obtain ⟨rfl, _⟩ := e
    exact num_long hn
  have L2 : 4096 < t2 ↔ Big ≤ y.natAbs := by
    obtain ⟨u, e, hn⟩ := N2
    simp only [Value.agg.injEq, Array.mk.injEq, List.cons.injEq, and_true] at e
    obtain ⟨rfl, _⟩ := e
    exact num_long hn
  have R1 := Lib.hid R1'; have R2 := Lib.hid R2'
  have hfd := field_amount
  have hd1 : decide ((4096 : Int) < (t1 : Int)) = false := decide_eq_false (by have := L1.1; omega)
  have hd2 : decide ((4096 : Int) < (t2 : Int)) = false := decide_eq_false (by have := L2.1; omega)
  have VA := Lib.hid ha; have VB := Lib.hid hb; have HX := Lib.hid hx; have HY := Lib.hid hy
  clear ha hb hx hy
  clear R1' R2' L1 L2 N1 N2
  go_enter Tryz.func6, Tryz.ntmps6
  obtain ⟨W, eW, hA, hB, hR1, hR2, hR3, bel, hsz⟩ := alloc5 w (Obj.cells #[Value.bool n1, Value.slice a1 k1 c1] 25) (Obj.cells #[Value.bool n2, Value.slice a2 k2 c2] 25) (Obj.cells #[Value.bool false, Value.slice none 0 0] 25) (Obj.cells #[Value.bool false, Value.slice none 0 0] 25) (Obj.cells #[Value.bool false, Value.slice none 0 0] 25)
  obtain ⟨p0, p1, _, _, _⟩ := blk2 hA
  have HA := Lib.hid hA; have HB := Lib.hid hB; have HR1 := Lib.hid hR1; have HR2 : Hid (W.heap[w.heap.size + 1 + 1 + 1]? = _) := Lib.hid hR2; have HR3 : Hid (W.heap[w.heap.size + 1 + 1 + 1 + 1]? = _) := Lib.hid hR3
  have BW := Lib.hid bel
  clear hA hB hR1 hR2 hR3 bel
  go_wp2_with fail
  clear eW
  refine (R1.out W BW.out).mono ?_
  rintro e w1 ⟨rfl, b1, s1⟩
  have B1 := Lib.hid (below_of BW.out b1)
  have A1 := Lib.hid (blk_below' b1 HA.out); have Bb1 := Lib.hid (blk_below' b1 HB.out); have Q1 := Lib.hid (blk_below' b1 HR1.out); have Q2 := Lib.hid (blk_below' b1 HR2.out); have Q3 := Lib.hid (blk_below' b1 HR3.out)
  clear b1 s1 p0 p1 HA HB HR1 HR2 HR3
  obtain ⟨q0, q1, _, _, _⟩ := blk2 Bb1.out
  go_wp2_with (go_at_call 23; refine (long_is _ _ _ _).mono ?_; rintro e w' ⟨rfl, rfl⟩)
  refine (R2.out w1 B1.out).mono ?_
  rintro e w2 ⟨rfl, b2, s2⟩
  have B2 := Lib.hid (below_of B1.out b2)
  have A2 := Lib.hid (blk_below' b2 A1.out); have Bb2 := Lib.hid (blk_below' b2 Bb1.out)
  have P1 := Lib.hid (blk_below' b2 Q1.out); have P2 := Lib.hid (blk_below' b2 Q2.out); have P3 := Lib.hid (blk_below' b2 Q3.out)
  clear b2 s2 q0 q1 Q1 Q2 Q3 A1 Bb1
  go_wp2_with (go_at_call 23; refine (long_is _ _ _ _).mono ?_; rintro e w' ⟨rfl, rfl⟩)
  clear hd1 hd2 hfd
  obtain ⟨p0, p1, _, _, l0⟩ := blk2 A2.out
  obtain ⟨q0, q1, _, _, l1⟩ := blk2 Bb2.out
  have AA : Hid (∀ w3, Below w2.heap.size w2 w3 → Calls Tryz.prog 16 #[.agg #[.bool n1, .slice a1 k1 c1]] w3 fun e w' => Res0 w3 w' e (x.natAbs : Int)) := Lib.hid (fun w3 h => absF _ x w3 (VA.out.below (below_of B2.out h)) HX.out)
  have AB : Hid (∀ w3, Below w2.heap.size w2 w3 → Calls Tryz.prog 16 #[.agg #[.bool n2, .slice a2 k2 c2]] w3 fun e w' => Res0 w3 w' e (y.natAbs : Int)) := Lib.hid (fun w3 h => absF _ y w3 (VB.out.below (below_of B2.out h)) HY.out)
  have O1 : Hid (∀ w3, Calls Tryz.prog 17 #[.int .i64 1] w3 fun e w' => Res0 w3 w' e 1) := Lib.hid (fun w3 => ofF 1 w3 (by omega) (by omega))
  have O0 : Hid (∀ w3, Calls Tryz.prog 17 #[.int .i64 0] w3 fun e w' => Res0 w3 w' e 0) := Lib.hid (fun w3 => ofF 0 w3 (by omega) (by omega))
  have STAY : Hid (∀ w', Below w2.heap.size w2 w' → w'.cell? ⟨w.heap.size, 0, none⟩ = some (.bool n1) ∧ w'.cell? ⟨w.heap.size, 1, none⟩ = some (.slice a1 k1 c1) ∧ w'.cell? ⟨w.heap.size + 1, 0, none⟩ = some (.bool n2) ∧ w'.cell? ⟨w.heap.size + 1, 1, none⟩ = some (.slice a2 k2 c2) ∧ Below w2.heap.size w2 w' ∧ w2.heap.size ≤ w'.heap.size) :=
    Lib.hid (fun w' h => ⟨cell_to h p0 l0, cell_to h p1 l0, cell_to h q0 l1, cell_to h q1 l1, h, h.size⟩)
  have hB0 := (Below.refl w2.heap.size w2).drew
  clear p0 p1 q0 q1
  go_cut [8] (fun s wx => RxO w2 wx (x.natAbs : Int) 1 0 (y.natAbs : Int) 0 1 s)
  case first =>
    go_region_held3 (fun w' => w'.cell? ⟨w.heap.size, 0, none⟩ = some (.bool n1) ∧ w'.cell? ⟨w.heap.size, 1, none⟩ = some (.slice a1 k1 c1) ∧ w'.cell? ⟨w.heap.size + 1, 0, none⟩ = some (.bool n2) ∧ w'.cell? ⟨w.heap.size + 1, 1, none⟩ = some (.slice a2 k2 c2) ∧ Below w2.heap.size w2 w' ∧ w2.heap.size ≤ w'.heap.size)
      (((try go_split_ands); refine STAY.out _ ?_; repeat (first | (with_reducible assumption) | (with_reducible exact Below.refl _ _) | (with_reducible refine Below.drew ?_) | (with_reducible exact below_to (by with_reducible assumption) (by with_reducible assumption)) | ((with_reducible refine below12 ?_ ?_); rotate_left; (focus (first | omega | (simp only [sz_alloc, sz_set, sz_drew]; omega)))) | ((with_reducible refine Below.alloc ?_ ?_ _); rotate_left; (focus (first | omega | (simp; done) | (simp; omega)))) | ((with_reducible refine Below.setCell ?_ ?_ _); rotate_left; (focus (first | omega | (simp; done) | (simp; omega)))))))
      (first
      | (go_at_call 17; go_split_ands; first
        | (have hg := iiE; ((with_reducible refine Calls.mono (O1.out _) ?_); rintro e wF ⟨mF, dF, lF, eF, rfl, iiF, hbF⟩; have hkF := below_to hbF (by with_reducible assumption); have hzF := hkF.size; obtain ⟨hcF, hfF⟩ := bcell hbF; have hyF := hbF.size; (try simp only [sz_alloc, sz_set, sz_drew] at hyF); (try (have hq2F : w2.heap.size < wF.heap.size := by omega)); (try (have hqAF : wA.heap.size < wF.heap.size := by omega)); (try (have hqCF : wC.heap.size < wF.heap.size := by omega)); (try (have hqDF : wD.heap.size < wF.heap.size := by omega)); (try (have hqBF : wB.heap.size < wF.heap.size := by omega)); (try (have hqEF : wE.heap.size < wF.heap.size := by omega))))
        | (have hg := iiB; ((with_reducible refine Calls.mono (O0.out _) ?_); rintro e wE ⟨mE, dE, lE, eE, rfl, iiE, hbE⟩; have hkE := below_to hbE (by with_reducible assumption); have hzE := hkE.size; obtain ⟨hcE, hfE⟩ := bcell hbE; have hyE := hbE.size; (try simp only [sz_alloc, sz_set, sz_drew] at hyE); (try (have hq2E : w2.heap.size < wE.heap.size := by omega)); (try (have hqAE : wA.heap.size < wE.heap.size := by omega)); (try (have hqCE : wC.heap.size < wE.heap.size := by omega)); (try (have hqDE : wD.heap.size < wE.heap.size := by omega)); (try (have hqBE : wB.heap.size < wE.heap.size := by omega))))
        | (have hg := iiC; ((with_reducible refine Calls.mono (O0.out _) ?_); rintro e wD ⟨mD, dD, lD, eD, rfl, iiD, hbD⟩; have hkD := below_to hbD (by with_reducible assumption); have hzD := hkD.size; obtain ⟨hcD, hfD⟩ := bcell hbD; have hyD := hbD.size; (try simp only [sz_alloc, sz_set, sz_drew] at hyD); (try (have hq2D : w2.heap.size < wD.heap.size := by omega)); (try (have hqAD : wA.heap.size < wD.heap.size := by omega)); (try (have hqCD : wC.heap.size < wD.heap.size := by omega))))
        | ((with_reducible refine Calls.mono (O1.out _) ?_); rintro e wC ⟨mC, dC, lC, eC, rfl, iiC, hbC⟩; have hkC := below_to hbC (by with_reducible assumption); have hzC := hkC.size; obtain ⟨hcC, hfC⟩ := bcell hbC; have hyC := hbC.size; (try simp only [sz_alloc, sz_set, sz_drew] at hyC); (try (have hq2C : w2.heap.size < wC.heap.size := by omega)); (try (have hqAC : wA.heap.size < wC.heap.size := by omega))))
      | (go_at_call 16; go_split_ands; first
        | (have hg := iiD; ((with_reducible refine Calls.mono (AB.out _ (by with_reducible assumption)) ?_); rintro e wB ⟨mB, dB, lB, eB, rfl, iiB, hbB⟩; have hkB := below_to hbB (by with_reducible assumption); have hzB := hkB.size; obtain ⟨hcB, hfB⟩ := bcell hbB; have hyB := hbB.size; (try simp only [sz_alloc, sz_set, sz_drew] at hyB); (try (have hq2B : w2.heap.size < wB.heap.size := by omega)); (try (have hqAB : wA.heap.size < wB.heap.size := by omega)); (try (have hqCB : wC.heap.size < wB.heap.size := by omega)); (try (have hqDB : wD.heap.size < wB.heap.size := by omega))))
        | ((with_reducible refine Calls.mono (AA.out _ (by with_reducible assumption)) ?_); rintro e wA ⟨mA, dA, lA, eA, rfl, iiA, hbA⟩; have hkA := below_to hbA (by with_reducible assumption); have hzA := hkA.size; obtain ⟨hcA, hfA⟩ := bcell hbA; have hyA := hbA.size; (try simp only [sz_alloc, sz_set, sz_drew] at hyA); (try (have hq2A : w2.heap.size < wA.heap.size := by omega)))))
    all_goals
      (go_wp2_with fail
       go_meet
       clear hcA hfA hcC hfC hcD hfD hcB hfB hcE hfE hcF hfF
       refine ⟨_, mA, mC, mD, mB, mE, mF, dA, dC, dD, dB, dE, dF, lA, eA, lC, eC, lD, eD, lB, eB, lE, eE, lF, eF, rfl, ?_, ?_, ?_, ?_, ?_, ?_, ?_, ?_, ?_⟩)
    all_goals
      repeat (first
       | (with_reducible assumption)
       | ((with_reducible refine blk_newz ?_); (first | omega | (simp only [sz_alloc, sz_set, sz_drew]; omega) | (focus (simp only [sz_alloc, sz_set, sz_drew]; done))))
       | ((with_reducible refine blk_ltz ?_ ?_); (first | omega | (simp only [sz_alloc, sz_set, sz_drew]; omega) | (focus (simp only [sz_alloc, sz_set, sz_drew]; done))))
       | (with_reducible refine heap12z ?_)
       | (with_reducible refine blk_drew ?_)
       | ((with_reducible refine blk_below hbF ?_ ?_); (first | omega | (simp only [sz_alloc, sz_set, sz_drew]; omega) | (focus (simp only [sz_alloc, sz_set, sz_drew]; done))))
       | ((with_reducible refine blk_below hbE ?_ ?_); (first | omega | (simp only [sz_alloc, sz_set, sz_drew]; omega) | (focus (simp only [sz_alloc, sz_set, sz_drew]; done))))
       | ((with_reducible refine blk_below hbB ?_ ?_); (first | omega | (simp only [sz_alloc, sz_set, sz_drew]; omega) | (focus (simp only [sz_alloc, sz_set, sz_drew]; done))))
       | ((with_reducible refine blk_below hbD ?_ ?_); (first | omega | (simp only [sz_alloc, sz_set, sz_drew]; omega) | (focus (simp only [sz_alloc, sz_set, sz_drew]; done))))
       | ((with_reducible refine blk_below hbC ?_ ?_); (first | omega | (simp only [sz_alloc, sz_set, sz_drew]; omega) | (focus (simp only [sz_alloc, sz_set, sz_drew]; done))))
       | ((with_reducible refine blk_below hbA ?_ ?_); (first | omega | (simp only [sz_alloc, sz_set, sz_drew]; omega) | (focus (simp only [sz_alloc, sz_set, sz_drew]; done))))
       | (with_reducible refine intr_allocz ?_)
       | (with_reducible refine intr_set12z ?_ ?_)
       | (with_reducible refine intr_callz hbF ?_)
       | (with_reducible refine intr_callz hbE ?_)
       | (with_reducible refine intr_callz hbB ?_)
       | (with_reducible refine intr_callz hbD ?_)
       | (with_reducible refine intr_callz hbC ?_)
       | (with_reducible refine intr_callz hbA ?_)
       | ((with_reducible refine below12 ?_ ?_); rotate_left; (focus (first | omega | (simp only [sz_alloc, sz_set, sz_drew]; omega))))
       | ((with_reducible refine Below.alloc ?_ ?_ _); rotate_left; (focus (first | omega | (simp; done) | (simp; omega))))
       | ((with_reducible refine Below.setCell ?_ ?_ _); rotate_left; (focus (first | omega | (simp; done) | (simp; omega))))
       | (first | omega | (simp only [sz_alloc, sz_set, sz_drew]; omega) | (focus (simp only [sz_alloc, sz_set, sz_drew]; done))))
  case rest =>
    obtain ⟨g, rn0, rn1, rn2, rn3, rn4, rn5, ra0, ra1, ra2, ra3, ra4, ra5, rk0, rc0, rk1, rc1, rk2, rc2, rk3, rc3, rk4, rc4, rk5, rc5, rfl, hg, hG, i0, i1, i2, i3, i4, i5, hbc⟩ := hcut
    generalize wc = w3 at *
    have RW : Rws w3 x.natAbs y.natAbs (eStart x.natAbs y.natAbs) rn0 rn1 rn2 rn3 rn4 rn5 ra0 ra1 ra2 ra3 ra4 ra5 rk0 rc0 rk1 rc1 rk2 rc2 rk3 rc3 rk4 rc4 rk5 rc5 := ⟨⟨i0, i1, by rw [(r_start x.natAbs y.natAbs).2.1]; exact i2, i3, by rw [(r_start x.natAbs y.natAbs).2.2.1]; exact i4, i5⟩, HX.out, HY.out, eInv_start _ _⟩
    have ST : Hid (ExO w3 w3 x.natAbs y.natAbs g) := Lib.hid ⟨_, rn0, rn1, rn2, rn3, rn4, rn5, ra0, ra1, ra2, ra3, ra4, ra5, rk0, rc0, rk1, rc1, rk2, rc2, rk3, rc3, rk4, rc4, rk5, rc5, hG, RW, rfl, zrn_start hG (noint12 _ _ _ _ _ _ _ _ _ _ _ _ _ _ _ _ _ _ _ _ _ _ _ _)⟩
    have B3 := Lib.hid (below_of B2.out hbc)
    have A3 := Lib.hid (blk_below' hbc A2.out); have Bb3 := Lib.hid (blk_below' hbc Bb2.out); have P31 := Lib.hid (blk_below' hbc P1.out); have P32 := Lib.hid (blk_below' hbc P2.out); have P33 := Lib.hid (blk_below' hbc P3.out)
    have lp : w.heap.size + 1 + 1 + 1 + 1 < w2.heap.size := (Array.getElem?_eq_some_iff.1 P3.out).1
    have HMX : Hid (max x.natAbs 1 < Big) := Lib.hid (Nat.max_lt.2 ⟨HX.out, one_lt_big⟩)
    have HMY : Hid (max y.natAbs 1 < Big) := Lib.hid (Nat.max_lt.2 ⟨HY.out, one_lt_big⟩)
    clear hG i0 i1 i2 i3 i4 i5 hbc RW A2 Bb2 P1 P2 P3 AA AB O1 O0 STAY hB0
    go_wp2_with fail
    go_loopw [] (fun wr => ExO w3 wr x.natAbs y.natAbs g) (fun wr => qIn wr g)
    case atStart => exact ST.out
    case round =>
      obtain ⟨s, sn0, sn1, sn2, sn3, sn4, sn5, sa0, sa1, sa2, sa3, sa4, sa5, sk0, sc0, sk1, sc1, sk2, sc2, sk3, sc3, sk4, sc4, sk5, sc5, hH, hrw, he, hz⟩ := hrel
      have HQI := Lib.hid (qIn_eq hH hrw.1.2.2.2.1)
      have HH := Lib.hid hH; have HRW := Lib.hid hrw; have HE := Lib.hid he; have HZ := Lib.hid hz
      have SG : ∀ o, zcmp (s.q : Int) 0 = o → Calls Tryz.prog 14 #[.agg #[.bool sn3, .slice sa3 sk3 sc3]] wr fun e w' => e = .returned (.int .i64 o) ∧ Below wr.heap.size wr w' := fun o ho => signF _ _ o wr hrw.1.2.2.2.1.2 ho
      obtain ⟨q0, q1, q2, q3, q4, q5, q6, q7, q8, q9, q10, q11⟩ := blk12 hH
      have hlt : g < wr.heap.size := (Array.getElem?_eq_some_iff.1 hH).1
      clear hH hrw he hz
      by_cases h0 : s.q = 0
      · have S0 := Lib.hid (SG 0 (by rw [h0]; rfl))
        have E0 := Lib.hid ((eEnd_zero h0).symm.trans HE.out)
        clear SG h0
        go_wp2_with fail
        refine S0.out.mono ?_
        rintro e w4 ⟨rfl, b4⟩
        have HZ4 := Lib.hid (HZ.out.call b4)
        clear q0 q1 q2 q3 q4 q5 q6 q7 q8 q9 q10 q11
        go_wp2_with fail
        obtain ⟨q0, q1, q2, q3, q4, q5, q6, q7, q8, q9, q10, q11⟩ := blk12 (blk_below' b4 HH.out)
        have hlt4 : g < w4.heap.size := Nat.lt_of_lt_of_le hlt b4.size
        have hlt4a : g < w4.heap.size + 1 := by omega
        have hlt4b : g < w4.heap.size + 1 + 1 := by omega
        clear hlt
        go_cut [9, 10, 11] (fun s t u wx => EvO w4 wx sn0 sa0 sk0 sc0 sn1 sa1 sk1 sc1 sn2 sa2 sk2 sc2 s t u)
        case first =>
          go_region
          all_goals
            (go_wp2_with fail
             go_meet
             refine ⟨_, _, _, rfl, rfl, rfl, ?_, ?_, ?_, ?_, ?_, ?_, ?_, ?_, ?_, ?_⟩)
          all_goals
            repeat (first | (with_reducible assumption) | ((with_reducible refine blk_newz ?_); (first | omega | (simp only [sz_alloc, sz_set, sz_drew]; omega) | (focus (simp only [sz_alloc, sz_set, sz_drew]; done)))) | ((with_reducible refine blk_ltz ?_ ?_); (first | omega | (simp only [sz_alloc, sz_set, sz_drew]; omega) | (focus (simp only [sz_alloc, sz_set, sz_drew]; done)))) | (with_reducible refine blk_drew ?_) | (with_reducible exact Below.refl _ _) | (with_reducible refine Below.drew ?_) | ((with_reducible refine Below.alloc ?_ ?_ _); rotate_left; (focus (first | omega | (simp; done) | (simp; omega)))) | (first | omega | (simp only [sz_alloc, sz_set, sz_drew]; omega) | (focus (simp only [sz_alloc, sz_set, sz_drew]; done))))
        case rest =>
          obtain ⟨G9, G10, G11, rfl, rfl, rfl, h9, h10, h11, x1, x2, x3, u9, u10, u11, hb4⟩ := hcut
          generalize wc = w5 at *
          have hle : w.heap.size ≤ g := by omega
          have hsz4 : w3.heap.size ≤ w4.heap.size := by obtain ⟨⟨_, _, _, h, _⟩, _⟩ := HZ4.out; exact h
          have hl3 : w.heap.size + 1 + 1 + 1 + 1 < w3.heap.size := (Array.getElem?_eq_some_iff.1 P33.out).1
          have B5 := Lib.hid (below_of (HZ4.out.zr.below B3.out hle) hb4)
          have GA_0 := Lib.hid (blk_below' hb4 (HZ4.out.zr.blk A3.out (by omega)))
          have GB_0 := Lib.hid (blk_below' hb4 (HZ4.out.zr.blk Bb3.out (by omega)))
          have GP_0 := Lib.hid (blk_below' hb4 (HZ4.out.zr.blk P31.out (by omega)))
          have GQ_0 := Lib.hid (blk_below' hb4 (HZ4.out.zr.blk P32.out (by omega)))
          have GR_0 := Lib.hid (blk_below' hb4 (HZ4.out.zr.blk P33.out (by omega)))
          have GG_0 := Lib.hid u9; have GX_0 := Lib.hid u10; have GY_0 := Lib.hid u11
          have EGs : (s.p : Int) = xG x y := by unfold xG; rw [← E0.out]
          have JG_0 : Hid (IntR w5 (.agg #[.bool sn0, .slice sa0 sk0 sc0]) (xG x y)) := Lib.hid (by rw [← EGs]; exact ((HRW.out.1.1.below b4).below hb4))
          have JX_0 := Lib.hid ((HRW.out.1.2.1.below b4).below hb4); have JY_0 := Lib.hid ((HRW.out.1.2.2.1.below b4).below hb4)
          have VA_0 := Lib.hid (VA.out.below B5.out); have VB_0 := Lib.hid (VB.out.below B5.out)
          have BX : Hid ((r1 s).natAbs < Big ∧ (r2 s).natAbs < Big) := Lib.hid (by obtain ⟨_, _, _, hi⟩ := HRW.out; obtain ⟨e1, e2, _⟩ := natAbs_r s; have h := hi.ab; have hx := HMX.out; have hy := HMY.out; exact ⟨by omega, by omega⟩)
          have EX : Hid (xX x y = if x < 0 then -(r1 s) else r1 s) := Lib.hid (by unfold xX; rw [← E0.out]; rfl)
          have EY : Hid (xY x y = if y < 0 then -(r2 s) else r2 s) := Lib.hid (by unfold xY; rw [← E0.out]; rfl)
          have LX : Hid (w.heap.size ≤ G10) := Lib.hid (by omega); have LY : Hid (w.heap.size ≤ G11) := Lib.hid (by omega)
          have NAX : Hid (w.heap.size ≠ G10) := Lib.hid (by omega)
          have NBX : Hid (w.heap.size + 1 ≠ G10) := Lib.hid (by omega)
          have NPX : Hid (w.heap.size + 1 + 1 ≠ G10) := Lib.hid (by omega)
          have NQX : Hid (w.heap.size + 1 + 1 + 1 ≠ G10) := Lib.hid (by omega)
          have NRX : Hid (w.heap.size + 1 + 1 + 1 + 1 ≠ G10) := Lib.hid (by omega)
          have NGX : Hid (G9 ≠ G10) := Lib.hid (by omega)
          have NYX : Hid (G11 ≠ G10) := Lib.hid (by omega)
          have NAY : Hid (w.heap.size ≠ G11) := Lib.hid (by omega)
          have NBY : Hid (w.heap.size + 1 ≠ G11) := Lib.hid (by omega)
          have NPY : Hid (w.heap.size + 1 + 1 ≠ G11) := Lib.hid (by omega)
          have NQY : Hid (w.heap.size + 1 + 1 + 1 ≠ G11) := Lib.hid (by omega)
          have NRY : Hid (w.heap.size + 1 + 1 + 1 + 1 ≠ G11) := Lib.hid (by omega)
          have NGY : Hid (G9 ≠ G11) := Lib.hid (by omega)
          have NXY : Hid (G10 ≠ G11) := Lib.hid (by omega)
          have NAG : Hid (w.heap.size ≠ G9) := Lib.hid (by omega)
          have NBG : Hid (w.heap.size + 1 ≠ G9) := Lib.hid (by omega)
          have NPG : Hid (w.heap.size + 1 + 1 ≠ G9) := Lib.hid (by omega)
          have NQG : Hid (w.heap.size + 1 + 1 + 1 ≠ G9) := Lib.hid (by omega)
          have NRG : Hid (w.heap.size + 1 + 1 + 1 + 1 ≠ G9) := Lib.hid (by omega)
          have NXG : Hid (G10 ≠ G9) := Lib.hid (by omega)
          have NYG : Hid (G11 ≠ G9) := Lib.hid (by omega)
          clear u9 u10 u11 hb4 b4 h9 h10 h11 x1 x2 x3 HRW HZ4 HZ HH HE A3 Bb3 P31 P32 P33 ST HQI VA VB EGs
          by_cases hx0 : x < 0
          · have HNx := Lib.hid hx0; clear hx0
            by_cases hy0 : y < 0
            · have HNy := Lib.hid hy0; clear hy0
              obtain ⟨cA0, cA1, dA0, dA1, eA⟩ := blk2 GA_0.out
              go_wp2_with fail
              refine (signF _ x (-1) _ VA_0.out (zcmp_lt HNx.out)).mono ?_
              rintro e w_1 ⟨rfl, hb⟩
              clear cA0 cA1 dA0 dA1 eA
              have GA_1 := Lib.hid (blk_below' hb GA_0.out)
              have GB_1 := Lib.hid (blk_below' hb GB_0.out)
              have GP_1 := Lib.hid (blk_below' hb GP_0.out)
              have GQ_1 := Lib.hid (blk_below' hb GQ_0.out)
              have GR_1 := Lib.hid (blk_below' hb GR_0.out)
              have GG_1 := Lib.hid (blk_below' hb GG_0.out)
              have GX_1 := Lib.hid (blk_below' hb GX_0.out)
              have GY_1 := Lib.hid (blk_below' hb GY_0.out)
              have JG_1 := Lib.hid (JG_0.out.below hb)
              have JX_1 := Lib.hid (JX_0.out.below hb)
              have JY_1 := Lib.hid (JY_0.out.below hb)
              have VA_1 := Lib.hid (VA_0.out.below hb)
              have VB_1 := Lib.hid (VB_0.out.below hb)
              have B_1 := Lib.hid (below_of B5.out hb)
              clear GA_0 GB_0 GP_0 GQ_0 GR_0 GG_0 GX_0 GY_0 JG_0 JX_0 JY_0 VA_0 VB_0 B5
              clear hb 
              obtain ⟨cX0, cX1, dX0, dX1, eX⟩ := blk2 GX_1.out
              go_wp2_with fail
              refine (negF _ (r1 s) _ JX_1.out.2 BX.out.1).mono ?_
              rintro e w_2 ⟨mx, dx, lx, ex, rfl, ix, hb⟩
              clear cX0 cX1 dX0 dX1 eX
              have GA_2 := Lib.hid (blk_below' hb GA_1.out)
              have GB_2 := Lib.hid (blk_below' hb GB_1.out)
              have GP_2 := Lib.hid (blk_below' hb GP_1.out)
              have GQ_2 := Lib.hid (blk_below' hb GQ_1.out)
              have GR_2 := Lib.hid (blk_below' hb GR_1.out)
              have GG_2 := Lib.hid (blk_below' hb GG_1.out)
              have GX_2 := Lib.hid (blk_below' hb GX_1.out)
              have GY_2 := Lib.hid (blk_below' hb GY_1.out)
              have JG_2 := Lib.hid (JG_1.out.below hb)
              have JX_2 := Lib.hid (JX_1.out.below hb)
              have JY_2 := Lib.hid (JY_1.out.below hb)
              have VA_2 := Lib.hid (VA_1.out.below hb)
              have VB_2 := Lib.hid (VB_1.out.below hb)
              have B_2 := Lib.hid (below_of B_1.out hb)
              clear GA_1 GB_1 GP_1 GQ_1 GR_1 GG_1 GX_1 GY_1 JG_1 JX_1 JY_1 VA_1 VB_1 B_1
              have KX_2 := Lib.hid ix
              clear hb ix
              obtain ⟨y0, y1, z0, z1, ye⟩ := blk2 GX_2.out
              obtain ⟨V_3, eV⟩ : ∃ V, (w_2.setCell ⟨G10, 0, none⟩ (.bool mx)).setCell ⟨G10, 1, none⟩ (.slice dx lx ex) = V := ⟨_, rfl⟩
              have GA_3 : Hid (V_3.heap[w.heap.size]? = some (Obj.cells #[Value.bool n1, Value.slice a1 k1 c1] 25)) := Lib.hid (by rw [← eV]; exact blk_far2 GA_2.out NAX.out)
              have GB_3 : Hid (V_3.heap[w.heap.size + 1]? = some (Obj.cells #[Value.bool n2, Value.slice a2 k2 c2] 25)) := Lib.hid (by rw [← eV]; exact blk_far2 GB_2.out NBX.out)
              have GP_3 : Hid (V_3.heap[w.heap.size + 1 + 1]? = some (Obj.cells #[Value.bool false, Value.slice none 0 0] 25)) := Lib.hid (by rw [← eV]; exact blk_far2 GP_2.out NPX.out)
              have GQ_3 : Hid (V_3.heap[w.heap.size + 1 + 1 + 1]? = some (Obj.cells #[Value.bool false, Value.slice none 0 0] 25)) := Lib.hid (by rw [← eV]; exact blk_far2 GQ_2.out NQX.out)
              have GR_3 : Hid (V_3.heap[w.heap.size + 1 + 1 + 1 + 1]? = some (Obj.cells #[Value.bool false, Value.slice none 0 0] 25)) := Lib.hid (by rw [← eV]; exact blk_far2 GR_2.out NRX.out)
              have GG_3 : Hid (V_3.heap[G9]? = some (Obj.cells #[Value.bool sn0, Value.slice sa0 sk0 sc0] 25)) := Lib.hid (by rw [← eV]; exact blk_far2 GG_2.out NGX.out)
              have GX_3 : Hid (V_3.heap[G10]? = some (Obj.cells #[Value.bool mx, Value.slice dx lx ex] 25)) := Lib.hid (by rw [← eV]; exact blk_set (blk_set GX_2.out rfl) rfl)
              have GY_3 : Hid (V_3.heap[G11]? = some (Obj.cells #[Value.bool sn2, Value.slice sa2 sk2 sc2] 25)) := Lib.hid (by rw [← eV]; exact blk_far2 GY_2.out NYX.out)
              have JG_3 := Lib.hid (eV ▸ (JG_2.out.far (y0 := .bool mx) (y1 := .slice dx lx ex) GX_2.out))
              have JX_3 := Lib.hid (eV ▸ (JX_2.out.far (y0 := .bool mx) (y1 := .slice dx lx ex) GX_2.out))
              have JY_3 := Lib.hid (eV ▸ (JY_2.out.far (y0 := .bool mx) (y1 := .slice dx lx ex) GX_2.out))
              have VA_3 := Lib.hid (eV ▸ (VA_2.out.far (y0 := .bool mx) (y1 := .slice dx lx ex) GX_2.out))
              have VB_3 := Lib.hid (eV ▸ (VB_2.out.far (y0 := .bool mx) (y1 := .slice dx lx ex) GX_2.out))
              have KX_3 := Lib.hid (eV ▸ (KX_2.out.far (y0 := .bool mx) (y1 := .slice dx lx ex) GX_2.out))
              have B_3 : Hid (Below w.heap.size w V_3) := Lib.hid (by rw [← eV]; exact set_below (set_below B_2.out LX.out) LX.out)
              clear GA_2 GB_2 GP_2 GQ_2 GR_2 GG_2 GX_2 GY_2 JG_2 JX_2 JY_2 VA_2 VB_2 KX_2 B_2
              obtain ⟨cB0, cB1, dB0, dB1, eB⟩ := blk2 GB_3.out
              go_wp2_with fail
              clear eV y0 y1 z0 z1 ye
              refine (signF _ y (-1) _ VB_3.out (zcmp_lt HNy.out)).mono ?_
              rintro e w_4 ⟨rfl, hb⟩
              clear cB0 cB1 dB0 dB1 eB
              have GA_4 := Lib.hid (blk_below' hb GA_3.out)
              have GB_4 := Lib.hid (blk_below' hb GB_3.out)
              have GP_4 := Lib.hid (blk_below' hb GP_3.out)
              have GQ_4 := Lib.hid (blk_below' hb GQ_3.out)
              have GR_4 := Lib.hid (blk_below' hb GR_3.out)
              have GG_4 := Lib.hid (blk_below' hb GG_3.out)
              have GX_4 := Lib.hid (blk_below' hb GX_3.out)
              have GY_4 := Lib.hid (blk_below' hb GY_3.out)
              have JG_4 := Lib.hid (JG_3.out.below hb)
              have JX_4 := Lib.hid (JX_3.out.below hb)
              have JY_4 := Lib.hid (JY_3.out.below hb)
              have VA_4 := Lib.hid (VA_3.out.below hb)
              have VB_4 := Lib.hid (VB_3.out.below hb)
              have KX_4 := Lib.hid (KX_3.out.below hb)
              have B_4 := Lib.hid (below_of B_3.out hb)
              clear GA_3 GB_3 GP_3 GQ_3 GR_3 GG_3 GX_3 GY_3 JG_3 JX_3 JY_3 VA_3 VB_3 KX_3 B_3
              clear hb 
              obtain ⟨cY0, cY1, dY0, dY1, eY⟩ := blk2 GY_4.out
              go_wp2_with fail
              refine (negF _ (r2 s) _ JY_4.out.2 BX.out.2).mono ?_
              rintro e w_5 ⟨my, dy, ly, ey, rfl, iy, hb⟩
              clear cY0 cY1 dY0 dY1 eY
              have GA_5 := Lib.hid (blk_below' hb GA_4.out)
              have GB_5 := Lib.hid (blk_below' hb GB_4.out)
              have GP_5 := Lib.hid (blk_below' hb GP_4.out)
              have GQ_5 := Lib.hid (blk_below' hb GQ_4.out)
              have GR_5 := Lib.hid (blk_below' hb GR_4.out)
              have GG_5 := Lib.hid (blk_below' hb GG_4.out)
              have GX_5 := Lib.hid (blk_below' hb GX_4.out)
              have GY_5 := Lib.hid (blk_below' hb GY_4.out)
              have JG_5 := Lib.hid (JG_4.out.below hb)
              have JX_5 := Lib.hid (JX_4.out.below hb)
              have JY_5 := Lib.hid (JY_4.out.below hb)
              have VA_5 := Lib.hid (VA_4.out.below hb)
              have VB_5 := Lib.hid (VB_4.out.below hb)
              have KX_5 := Lib.hid (KX_4.out.below hb)
              have B_5 := Lib.hid (below_of B_4.out hb)
              clear GA_4 GB_4 GP_4 GQ_4 GR_4 GG_4 GX_4 GY_4 JG_4 JX_4 JY_4 VA_4 VB_4 KX_4 B_4
              have KY_5 := Lib.hid iy
              clear hb iy
              obtain ⟨y0, y1, z0, z1, ye⟩ := blk2 GY_5.out
              obtain ⟨V_6, eV⟩ : ∃ V, (w_5.setCell ⟨G11, 0, none⟩ (.bool my)).setCell ⟨G11, 1, none⟩ (.slice dy ly ey) = V := ⟨_, rfl⟩
              have GA_6 : Hid (V_6.heap[w.heap.size]? = some (Obj.cells #[Value.bool n1, Value.slice a1 k1 c1] 25)) := Lib.hid (by rw [← eV]; exact blk_far2 GA_5.out NAY.out)
              have GB_6 : Hid (V_6.heap[w.heap.size + 1]? = some (Obj.cells #[Value.bool n2, Value.slice a2 k2 c2] 25)) := Lib.hid (by rw [← eV]; exact blk_far2 GB_5.out NBY.out)
              have GP_6 : Hid (V_6.heap[w.heap.size + 1 + 1]? = some (Obj.cells #[Value.bool false, Value.slice none 0 0] 25)) := Lib.hid (by rw [← eV]; exact blk_far2 GP_5.out NPY.out)
              have GQ_6 : Hid (V_6.heap[w.heap.size + 1 + 1 + 1]? = some (Obj.cells #[Value.bool false, Value.slice none 0 0] 25)) := Lib.hid (by rw [← eV]; exact blk_far2 GQ_5.out NQY.out)
              have GR_6 : Hid (V_6.heap[w.heap.size + 1 + 1 + 1 + 1]? = some (Obj.cells #[Value.bool false, Value.slice none 0 0] 25)) := Lib.hid (by rw [← eV]; exact blk_far2 GR_5.out NRY.out)
              have GG_6 : Hid (V_6.heap[G9]? = some (Obj.cells #[Value.bool sn0, Value.slice sa0 sk0 sc0] 25)) := Lib.hid (by rw [← eV]; exact blk_far2 GG_5.out NGY.out)
              have GX_6 : Hid (V_6.heap[G10]? = some (Obj.cells #[Value.bool mx, Value.slice dx lx ex] 25)) := Lib.hid (by rw [← eV]; exact blk_far2 GX_5.out NXY.out)
              have GY_6 : Hid (V_6.heap[G11]? = some (Obj.cells #[Value.bool my, Value.slice dy ly ey] 25)) := Lib.hid (by rw [← eV]; exact blk_set (blk_set GY_5.out rfl) rfl)
              have JG_6 := Lib.hid (eV ▸ (JG_5.out.far (y0 := .bool my) (y1 := .slice dy ly ey) GY_5.out))
              have JX_6 := Lib.hid (eV ▸ (JX_5.out.far (y0 := .bool my) (y1 := .slice dy ly ey) GY_5.out))
              have JY_6 := Lib.hid (eV ▸ (JY_5.out.far (y0 := .bool my) (y1 := .slice dy ly ey) GY_5.out))
              have VA_6 := Lib.hid (eV ▸ (VA_5.out.far (y0 := .bool my) (y1 := .slice dy ly ey) GY_5.out))
              have VB_6 := Lib.hid (eV ▸ (VB_5.out.far (y0 := .bool my) (y1 := .slice dy ly ey) GY_5.out))
              have KX_6 := Lib.hid (eV ▸ (KX_5.out.far (y0 := .bool my) (y1 := .slice dy ly ey) GY_5.out))
              have KY_6 := Lib.hid (eV ▸ (KY_5.out.far (y0 := .bool my) (y1 := .slice dy ly ey) GY_5.out))
              have B_6 : Hid (Below w.heap.size w V_6) := Lib.hid (by rw [← eV]; exact set_below (set_below B_5.out LY.out) LY.out)
              clear GA_5 GB_5 GP_5 GQ_5 GR_5 GG_5 GX_5 GY_5 JG_5 JX_5 JY_5 VA_5 VB_5 KX_5 KY_5 B_5
              obtain ⟨cG0, cG1, dG0, dG1, eG⟩ := blk2 GG_6.out
              obtain ⟨cX0, cX1, dX0, dX1, eX⟩ := blk2 GX_6.out
              obtain ⟨cY0, cY1, dY0, dY1, eY⟩ := blk2 GY_6.out
              obtain ⟨cP0, cP1, dP0, dP1, eP⟩ := blk2 GP_6.out
              obtain ⟨cQ0, cQ1, dQ0, dQ1, eQ⟩ := blk2 GQ_6.out
              obtain ⟨cR0, cR1, dR0, dR1, eR⟩ := blk2 GR_6.out
              have l2 : w.heap.size ≤ w.heap.size + 1 + 1 := by omega
              have l3 : w.heap.size ≤ w.heap.size + 1 + 1 + 1 := by omega
              have l4 : w.heap.size ≤ w.heap.size + 1 + 1 + 1 + 1 := by omega
              obtain ⟨PP, hP⟩ : ∃ PP : World → Prop, PP = fun w' => Ev w w' G9 G10 G11 (w.heap.size + 1 + 1) (w.heap.size + 1 + 1 + 1) (w.heap.size + 1 + 1 + 1 + 1) (Obj.cells #[Value.bool sn0, Value.slice sa0 sk0 sc0] 25) (Obj.cells #[Value.bool mx, Value.slice dx lx ex] 25) (Obj.cells #[Value.bool my, Value.slice dy ly ey] 25) (.agg #[.bool sn0, .slice sa0 sk0 sc0]) (.agg #[.bool mx, .slice dx lx ex]) (.agg #[.bool my, .slice dy ly ey]) (xG x y) (-(r1 s)) (-(r2 s)) := ⟨_, rfl⟩
              have hP0 : PP V_6 := by rw [hP]; exact ⟨B_6.out, ⟨GG_6.out, GX_6.out, GY_6.out⟩, ⟨⟨_, _, _, _, GP_6.out⟩, ⟨_, _, _, _, GQ_6.out⟩, ⟨_, _, _, _, GR_6.out⟩⟩, JG_6.out, KX_6.out, KY_6.out⟩
              have PSP : Hid (∀ (u : World) (x : Bool) (ao : Option Addr) (n c : Nat), PP u → PP ((u.setCell ⟨w.heap.size + 1 + 1, 0, none⟩ (.bool x)).setCell ⟨w.heap.size + 1 + 1, 1, none⟩ (.slice ao n c))) := Lib.hid (by rw [hP]; exact fun u x ao n c h => h.setP l2 NPG.out.symm NPX.out.symm NPY.out.symm (by omega) (by omega))
              have PSQ : Hid (∀ (u : World) (x : Bool) (ao : Option Addr) (n c : Nat), PP u → PP ((u.setCell ⟨w.heap.size + 1 + 1 + 1, 0, none⟩ (.bool x)).setCell ⟨w.heap.size + 1 + 1 + 1, 1, none⟩ (.slice ao n c))) := Lib.hid (by rw [hP]; exact fun u x ao n c h => h.setQ l3 NQG.out.symm NQX.out.symm NQY.out.symm (by omega) (by omega))
              have PSR : Hid (∀ (u : World) (x : Bool) (ao : Option Addr) (n c : Nat), PP u → PP ((u.setCell ⟨w.heap.size + 1 + 1 + 1 + 1, 0, none⟩ (.bool x)).setCell ⟨w.heap.size + 1 + 1 + 1 + 1, 1, none⟩ (.slice ao n c))) := Lib.hid (by rw [hP]; exact fun u x ao n c h => h.setR l4 NRG.out.symm NRX.out.symm NRY.out.symm (by omega) (by omega))
              have PD : Hid (∀ u, PP u → PP u.drew) := Lib.hid (by rw [hP]; exact fun u h => h.drew)
              have PE : Hid (∀ u, PP u → Ev w u G9 G10 G11 (w.heap.size + 1 + 1) (w.heap.size + 1 + 1 + 1) (w.heap.size + 1 + 1 + 1 + 1) (Obj.cells #[Value.bool sn0, Value.slice sa0 sk0 sc0] 25) (Obj.cells #[Value.bool mx, Value.slice dx lx ex] 25) (Obj.cells #[Value.bool my, Value.slice dy ly ey] 25) (.agg #[.bool sn0, .slice sa0 sk0 sc0]) (.agg #[.bool mx, .slice dx lx ex]) (.agg #[.bool my, .slice dy ly ey]) (xG x y) (-(r1 s)) (-(r2 s))) := Lib.hid (by rw [hP]; exact fun u h => h)
              have STAY : Hid (∀ w', PP w' → w'.cell? ⟨G9, 0, none⟩ = some (.bool sn0) ∧ w'.cell? ⟨G9, 1, none⟩ = some (.slice sa0 sk0 sc0) ∧ w'.cell? ⟨G10, 0, none⟩ = some (.bool mx) ∧ w'.cell? ⟨G10, 1, none⟩ = some (.slice dx lx ex) ∧ w'.cell? ⟨G11, 0, none⟩ = some (.bool my) ∧ w'.cell? ⟨G11, 1, none⟩ = some (.slice dy ly ey) ∧ PP w') := Lib.hid (by rw [hP]; exact fun w' h => ⟨(blk2 h.2.1.1).1, (blk2 h.2.1.1).2.1, (blk2 h.2.1.2.1).1, (blk2 h.2.1.2.1).2.1, (blk2 h.2.1.2.2).1, (blk2 h.2.1.2.2).2.1, h⟩)
              clear hP
              clear cG0 cG1 dG0 dG1 eG
              clear cX0 cX1 dX0 dX1 eX
              clear cY0 cY1 dY0 dY1 eY
              go_wp2_with fail
              clear eV y0 y1 z0 z1 ye
              go_region_held3 (fun w' => w'.cell? ⟨G9, 0, none⟩ = some (.bool sn0) ∧ w'.cell? ⟨G9, 1, none⟩ = some (.slice sa0 sk0 sc0) ∧ w'.cell? ⟨G10, 0, none⟩ = some (.bool mx) ∧ w'.cell? ⟨G10, 1, none⟩ = some (.slice dx lx ex) ∧ w'.cell? ⟨G11, 0, none⟩ = some (.bool my) ∧ w'.cell? ⟨G11, 1, none⟩ = some (.slice dy ly ey) ∧ PP w')
                ((try go_split_ands; refine STAY.out _ ?_; repeat (first | (with_reducible assumption) | (with_reducible refine PD.out _ ?_) | (with_reducible refine PSP.out _ _ _ _ _ ?_) | (with_reducible refine PSQ.out _ _ _ _ _ ?_) | (with_reducible refine PSR.out _ _ _ _ _ ?_))))
                ((fail))
              go_wp2
              have FE := Lib.hid (PE.out _ (PD.out _ (PSR.out _ my dy ly ey (PSQ.out _ mx dx lx ex (PSP.out _ sn0 sa0 sk0 sc0 hP0)))))
              refine bodyPost_ret (v := .tuple #[.agg #[.bool sn0, .slice sa0 sk0 sc0], .agg #[.bool mx, .slice dx lx ex], .agg #[.bool my, .slice dy ly ey], .int .i64 0]) ?_ rfl ⟨_, _, _, rfl, FE.out.2.2.2.1, by rw [EX.out, if_pos HNx.out]; exact FE.out.2.2.2.2.1, by rw [EY.out, if_pos HNy.out]; exact FE.out.2.2.2.2.2, FE.out.1⟩
              simp [results, Tryz.results6, go_sem, *]
            · have HNy := Lib.hid hy0; clear hy0
              obtain ⟨cA0, cA1, dA0, dA1, eA⟩ := blk2 GA_0.out
              go_wp2_with fail
              refine (signF _ x (-1) _ VA_0.out (zcmp_lt HNx.out)).mono ?_
              rintro e w_1 ⟨rfl, hb⟩
              clear cA0 cA1 dA0 dA1 eA
              have GA_1 := Lib.hid (blk_below' hb GA_0.out)
              have GB_1 := Lib.hid (blk_below' hb GB_0.out)
              have GP_1 := Lib.hid (blk_below' hb GP_0.out)
              have GQ_1 := Lib.hid (blk_below' hb GQ_0.out)
              have GR_1 := Lib.hid (blk_below' hb GR_0.out)
              have GG_1 := Lib.hid (blk_below' hb GG_0.out)
              have GX_1 := Lib.hid (blk_below' hb GX_0.out)
              have GY_1 := Lib.hid (blk_below' hb GY_0.out)
              have JG_1 := Lib.hid (JG_0.out.below hb)
              have JX_1 := Lib.hid (JX_0.out.below hb)
              have JY_1 := Lib.hid (JY_0.out.below hb)
              have VA_1 := Lib.hid (VA_0.out.below hb)
              have VB_1 := Lib.hid (VB_0.out.below hb)
              have B_1 := Lib.hid (below_of B5.out hb)
              clear GA_0 GB_0 GP_0 GQ_0 GR_0 GG_0 GX_0 GY_0 JG_0 JX_0 JY_0 VA_0 VB_0 B5
              clear hb 
              obtain ⟨cX0, cX1, dX0, dX1, eX⟩ := blk2 GX_1.out
              go_wp2_with fail
              refine (negF _ (r1 s) _ JX_1.out.2 BX.out.1).mono ?_
              rintro e w_2 ⟨mx, dx, lx, ex, rfl, ix, hb⟩
              clear cX0 cX1 dX0 dX1 eX
              have GA_2 := Lib.hid (blk_below' hb GA_1.out)
              have GB_2 := Lib.hid (blk_below' hb GB_1.out)
              have GP_2 := Lib.hid (blk_below' hb GP_1.out)
              have GQ_2 := Lib.hid (blk_below' hb GQ_1.out)
              have GR_2 := Lib.hid (blk_below' hb GR_1.out)
              have GG_2 := Lib.hid (blk_below' hb GG_1.out)
              have GX_2 := Lib.hid (blk_below' hb GX_1.out)
              have GY_2 := Lib.hid (blk_below' hb GY_1.out)
              have JG_2 := Lib.hid (JG_1.out.below hb)
              have JX_2 := Lib.hid (JX_1.out.below hb)
              have JY_2 := Lib.hid (JY_1.out.below hb)
              have VA_2 := Lib.hid (VA_1.out.below hb)
              have VB_2 := Lib.hid (VB_1.out.below hb)
              have B_2 := Lib.hid (below_of B_1.out hb)
              clear GA_1 GB_1 GP_1 GQ_1 GR_1 GG_1 GX_1 GY_1 JG_1 JX_1 JY_1 VA_1 VB_1 B_1
              have KX_2 := Lib.hid ix
              clear hb ix
              obtain ⟨y0, y1, z0, z1, ye⟩ := blk2 GX_2.out
              obtain ⟨V_3, eV⟩ : ∃ V, (w_2.setCell ⟨G10, 0, none⟩ (.bool mx)).setCell ⟨G10, 1, none⟩ (.slice dx lx ex) = V := ⟨_, rfl⟩
              have GA_3 : Hid (V_3.heap[w.heap.size]? = some (Obj.cells #[Value.bool n1, Value.slice a1 k1 c1] 25)) := Lib.hid (by rw [← eV]; exact blk_far2 GA_2.out NAX.out)
              have GB_3 : Hid (V_3.heap[w.heap.size + 1]? = some (Obj.cells #[Value.bool n2, Value.slice a2 k2 c2] 25)) := Lib.hid (by rw [← eV]; exact blk_far2 GB_2.out NBX.out)
              have GP_3 : Hid (V_3.heap[w.heap.size + 1 + 1]? = some (Obj.cells #[Value.bool false, Value.slice none 0 0] 25)) := Lib.hid (by rw [← eV]; exact blk_far2 GP_2.out NPX.out)
              have GQ_3 : Hid (V_3.heap[w.heap.size + 1 + 1 + 1]? = some (Obj.cells #[Value.bool false, Value.slice none 0 0] 25)) := Lib.hid (by rw [← eV]; exact blk_far2 GQ_2.out NQX.out)
              have GR_3 : Hid (V_3.heap[w.heap.size + 1 + 1 + 1 + 1]? = some (Obj.cells #[Value.bool false, Value.slice none 0 0] 25)) := Lib.hid (by rw [← eV]; exact blk_far2 GR_2.out NRX.out)
              have GG_3 : Hid (V_3.heap[G9]? = some (Obj.cells #[Value.bool sn0, Value.slice sa0 sk0 sc0] 25)) := Lib.hid (by rw [← eV]; exact blk_far2 GG_2.out NGX.out)
              have GX_3 : Hid (V_3.heap[G10]? = some (Obj.cells #[Value.bool mx, Value.slice dx lx ex] 25)) := Lib.hid (by rw [← eV]; exact blk_set (blk_set GX_2.out rfl) rfl)
              have GY_3 : Hid (V_3.heap[G11]? = some (Obj.cells #[Value.bool sn2, Value.slice sa2 sk2 sc2] 25)) := Lib.hid (by rw [← eV]; exact blk_far2 GY_2.out NYX.out)
              have JG_3 := Lib.hid (eV ▸ (JG_2.out.far (y0 := .bool mx) (y1 := .slice dx lx ex) GX_2.out))
              have JX_3 := Lib.hid (eV ▸ (JX_2.out.far (y0 := .bool mx) (y1 := .slice dx lx ex) GX_2.out))
              have JY_3 := Lib.hid (eV ▸ (JY_2.out.far (y0 := .bool mx) (y1 := .slice dx lx ex) GX_2.out))
              have VA_3 := Lib.hid (eV ▸ (VA_2.out.far (y0 := .bool mx) (y1 := .slice dx lx ex) GX_2.out))
              have VB_3 := Lib.hid (eV ▸ (VB_2.out.far (y0 := .bool mx) (y1 := .slice dx lx ex) GX_2.out))
              have KX_3 := Lib.hid (eV ▸ (KX_2.out.far (y0 := .bool mx) (y1 := .slice dx lx ex) GX_2.out))
              have B_3 : Hid (Below w.heap.size w V_3) := Lib.hid (by rw [← eV]; exact set_below (set_below B_2.out LX.out) LX.out)
              clear GA_2 GB_2 GP_2 GQ_2 GR_2 GG_2 GX_2 GY_2 JG_2 JX_2 JY_2 VA_2 VB_2 KX_2 B_2
              obtain ⟨oy, hoy, hny⟩ : ∃ o, zcmp y 0 = o ∧ ¬ o < 0 := ⟨_, rfl, by rw [zcmp_zero]; have := HNy.out; split <;> (first | omega | (split <;> omega))⟩
              have HOy := Lib.hid hoy
              clear hoy
              obtain ⟨cB0, cB1, dB0, dB1, eB⟩ := blk2 GB_3.out
              go_wp2_with fail
              clear eV y0 y1 z0 z1 ye
              refine (signF _ y oy _ VB_3.out HOy.out).mono ?_
              rintro e w_4 ⟨rfl, hb⟩
              clear cB0 cB1 dB0 dB1 eB
              have GA_4 := Lib.hid (blk_below' hb GA_3.out)
              have GB_4 := Lib.hid (blk_below' hb GB_3.out)
              have GP_4 := Lib.hid (blk_below' hb GP_3.out)
              have GQ_4 := Lib.hid (blk_below' hb GQ_3.out)
              have GR_4 := Lib.hid (blk_below' hb GR_3.out)
              have GG_4 := Lib.hid (blk_below' hb GG_3.out)
              have GX_4 := Lib.hid (blk_below' hb GX_3.out)
              have GY_4 := Lib.hid (blk_below' hb GY_3.out)
              have JG_4 := Lib.hid (JG_3.out.below hb)
              have JX_4 := Lib.hid (JX_3.out.below hb)
              have JY_4 := Lib.hid (JY_3.out.below hb)
              have VA_4 := Lib.hid (VA_3.out.below hb)
              have VB_4 := Lib.hid (VB_3.out.below hb)
              have KX_4 := Lib.hid (KX_3.out.below hb)
              have B_4 := Lib.hid (below_of B_3.out hb)
              clear GA_3 GB_3 GP_3 GQ_3 GR_3 GG_3 GX_3 GY_3 JG_3 JX_3 JY_3 VA_3 VB_3 KX_3 B_3
              clear hb 
              obtain ⟨cG0, cG1, dG0, dG1, eG⟩ := blk2 GG_4.out
              obtain ⟨cX0, cX1, dX0, dX1, eX⟩ := blk2 GX_4.out
              obtain ⟨cY0, cY1, dY0, dY1, eY⟩ := blk2 GY_4.out
              obtain ⟨cP0, cP1, dP0, dP1, eP⟩ := blk2 GP_4.out
              obtain ⟨cQ0, cQ1, dQ0, dQ1, eQ⟩ := blk2 GQ_4.out
              obtain ⟨cR0, cR1, dR0, dR1, eR⟩ := blk2 GR_4.out
              have l2 : w.heap.size ≤ w.heap.size + 1 + 1 := by omega
              have l3 : w.heap.size ≤ w.heap.size + 1 + 1 + 1 := by omega
              have l4 : w.heap.size ≤ w.heap.size + 1 + 1 + 1 + 1 := by omega
              obtain ⟨PP, hP⟩ : ∃ PP : World → Prop, PP = fun w' => Ev w w' G9 G10 G11 (w.heap.size + 1 + 1) (w.heap.size + 1 + 1 + 1) (w.heap.size + 1 + 1 + 1 + 1) (Obj.cells #[Value.bool sn0, Value.slice sa0 sk0 sc0] 25) (Obj.cells #[Value.bool mx, Value.slice dx lx ex] 25) (Obj.cells #[Value.bool sn2, Value.slice sa2 sk2 sc2] 25) (.agg #[.bool sn0, .slice sa0 sk0 sc0]) (.agg #[.bool mx, .slice dx lx ex]) (.agg #[.bool sn2, .slice sa2 sk2 sc2]) (xG x y) (-(r1 s)) (r2 s) := ⟨_, rfl⟩
              have hP0 : PP w_4 := by rw [hP]; exact ⟨B_4.out, ⟨GG_4.out, GX_4.out, GY_4.out⟩, ⟨⟨_, _, _, _, GP_4.out⟩, ⟨_, _, _, _, GQ_4.out⟩, ⟨_, _, _, _, GR_4.out⟩⟩, JG_4.out, KX_4.out, JY_4.out⟩
              have PSP : Hid (∀ (u : World) (x : Bool) (ao : Option Addr) (n c : Nat), PP u → PP ((u.setCell ⟨w.heap.size + 1 + 1, 0, none⟩ (.bool x)).setCell ⟨w.heap.size + 1 + 1, 1, none⟩ (.slice ao n c))) := Lib.hid (by rw [hP]; exact fun u x ao n c h => h.setP l2 NPG.out.symm NPX.out.symm NPY.out.symm (by omega) (by omega))
              have PSQ : Hid (∀ (u : World) (x : Bool) (ao : Option Addr) (n c : Nat), PP u → PP ((u.setCell ⟨w.heap.size + 1 + 1 + 1, 0, none⟩ (.bool x)).setCell ⟨w.heap.size + 1 + 1 + 1, 1, none⟩ (.slice ao n c))) := Lib.hid (by rw [hP]; exact fun u x ao n c h => h.setQ l3 NQG.out.symm NQX.out.symm NQY.out.symm (by omega) (by omega))
              have PSR : Hid (∀ (u : World) (x : Bool) (ao : Option Addr) (n c : Nat), PP u → PP ((u.setCell ⟨w.heap.size + 1 + 1 + 1 + 1, 0, none⟩ (.bool x)).setCell ⟨w.heap.size + 1 + 1 + 1 + 1, 1, none⟩ (.slice ao n c))) := Lib.hid (by rw [hP]; exact fun u x ao n c h => h.setR l4 NRG.out.symm NRX.out.symm NRY.out.symm (by omega) (by omega))
              have PD : Hid (∀ u, PP u → PP u.drew) := Lib.hid (by rw [hP]; exact fun u h => h.drew)
              have PE : Hid (∀ u, PP u → Ev w u G9 G10 G11 (w.heap.size + 1 + 1) (w.heap.size + 1 + 1 + 1) (w.heap.size + 1 + 1 + 1 + 1) (Obj.cells #[Value.bool sn0, Value.slice sa0 sk0 sc0] 25) (Obj.cells #[Value.bool mx, Value.slice dx lx ex] 25) (Obj.cells #[Value.bool sn2, Value.slice sa2 sk2 sc2] 25) (.agg #[.bool sn0, .slice sa0 sk0 sc0]) (.agg #[.bool mx, .slice dx lx ex]) (.agg #[.bool sn2, .slice sa2 sk2 sc2]) (xG x y) (-(r1 s)) (r2 s)) := Lib.hid (by rw [hP]; exact fun u h => h)
              have STAY : Hid (∀ w', PP w' → w'.cell? ⟨G9, 0, none⟩ = some (.bool sn0) ∧ w'.cell? ⟨G9, 1, none⟩ = some (.slice sa0 sk0 sc0) ∧ w'.cell? ⟨G10, 0, none⟩ = some (.bool mx) ∧ w'.cell? ⟨G10, 1, none⟩ = some (.slice dx lx ex) ∧ w'.cell? ⟨G11, 0, none⟩ = some (.bool sn2) ∧ w'.cell? ⟨G11, 1, none⟩ = some (.slice sa2 sk2 sc2) ∧ PP w') := Lib.hid (by rw [hP]; exact fun w' h => ⟨(blk2 h.2.1.1).1, (blk2 h.2.1.1).2.1, (blk2 h.2.1.2.1).1, (blk2 h.2.1.2.1).2.1, (blk2 h.2.1.2.2).1, (blk2 h.2.1.2.2).2.1, h⟩)
              clear hP
              clear cG0 cG1 dG0 dG1 eG
              clear cX0 cX1 dX0 dX1 eX
              clear cY0 cY1 dY0 dY1 eY
              go_wp2_with fail
              go_region_held3 (fun w' => w'.cell? ⟨G9, 0, none⟩ = some (.bool sn0) ∧ w'.cell? ⟨G9, 1, none⟩ = some (.slice sa0 sk0 sc0) ∧ w'.cell? ⟨G10, 0, none⟩ = some (.bool mx) ∧ w'.cell? ⟨G10, 1, none⟩ = some (.slice dx lx ex) ∧ w'.cell? ⟨G11, 0, none⟩ = some (.bool sn2) ∧ w'.cell? ⟨G11, 1, none⟩ = some (.slice sa2 sk2 sc2) ∧ PP w')
                ((try go_split_ands; refine STAY.out _ ?_; repeat (first | (with_reducible assumption) | (with_reducible refine PD.out _ ?_) | (with_reducible refine PSP.out _ _ _ _ _ ?_) | (with_reducible refine PSQ.out _ _ _ _ _ ?_) | (with_reducible refine PSR.out _ _ _ _ _ ?_))))
                ((fail))
              go_wp2
              have FE := Lib.hid (PE.out _ (PD.out _ (PSR.out _ sn2 sa2 sk2 sc2 (PSQ.out _ mx dx lx ex (PSP.out _ sn0 sa0 sk0 sc0 hP0)))))
              refine bodyPost_ret (v := .tuple #[.agg #[.bool sn0, .slice sa0 sk0 sc0], .agg #[.bool mx, .slice dx lx ex], .agg #[.bool sn2, .slice sa2 sk2 sc2], .int .i64 0]) ?_ rfl ⟨_, _, _, rfl, FE.out.2.2.2.1, by rw [EX.out, if_pos HNx.out]; exact FE.out.2.2.2.2.1, by rw [EY.out, if_neg (show ¬ (y < 0) by have := HNy.out; omega)]; exact FE.out.2.2.2.2.2, FE.out.1⟩
              simp [results, Tryz.results6, go_sem, *]
          · have HNx := Lib.hid hx0; clear hx0
            by_cases hy0 : y < 0
            · have HNy := Lib.hid hy0; clear hy0
              obtain ⟨ox, hox, hnx⟩ : ∃ o, zcmp x 0 = o ∧ ¬ o < 0 := ⟨_, rfl, by rw [zcmp_zero]; have := HNx.out; split <;> (first | omega | (split <;> omega))⟩
              have HOx := Lib.hid hox
              clear hox
              obtain ⟨cA0, cA1, dA0, dA1, eA⟩ := blk2 GA_0.out
              go_wp2_with fail
              refine (signF _ x ox _ VA_0.out HOx.out).mono ?_
              rintro e w_1 ⟨rfl, hb⟩
              clear cA0 cA1 dA0 dA1 eA
              have GA_1 := Lib.hid (blk_below' hb GA_0.out)
              have GB_1 := Lib.hid (blk_below' hb GB_0.out)
              have GP_1 := Lib.hid (blk_below' hb GP_0.out)
              have GQ_1 := Lib.hid (blk_below' hb GQ_0.out)
              have GR_1 := Lib.hid (blk_below' hb GR_0.out)
              have GG_1 := Lib.hid (blk_below' hb GG_0.out)
              have GX_1 := Lib.hid (blk_below' hb GX_0.out)
              have GY_1 := Lib.hid (blk_below' hb GY_0.out)
              have JG_1 := Lib.hid (JG_0.out.below hb)
              have JX_1 := Lib.hid (JX_0.out.below hb)
              have JY_1 := Lib.hid (JY_0.out.below hb)
              have VA_1 := Lib.hid (VA_0.out.below hb)
              have VB_1 := Lib.hid (VB_0.out.below hb)
              have B_1 := Lib.hid (below_of B5.out hb)
              clear GA_0 GB_0 GP_0 GQ_0 GR_0 GG_0 GX_0 GY_0 JG_0 JX_0 JY_0 VA_0 VB_0 B5
              clear hb 
              obtain ⟨cB0, cB1, dB0, dB1, eB⟩ := blk2 GB_1.out
              go_wp2_with fail
              refine (signF _ y (-1) _ VB_1.out (zcmp_lt HNy.out)).mono ?_
              rintro e w_2 ⟨rfl, hb⟩
              clear cB0 cB1 dB0 dB1 eB
              have GA_2 := Lib.hid (blk_below' hb GA_1.out)
              have GB_2 := Lib.hid (blk_below' hb GB_1.out)
              have GP_2 := Lib.hid (blk_below' hb GP_1.out)
              have GQ_2 := Lib.hid (blk_below' hb GQ_1.out)
              have GR_2 := Lib.hid (blk_below' hb GR_1.out)
              have GG_2 := Lib.hid (blk_below' hb GG_1.out)
              have GX_2 := Lib.hid (blk_below' hb GX_1.out)
              have GY_2 := Lib.hid (blk_below' hb GY_1.out)
              have JG_2 := Lib.hid (JG_1.out.below hb)
              have JX_2 := Lib.hid (JX_1.out.below hb)
              have JY_2 := Lib.hid (JY_1.out.below hb)
              have VA_2 := Lib.hid (VA_1.out.below hb)
              have VB_2 := Lib.hid (VB_1.out.below hb)
              have B_2 := Lib.hid (below_of B_1.out hb)
              clear GA_1 GB_1 GP_1 GQ_1 GR_1 GG_1 GX_1 GY_1 JG_1 JX_1 JY_1 VA_1 VB_1 B_1
              clear hb 
              obtain ⟨cY0, cY1, dY0, dY1, eY⟩ := blk2 GY_2.out
              go_wp2_with fail
              refine (negF _ (r2 s) _ JY_2.out.2 BX.out.2).mono ?_
              rintro e w_3 ⟨my, dy, ly, ey, rfl, iy, hb⟩
              clear cY0 cY1 dY0 dY1 eY
              have GA_3 := Lib.hid (blk_below' hb GA_2.out)
              have GB_3 := Lib.hid (blk_below' hb GB_2.out)
              have GP_3 := Lib.hid (blk_below' hb GP_2.out)
              have GQ_3 := Lib.hid (blk_below' hb GQ_2.out)
              have GR_3 := Lib.hid (blk_below' hb GR_2.out)
              have GG_3 := Lib.hid (blk_below' hb GG_2.out)
              have GX_3 := Lib.hid (blk_below' hb GX_2.out)
              have GY_3 := Lib.hid (blk_below' hb GY_2.out)
              have JG_3 := Lib.hid (JG_2.out.below hb)
              have JX_3 := Lib.hid (JX_2.out.below hb)
              have JY_3 := Lib.hid (JY_2.out.below hb)
              have VA_3 := Lib.hid (VA_2.out.below hb)
              have VB_3 := Lib.hid (VB_2.out.below hb)
              have B_3 := Lib.hid (below_of B_2.out hb)
              clear GA_2 GB_2 GP_2 GQ_2 GR_2 GG_2 GX_2 GY_2 JG_2 JX_2 JY_2 VA_2 VB_2 B_2
              have KY_3 := Lib.hid iy
              clear hb iy
              obtain ⟨y0, y1, z0, z1, ye⟩ := blk2 GY_3.out
              obtain ⟨V_4, eV⟩ : ∃ V, (w_3.setCell ⟨G11, 0, none⟩ (.bool my)).setCell ⟨G11, 1, none⟩ (.slice dy ly ey) = V := ⟨_, rfl⟩
              have GA_4 : Hid (V_4.heap[w.heap.size]? = some (Obj.cells #[Value.bool n1, Value.slice a1 k1 c1] 25)) := Lib.hid (by rw [← eV]; exact blk_far2 GA_3.out NAY.out)
              have GB_4 : Hid (V_4.heap[w.heap.size + 1]? = some (Obj.cells #[Value.bool n2, Value.slice a2 k2 c2] 25)) := Lib.hid (by rw [← eV]; exact blk_far2 GB_3.out NBY.out)
              have GP_4 : Hid (V_4.heap[w.heap.size + 1 + 1]? = some (Obj.cells #[Value.bool false, Value.slice none 0 0] 25)) := Lib.hid (by rw [← eV]; exact blk_far2 GP_3.out NPY.out)
              have GQ_4 : Hid (V_4.heap[w.heap.size + 1 + 1 + 1]? = some (Obj.cells #[Value.bool false, Value.slice none 0 0] 25)) := Lib.hid (by rw [← eV]; exact blk_far2 GQ_3.out NQY.out)
              have GR_4 : Hid (V_4.heap[w.heap.size + 1 + 1 + 1 + 1]? = some (Obj.cells #[Value.bool false, Value.slice none 0 0] 25)) := Lib.hid (by rw [← eV]; exact blk_far2 GR_3.out NRY.out)
              have GG_4 : Hid (V_4.heap[G9]? = some (Obj.cells #[Value.bool sn0, Value.slice sa0 sk0 sc0] 25)) := Lib.hid (by rw [← eV]; exact blk_far2 GG_3.out NGY.out)
              have GX_4 : Hid (V_4.heap[G10]? = some (Obj.cells #[Value.bool sn1, Value.slice sa1 sk1 sc1] 25)) := Lib.hid (by rw [← eV]; exact blk_far2 GX_3.out NXY.out)
              have GY_4 : Hid (V_4.heap[G11]? = some (Obj.cells #[Value.bool my, Value.slice dy ly ey] 25)) := Lib.hid (by rw [← eV]; exact blk_set (blk_set GY_3.out rfl) rfl)
              have JG_4 := Lib.hid (eV ▸ (JG_3.out.far (y0 := .bool my) (y1 := .slice dy ly ey) GY_3.out))
              have JX_4 := Lib.hid (eV ▸ (JX_3.out.far (y0 := .bool my) (y1 := .slice dy ly ey) GY_3.out))
              have JY_4 := Lib.hid (eV ▸ (JY_3.out.far (y0 := .bool my) (y1 := .slice dy ly ey) GY_3.out))
              have VA_4 := Lib.hid (eV ▸ (VA_3.out.far (y0 := .bool my) (y1 := .slice dy ly ey) GY_3.out))
              have VB_4 := Lib.hid (eV ▸ (VB_3.out.far (y0 := .bool my) (y1 := .slice dy ly ey) GY_3.out))
              have KY_4 := Lib.hid (eV ▸ (KY_3.out.far (y0 := .bool my) (y1 := .slice dy ly ey) GY_3.out))
              have B_4 : Hid (Below w.heap.size w V_4) := Lib.hid (by rw [← eV]; exact set_below (set_below B_3.out LY.out) LY.out)
              clear GA_3 GB_3 GP_3 GQ_3 GR_3 GG_3 GX_3 GY_3 JG_3 JX_3 JY_3 VA_3 VB_3 KY_3 B_3
              obtain ⟨cG0, cG1, dG0, dG1, eG⟩ := blk2 GG_4.out
              obtain ⟨cX0, cX1, dX0, dX1, eX⟩ := blk2 GX_4.out
              obtain ⟨cY0, cY1, dY0, dY1, eY⟩ := blk2 GY_4.out
              obtain ⟨cP0, cP1, dP0, dP1, eP⟩ := blk2 GP_4.out
              obtain ⟨cQ0, cQ1, dQ0, dQ1, eQ⟩ := blk2 GQ_4.out
              obtain ⟨cR0, cR1, dR0, dR1, eR⟩ := blk2 GR_4.out
              have l2 : w.heap.size ≤ w.heap.size + 1 + 1 := by omega
              have l3 : w.heap.size ≤ w.heap.size + 1 + 1 + 1 := by omega
              have l4 : w.heap.size ≤ w.heap.size + 1 + 1 + 1 + 1 := by omega
              obtain ⟨PP, hP⟩ : ∃ PP : World → Prop, PP = fun w' => Ev w w' G9 G10 G11 (w.heap.size + 1 + 1) (w.heap.size + 1 + 1 + 1) (w.heap.size + 1 + 1 + 1 + 1) (Obj.cells #[Value.bool sn0, Value.slice sa0 sk0 sc0] 25) (Obj.cells #[Value.bool sn1, Value.slice sa1 sk1 sc1] 25) (Obj.cells #[Value.bool my, Value.slice dy ly ey] 25) (.agg #[.bool sn0, .slice sa0 sk0 sc0]) (.agg #[.bool sn1, .slice sa1 sk1 sc1]) (.agg #[.bool my, .slice dy ly ey]) (xG x y) (r1 s) (-(r2 s)) := ⟨_, rfl⟩
              have hP0 : PP V_4 := by rw [hP]; exact ⟨B_4.out, ⟨GG_4.out, GX_4.out, GY_4.out⟩, ⟨⟨_, _, _, _, GP_4.out⟩, ⟨_, _, _, _, GQ_4.out⟩, ⟨_, _, _, _, GR_4.out⟩⟩, JG_4.out, JX_4.out, KY_4.out⟩
              have PSP : Hid (∀ (u : World) (x : Bool) (ao : Option Addr) (n c : Nat), PP u → PP ((u.setCell ⟨w.heap.size + 1 + 1, 0, none⟩ (.bool x)).setCell ⟨w.heap.size + 1 + 1, 1, none⟩ (.slice ao n c))) := Lib.hid (by rw [hP]; exact fun u x ao n c h => h.setP l2 NPG.out.symm NPX.out.symm NPY.out.symm (by omega) (by omega))
              have PSQ : Hid (∀ (u : World) (x : Bool) (ao : Option Addr) (n c : Nat), PP u → PP ((u.setCell ⟨w.heap.size + 1 + 1 + 1, 0, none⟩ (.bool x)).setCell ⟨w.heap.size + 1 + 1 + 1, 1, none⟩ (.slice ao n c))) := Lib.hid (by rw [hP]; exact fun u x ao n c h => h.setQ l3 NQG.out.symm NQX.out.symm NQY.out.symm (by omega) (by omega))
              have PSR : Hid (∀ (u : World) (x : Bool) (ao : Option Addr) (n c : Nat), PP u → PP ((u.setCell ⟨w.heap.size + 1 + 1 + 1 + 1, 0, none⟩ (.bool x)).setCell ⟨w.heap.size + 1 + 1 + 1 + 1, 1, none⟩ (.slice ao n c))) := Lib.hid (by rw [hP]; exact fun u x ao n c h => h.setR l4 NRG.out.symm NRX.out.symm NRY.out.symm (by omega) (by omega))
              have PD : Hid (∀ u, PP u → PP u.drew) := Lib.hid (by rw [hP]; exact fun u h => h.drew)
              have PE : Hid (∀ u, PP u → Ev w u G9 G10 G11 (w.heap.size + 1 + 1) (w.heap.size + 1 + 1 + 1) (w.heap.size + 1 + 1 + 1 + 1) (Obj.cells #[Value.bool sn0, Value.slice sa0 sk0 sc0] 25) (Obj.cells #[Value.bool sn1, Value.slice sa1 sk1 sc1] 25) (Obj.cells #[Value.bool my, Value.slice dy ly ey] 25) (.agg #[.bool sn0, .slice sa0 sk0 sc0]) (.agg #[.bool sn1, .slice sa1 sk1 sc1]) (.agg #[.bool my, .slice dy ly ey]) (xG x y) (r1 s) (-(r2 s))) := Lib.hid (by rw [hP]; exact fun u h => h)
              have STAY : Hid (∀ w', PP w' → w'.cell? ⟨G9, 0, none⟩ = some (.bool sn0) ∧ w'.cell? ⟨G9, 1, none⟩ = some (.slice sa0 sk0 sc0) ∧ w'.cell? ⟨G10, 0, none⟩ = some (.bool sn1) ∧ w'.cell? ⟨G10, 1, none⟩ = some (.slice sa1 sk1 sc1) ∧ w'.cell? ⟨G11, 0, none⟩ = some (.bool my) ∧ w'.cell? ⟨G11, 1, none⟩ = some (.slice dy ly ey) ∧ PP w') := Lib.hid (by rw [hP]; exact fun w' h => ⟨(blk2 h.2.1.1).1, (blk2 h.2.1.1).2.1, (blk2 h.2.1.2.1).1, (blk2 h.2.1.2.1).2.1, (blk2 h.2.1.2.2).1, (blk2 h.2.1.2.2).2.1, h⟩)
              clear hP
              clear cG0 cG1 dG0 dG1 eG
              clear cX0 cX1 dX0 dX1 eX
              clear cY0 cY1 dY0 dY1 eY
              go_wp2_with fail
              clear eV y0 y1 z0 z1 ye
              go_region_held3 (fun w' => w'.cell? ⟨G9, 0, none⟩ = some (.bool sn0) ∧ w'.cell? ⟨G9, 1, none⟩ = some (.slice sa0 sk0 sc0) ∧ w'.cell? ⟨G10, 0, none⟩ = some (.bool sn1) ∧ w'.cell? ⟨G10, 1, none⟩ = some (.slice sa1 sk1 sc1) ∧ w'.cell? ⟨G11, 0, none⟩ = some (.bool my) ∧ w'.cell? ⟨G11, 1, none⟩ = some (.slice dy ly ey) ∧ PP w')
                ((try go_split_ands; refine STAY.out _ ?_; repeat (first | (with_reducible assumption) | (with_reducible refine PD.out _ ?_) | (with_reducible refine PSP.out _ _ _ _ _ ?_) | (with_reducible refine PSQ.out _ _ _ _ _ ?_) | (with_reducible refine PSR.out _ _ _ _ _ ?_))))
                ((fail))
              go_wp2
              have FE := Lib.hid (PE.out _ (PD.out _ (PSR.out _ my dy ly ey (PSQ.out _ sn1 sa1 sk1 sc1 (PSP.out _ sn0 sa0 sk0 sc0 hP0)))))
              refine bodyPost_ret (v := .tuple #[.agg #[.bool sn0, .slice sa0 sk0 sc0], .agg #[.bool sn1, .slice sa1 sk1 sc1], .agg #[.bool my, .slice dy ly ey], .int .i64 0]) ?_ rfl ⟨_, _, _, rfl, FE.out.2.2.2.1, by rw [EX.out, if_neg (show ¬ (x < 0) by have := HNx.out; omega)]; exact FE.out.2.2.2.2.1, by rw [EY.out, if_pos HNy.out]; exact FE.out.2.2.2.2.2, FE.out.1⟩
              simp [results, Tryz.results6, go_sem, *]
            · have HNy := Lib.hid hy0; clear hy0
              obtain ⟨ox, hox, hnx⟩ : ∃ o, zcmp x 0 = o ∧ ¬ o < 0 := ⟨_, rfl, by rw [zcmp_zero]; have := HNx.out; split <;> (first | omega | (split <;> omega))⟩
              have HOx := Lib.hid hox
              clear hox
              obtain ⟨cA0, cA1, dA0, dA1, eA⟩ := blk2 GA_0.out
              go_wp2_with fail
              refine (signF _ x ox _ VA_0.out HOx.out).mono ?_
              rintro e w_1 ⟨rfl, hb⟩
              clear cA0 cA1 dA0 dA1 eA
              have GA_1 := Lib.hid (blk_below' hb GA_0.out)
              have GB_1 := Lib.hid (blk_below' hb GB_0.out)
              have GP_1 := Lib.hid (blk_below' hb GP_0.out)
              have GQ_1 := Lib.hid (blk_below' hb GQ_0.out)
              have GR_1 := Lib.hid (blk_below' hb GR_0.out)
              have GG_1 := Lib.hid (blk_below' hb GG_0.out)
              have GX_1 := Lib.hid (blk_below' hb GX_0.out)
              have GY_1 := Lib.hid (blk_below' hb GY_0.out)
              have JG_1 := Lib.hid (JG_0.out.below hb)
              have JX_1 := Lib.hid (JX_0.out.below hb)
              have JY_1 := Lib.hid (JY_0.out.below hb)
              have VA_1 := Lib.hid (VA_0.out.below hb)
              have VB_1 := Lib.hid (VB_0.out.below hb)
              have B_1 := Lib.hid (below_of B5.out hb)
              clear GA_0 GB_0 GP_0 GQ_0 GR_0 GG_0 GX_0 GY_0 JG_0 JX_0 JY_0 VA_0 VB_0 B5
              clear hb 
              obtain ⟨oy, hoy, hny⟩ : ∃ o, zcmp y 0 = o ∧ ¬ o < 0 := ⟨_, rfl, by rw [zcmp_zero]; have := HNy.out; split <;> (first | omega | (split <;> omega))⟩
              have HOy := Lib.hid hoy
              clear hoy
              obtain ⟨cB0, cB1, dB0, dB1, eB⟩ := blk2 GB_1.out
              go_wp2_with fail
              refine (signF _ y oy _ VB_1.out HOy.out).mono ?_
              rintro e w_2 ⟨rfl, hb⟩
              clear cB0 cB1 dB0 dB1 eB
              have GA_2 := Lib.hid (blk_below' hb GA_1.out)
              have GB_2 := Lib.hid (blk_below' hb GB_1.out)
              have GP_2 := Lib.hid (blk_below' hb GP_1.out)
              have GQ_2 := Lib.hid (blk_below' hb GQ_1.out)
              have GR_2 := Lib.hid (blk_below' hb GR_1.out)
              have GG_2 := Lib.hid (blk_below' hb GG_1.out)
              have GX_2 := Lib.hid (blk_below' hb GX_1.out)
              have GY_2 := Lib.hid (blk_below' hb GY_1.out)
              have JG_2 := Lib.hid (JG_1.out.below hb)
              have JX_2 := Lib.hid (JX_1.out.below hb)
              have JY_2 := Lib.hid (JY_1.out.below hb)
              have VA_2 := Lib.hid (VA_1.out.below hb)
              have VB_2 := Lib.hid (VB_1.out.below hb)
              have B_2 := Lib.hid (below_of B_1.out hb)
              clear GA_1 GB_1 GP_1 GQ_1 GR_1 GG_1 GX_1 GY_1 JG_1 JX_1 JY_1 VA_1 VB_1 B_1
              clear hb 
              obtain ⟨cG0, cG1, dG0, dG1, eG⟩ := blk2 GG_2.out
              obtain ⟨cX0, cX1, dX0, dX1, eX⟩ := blk2 GX_2.out
              obtain ⟨cY0, cY1, dY0, dY1, eY⟩ := blk2 GY_2.out
              obtain ⟨cP0, cP1, dP0, dP1, eP⟩ := blk2 GP_2.out
              obtain ⟨cQ0, cQ1, dQ0, dQ1, eQ⟩ := blk2 GQ_2.out
              obtain ⟨cR0, cR1, dR0, dR1, eR⟩ := blk2 GR_2.out
              have l2 : w.heap.size ≤ w.heap.size + 1 + 1 := by omega
              have l3 : w.heap.size ≤ w.heap.size + 1 + 1 + 1 := by omega
              have l4 : w.heap.size ≤ w.heap.size + 1 + 1 + 1 + 1 := by omega
              obtain ⟨PP, hP⟩ : ∃ PP : World → Prop, PP = fun w' => Ev w w' G9 G10 G11 (w.heap.size + 1 + 1) (w.heap.size + 1 + 1 + 1) (w.heap.size + 1 + 1 + 1 + 1) (Obj.cells #[Value.bool sn0, Value.slice sa0 sk0 sc0] 25) (Obj.cells #[Value.bool sn1, Value.slice sa1 sk1 sc1] 25) (Obj.cells #[Value.bool sn2, Value.slice sa2 sk2 sc2] 25) (.agg #[.bool sn0, .slice sa0 sk0 sc0]) (.agg #[.bool sn1, .slice sa1 sk1 sc1]) (.agg #[.bool sn2, .slice sa2 sk2 sc2]) (xG x y) (r1 s) (r2 s) := ⟨_, rfl⟩
              have hP0 : PP w_2 := by rw [hP]; exact ⟨B_2.out, ⟨GG_2.out, GX_2.out, GY_2.out⟩, ⟨⟨_, _, _, _, GP_2.out⟩, ⟨_, _, _, _, GQ_2.out⟩, ⟨_, _, _, _, GR_2.out⟩⟩, JG_2.out, JX_2.out, JY_2.out⟩
              have PSP : Hid (∀ (u : World) (x : Bool) (ao : Option Addr) (n c : Nat), PP u → PP ((u.setCell ⟨w.heap.size + 1 + 1, 0, none⟩ (.bool x)).setCell ⟨w.heap.size + 1 + 1, 1, none⟩ (.slice ao n c))) := Lib.hid (by rw [hP]; exact fun u x ao n c h => h.setP l2 NPG.out.symm NPX.out.symm NPY.out.symm (by omega) (by omega))
              have PSQ : Hid (∀ (u : World) (x : Bool) (ao : Option Addr) (n c : Nat), PP u → PP ((u.setCell ⟨w.heap.size + 1 + 1 + 1, 0, none⟩ (.bool x)).setCell ⟨w.heap.size + 1 + 1 + 1, 1, none⟩ (.slice ao n c))) := Lib.hid (by rw [hP]; exact fun u x ao n c h => h.setQ l3 NQG.out.symm NQX.out.symm NQY.out.symm (by omega) (by omega))
              have PSR : Hid (∀ (u : World) (x : Bool) (ao : Option Addr) (n c : Nat), PP u → PP ((u.setCell ⟨w.heap.size + 1 + 1 + 1 + 1, 0, none⟩ (.bool x)).setCell ⟨w.heap.size + 1 + 1 + 1 + 1, 1, none⟩ (.slice ao n c))) := Lib.hid (by rw [hP]; exact fun u x ao n c h => h.setR l4 NRG.out.symm NRX.out.symm NRY.out.symm (by omega) (by omega))
              have PD : Hid (∀ u, PP u → PP u.drew) := Lib.hid (by rw [hP]; exact fun u h => h.drew)
              have PE : Hid (∀ u, PP u → Ev w u G9 G10 G11 (w.heap.size + 1 + 1) (w.heap.size + 1 + 1 + 1) (w.heap.size + 1 + 1 + 1 + 1) (Obj.cells #[Value.bool sn0, Value.slice sa0 sk0 sc0] 25) (Obj.cells #[Value.bool sn1, Value.slice sa1 sk1 sc1] 25) (Obj.cells #[Value.bool sn2, Value.slice sa2 sk2 sc2] 25) (.agg #[.bool sn0, .slice sa0 sk0 sc0]) (.agg #[.bool sn1, .slice sa1 sk1 sc1]) (.agg #[.bool sn2, .slice sa2 sk2 sc2]) (xG x y) (r1 s) (r2 s)) := Lib.hid (by rw [hP]; exact fun u h => h)
              have STAY : Hid (∀ w', PP w' → w'.cell? ⟨G9, 0, none⟩ = some (.bool sn0) ∧ w'.cell? ⟨G9, 1, none⟩ = some (.slice sa0 sk0 sc0) ∧ w'.cell? ⟨G10, 0, none⟩ = some (.bool sn1) ∧ w'.cell? ⟨G10, 1, none⟩ = some (.slice sa1 sk1 sc1) ∧ w'.cell? ⟨G11, 0, none⟩ = some (.bool sn2) ∧ w'.cell? ⟨G11, 1, none⟩ = some (.slice sa2 sk2 sc2) ∧ PP w') := Lib.hid (by rw [hP]; exact fun w' h => ⟨(blk2 h.2.1.1).1, (blk2 h.2.1.1).2.1, (blk2 h.2.1.2.1).1, (blk2 h.2.1.2.1).2.1, (blk2 h.2.1.2.2).1, (blk2 h.2.1.2.2).2.1, h⟩)
              clear hP
              clear cG0 cG1 dG0 dG1 eG
              clear cX0 cX1 dX0 dX1 eX
              clear cY0 cY1 dY0 dY1 eY
              go_wp2_with fail
              go_region_held3 (fun w' => w'.cell? ⟨G9, 0, none⟩ = some (.bool sn0) ∧ w'.cell? ⟨G9, 1, none⟩ = some (.slice sa0 sk0 sc0) ∧ w'.cell? ⟨G10, 0, none⟩ = some (.bool sn1) ∧ w'.cell? ⟨G10, 1, none⟩ = some (.slice sa1 sk1 sc1) ∧ w'.cell? ⟨G11, 0, none⟩ = some (.bool sn2) ∧ w'.cell? ⟨G11, 1, none⟩ = some (.slice sa2 sk2 sc2) ∧ PP w')
                ((try go_split_ands; refine STAY.out _ ?_; repeat (first | (with_reducible assumption) | (with_reducible refine PD.out _ ?_) | (with_reducible refine PSP.out _ _ _ _ _ ?_) | (with_reducible refine PSQ.out _ _ _ _ _ ?_) | (with_reducible refine PSR.out _ _ _ _ _ ?_))))
                ((fail))
              go_wp2
              have FE := Lib.hid (PE.out _ (PD.out _ (PSR.out _ sn2 sa2 sk2 sc2 (PSQ.out _ sn1 sa1 sk1 sc1 (PSP.out _ sn0 sa0 sk0 sc0 hP0)))))
              refine bodyPost_ret (v := .tuple #[.agg #[.bool sn0, .slice sa0 sk0 sc0], .agg #[.bool sn1, .slice sa1 sk1 sc1], .agg #[.bool sn2, .slice sa2 sk2 sc2], .int .i64 0]) ?_ rfl ⟨_, _, _, rfl, FE.out.2.2.2.1, by rw [EX.out, if_neg (show ¬ (x < 0) by have := HNx.out; omega)]; exact FE.out.2.2.2.2.1, by rw [EY.out, if_neg (show ¬ (y < 0) by have := HNy.out; omega)]; exact FE.out.2.2.2.2.2, FE.out.1⟩
              simp [results, Tryz.results6, go_sem, *]
      · have S1 := Lib.hid (SG 1 (zcmp_gt (by omega)))
        have HQP : Hid (0 < s.q) := Lib.hid (by omega)
        clear SG h0
        go_wp2_with fail
        refine S1.out.mono ?_
        rintro e w4 ⟨rfl, b4⟩
        have HZ4 := Lib.hid (ZrN.call b4 HZ.out)
        have HH4 := Lib.hid (blk_below' b4 HH.out)
        have RW4 := Lib.hid (HRW.out.below b4)
        clear q0 q1 q2 q3 q4 q5 q6 q7 q8 q9 q10 q11 b4 HZ HH HRW
        obtain ⟨q0, q1, q2, q3, q4, q5, q6, q7, q8, q9, q10, q11⟩ := blk12 HH4.out
        go_wp2_with fail
        refine (rnext_any x.natAbs y.natAbs s _ _ _ _ _ _ _ _ _ _ _ _ _ _ _ _ _ _ _ _ _ _ _ _ w4 RW4.out HMX.out HMY.out HQP.out).mono ?_
        rintro e w5 ⟨s', rn0, rn1, rn2, rn3, rn4, rn5, ra0, ra1, ra2, ra3, ra4, ra5, rk0, rc0, rk1, rc1, rk2, rc2, rk3, rc3, rk4, rc4, rk5, rc5, rfl, hrw', he', hlt', b5⟩
        have HZ5 := Lib.hid (ZrN.call b5 HZ4.out)
        have HH5 := Lib.hid (blk_below' b5 HH4.out)
        have RW5 := Lib.hid hrw'; have HE5 := Lib.hid (he'.trans HE.out); have LT5 := Lib.hid hlt'
        obtain ⟨f0, f1, f2, f3, f4, f5, f6, f7, f8, f9, f10, f11⟩ := frozen12 HH5.out
        have C5 := Lib.hid (blk12 HH5.out)
        have hlt5 : g < w5.heap.size := (Array.getElem?_eq_some_iff.1 HH5.out).1
        clear q0 q1 q2 q3 q4 q5 q6 q7 q8 q9 q10 q11 b5 hrw' he' hlt' HZ4 HH4 RW4
        obtain ⟨q0, q1, q2, q3, q4, q5, q6, q7, q8, q9, q10, q11⟩ := C5.out
        go_wp2
        go_roundw
        case rel => exact ⟨s', rn0, rn1, rn2, rn3, rn4, rn5, ra0, ra1, ra2, ra3, ra4, ra5, rk0, rc0, rk1, rc1, rk2, rc2, rk3, rc3, rk4, rc4, rk5, rc5, heap12 HH5.out, rws12 RW5.out HH5.out (noint12 _ _ _ _ _ _ _ _ _ _ _ _ _ _ _ _ _ _ _ _ _ _ _ _), HE5.out, zrn12 HZ5.out⟩
        case measure =>
          rw [HQI.out, qIn_eq (heap12 HH5.out) (rws12 RW5.out HH5.out (noint12 _ _ _ _ _ _ _ _ _ _ _ _ _ _ _ _ _ _ _ _ _ _ _ _)).1.2.2.2.1]
          exact LT5.out
end Go.Proofs.YtfdilnfmcpbkgaaGreatDoor
