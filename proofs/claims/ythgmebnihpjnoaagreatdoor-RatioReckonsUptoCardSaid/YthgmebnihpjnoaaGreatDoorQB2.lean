/- ZRN RG RJ. -/
import Derived.Test.YthgmebnihpjnoaaGreatDoorZB5
import Derived.Test.YthgmebnihpjnoaaGreatDoorZ3
import Derived.Deep.RegionHeld3
import Derived.Test.YthgmebnihpjnoaaGreatDoorQB1
set_option linter.unusedVariables false
set_option linter.unusedSimpArgs false
/- Blocks of which all but one stay (moved here from YS, EF, EG, RN, RO: generic). -/
namespace Go.Proofs.YthgmebnihpjnoaaGreatDoor
open Go.RowKit Mth

theorem blk_newz {w : World} {cs : Array Value} {T : TypeId} {g : Nat} (h : g = w.heap.size) : (w.alloc (.cells cs T)).heap[g]? = some (.cells cs T (0, 0)) := by subst h; exact heap_alloc_new w _
theorem blk_ltz {w : World} {o x : Obj} {g : Nat} (hg : g < w.heap.size) (h : w.heap[g]? = some x) : (w.alloc o).heap[g]? = some x := (((Below.refl _ _).alloc (Nat.le_refl _) o).block g hg).trans h
theorem blk_own2z {w : World} {g : Nat} {x y : Value} {T : TypeId} (h : w.heap[g]? = some (.cells #[.bool false, .slice none 0 0] T (0, 0))) : ((w.setCell ⟨g, 0, none⟩ x).setCell ⟨g, 1, none⟩ y).heap[g]? = some (.cells #[x, y] T (0, 0)) :=
  heap_setCell_same _ g 1 _ _ y (heap_setCell_same w g 0 _ _ x h)
theorem blk_twoz {w : World} {g R : Nat} {y0 y1 : Value} {o : Obj} (hne : g ≠ R) (h : w.heap[g]? = some o) : ((w.setCell ⟨R, 0, none⟩ y0).setCell ⟨R, 1, none⟩ y1).heap[g]? = some o := by
  rw [heap_setCell_other _ ⟨R, 1, none⟩ g _ hne, heap_setCell_other _ ⟨R, 0, none⟩ g _ hne]
  exact h
/-- cells of which none is an integer -/
def NoInt (cs : Array Value) : Prop := ∀ (i : Nat) (k : IntKind) (n : Int), cs[i]? ≠ some (.int k n)
theorem noint6 (n0 n1 n2 : Bool) (a0 : Option Addr) (k0 c0 : Nat) (a1 : Option Addr) (k1 c1 : Nat) (a2 : Option Addr) (k2 c2 : Nat) : NoInt #[.bool n0, .slice a0 k0 c0, .bool n1, .slice a1 k1 c1, .bool n2, .slice a2 k2 c2] := by
  intro i k n
  rcases i with _ | _ | _ | _ | _ | _ | i <;> simp
theorem noint2 (n0 : Bool) (a0 : Option Addr) (k0 c0 : Nat) : NoInt #[.bool n0, .slice a0 k0 c0] := by
  intro i k n
  rcases i with _ | _ | i <;> simp
/-- an Int whose limbs lie in another block -/
def NotIn (v : Value) (R : Nat) : Prop := ∀ (n : Bool) (b off len cap : Nat), v = .agg #[.bool n, .slice (some ⟨b, off, none⟩) len cap] → 0 < len → b ≠ R
theorem IntR.notIn {w : World} {v : Value} {z : Int} {R : Nat} {cs : Array Value} {T : TypeId} (h : IntR w v z) (hR : w.heap[R]? = some (.cells cs T (0, 0))) (hn : NoInt cs) : NotIn v R := by
  rintro n b off len cap rfl hp rfl
  obtain ⟨n', u, xs, e, ⟨ao', cap', e', _, _, _, _, h5⟩, _⟩ := h.2
  simp only [Value.agg.injEq, Array.mk.injEq, List.cons.injEq, Value.bool.injEq, and_true] at e
  obtain ⟨_, rfl⟩ := e
  simp only [Value.slice.injEq] at e'
  obtain ⟨rfl, rfl, _⟩ := e'
  obtain ⟨b', off', e2, _, hc⟩ := h5 hp
  simp only [Option.some.injEq, Addr.mk.injEq] at e2
  obtain ⟨rfl, rfl, _⟩ := e2
  have := hc 0 hp
  rw [cell_of_row w b _ _ _ (0, 0) hR] at this
  exact hn _ _ _ this
theorem IntR.setNe {w : World} {v y : Value} {z : Int} {R j : Nat} (h : IntR w v z) (hn : NotIn v R) : IntR (w.setCell ⟨R, j, none⟩ y) v z := by
  obtain ⟨⟨u, rfl, ys, h1, h2⟩, n', u', xs, e, h3, h4⟩ := h
  simp only [Value.agg.injEq, Array.mk.injEq, List.cons.injEq, Value.bool.injEq, and_true] at e
  obtain ⟨rfl, rfl⟩ := e
  exact ⟨⟨u, rfl, ys, h1.set_far (fun b off cap e hp => hn _ _ _ _ _ (by rw [e]) hp), h2⟩, _, u, xs, rfl, h3.set_far (fun b off cap e hp => hn _ _ _ _ _ (by rw [e]) hp), h4⟩
/-- all blocks but R stay, and R is a block of k cells without integers -/
def ZrN (W w' : World) (R : Nat) (T : TypeId) (k : Nat) : Prop := W.grownBy w' (some R) ∧ ∃ cs : Array Value, w'.heap[R]? = some (.cells cs T (0, 0)) ∧ cs.size = k ∧ NoInt cs
theorem zrn_start {W : World} {R : Nat} {T : TypeId} {cs : Array Value} (h : W.heap[R]? = some (.cells cs T (0, 0))) (hn : NoInt cs) : ZrN W W R T cs.size := ⟨⟨rfl, rfl, rfl, Nat.le_refl _, fun _ _ _ => rfl⟩, cs, h, rfl, hn⟩
theorem ZrN.zr {W w1 : World} {R k : Nat} {T : TypeId} (h : ZrN W w1 R T k) : Zr W w1 R T k := by
  obtain ⟨h1, cs, h2, h3, _⟩ := h
  exact ⟨h1, cs, h2, h3⟩
theorem ZrN.drew {W w1 : World} {R k : Nat} {T : TypeId} (h : ZrN W w1 R T k) : ZrN W w1.drew R T k := ⟨grown_trans' h.1 ⟨rfl, rfl, rfl, Nat.le_refl _, fun _ _ _ => rfl⟩, h.2⟩
theorem ZrN.call {W w1 w2 : World} {R k : Nat} {T : TypeId} (hb : Below w1.heap.size w1 w2) (h : ZrN W w1 R T k) : ZrN W w2 R T k := by
  obtain ⟨h1, cs, h2, h3⟩ := h
  exact ⟨grown_trans' h1 (grown_of_below hb _), cs, (hb.block _ (Array.getElem?_eq_some_iff.1 h2).1).trans h2, h3⟩
theorem noint_set {cs : Array Value} {j : Nat} {y : Value} (h : NoInt cs) (hy : ∀ k n, y ≠ .int k n) : NoInt (cs.setIfInBounds j y) := by
  intro i k n e
  rw [Array.getElem?_setIfInBounds] at e
  split at e
  · split at e
    · exact hy k n (Option.some.inj e)
    · cases e
  · exact h i k n e
theorem ZrN.set {W w1 : World} {R k j : Nat} {T : TypeId} {y : Value} (h : ZrN W w1 R T k) (hy : ∀ k n, y ≠ .int k n) : ZrN W (w1.setCell ⟨R, j, none⟩ y) R T k := by
  obtain ⟨h1, cs, h2, h3, h4⟩ := h
  exact ⟨grown_trans' h1 ⟨rfl, rfl, rfl, by simp, fun i _ hk => heap_setCell_other w1 ⟨R, j, none⟩ i _ (fun e => hk (by simp [e]))⟩, _, heap_setCell_same w1 R j _ _ y h2, by simp [h3], noint_set h4 hy⟩
theorem ZrN.setB {W w1 : World} {R k j : Nat} {T : TypeId} {x : Bool} (h : ZrN W w1 R T k) : ZrN W (w1.setCell ⟨R, j, none⟩ (.bool x)) R T k := h.set (fun _ _ e => by cases e)
theorem ZrN.setS {W w1 : World} {R k j n c : Nat} {T : TypeId} {ao : Option Addr} (h : ZrN W w1 R T k) : ZrN W (w1.setCell ⟨R, j, none⟩ (.slice ao n c)) R T k := h.set (fun _ _ e => by cases e)
theorem ZrN.cell {W w1 : World} {R k b o : Nat} {T : TypeId} {v : Value} (h : ZrN W w1 R T k) (hc : W.cell? ⟨b, o, none⟩ = some v) (hne : b ≠ R) : w1.cell? ⟨b, o, none⟩ = some v := h.zr.cell hc hne
theorem ZrN.notIn {W w1 : World} {R k : Nat} {T : TypeId} {v : Value} {z : Int} (h : ZrN W w1 R T k) (hv : IntR w1 v z) : NotIn v R := by
  obtain ⟨_, cs, h2, _, h4⟩ := h
  exact hv.notIn h2 h4
theorem ZrN.twelve {W w1 : World} {R : Nat} {T : TypeId} (h : ZrN W w1 R T 12) : ∃ x0 x1 x2 x3 x4 x5 x6 x7 x8 x9 x10 x11, w1.heap[R]? = some (.cells #[x0, x1, x2, x3, x4, x5, x6, x7, x8, x9, x10, x11] T (0, 0)) := by
  obtain ⟨_, cs, h2, h3, _⟩ := h
  obtain ⟨l⟩ := cs
  match l, h3 with
  | [x0, x1, x2, x3, x4, x5, x6, x7, x8, x9, x10, x11], _ => exact ⟨x0, x1, x2, x3, x4, x5, x6, x7, x8, x9, x10, x11, h2⟩
theorem Sl.zr {W w1 : World} {kd : IntKind} {v : Value} {xs : List Nat} {R k : Nat} {T : TypeId} (h : Sl W kd v xs) (hz : Zr W w1 R T k) (hne : ∀ b off cap, v = .slice (some ⟨b, off, none⟩) xs.length cap → 0 < xs.length → b ≠ R) : Sl w1 kd v xs := by
  obtain ⟨ao, cap, rfl, h1, h2, h3, h4, h5⟩ := h
  have hsz : W.heap.size ≤ w1.heap.size := by obtain ⟨⟨_, _, _, h, _⟩, _⟩ := hz; exact h
  refine ⟨ao, cap, rfl, h1, h2, h3, h4, fun hp => ?_⟩
  obtain ⟨b, off, rfl, hb, hc⟩ := h5 hp
  exact ⟨b, off, rfl, by omega, fun j hj => hz.cell (hc j hj) (hne b off cap rfl hp)⟩
theorem IntR.zr {W w1 : World} {v : Value} {z : Int} {R k : Nat} {T : TypeId} (h : IntR W v z) (hz : Zr W w1 R T k) (hn : NotIn v R) : IntR w1 v z := by
  obtain ⟨⟨u, rfl, ys, h1, h2⟩, n', u', xs, e, h3, h4⟩ := h
  simp only [Value.agg.injEq, Array.mk.injEq, List.cons.injEq, Value.bool.injEq, and_true] at e
  obtain ⟨rfl, rfl⟩ := e
  exact ⟨⟨u, rfl, ys, h1.zr hz (fun b off cap e hp => hn _ _ _ _ _ (by rw [e]) hp), h2⟩, _, u, xs, rfl, h3.zr hz (fun b off cap e hp => hn _ _ _ _ _ (by rw [e]) hp), h4⟩
theorem IntR.zrn {W w1 : World} {v : Value} {z : Int} {R k : Nat} {T : TypeId} {cs : Array Value} (h : IntR W v z) (hR : W.heap[R]? = some (.cells cs T (0, 0))) (hn : NoInt cs) (hz : ZrN W w1 R T k) : IntR w1 v z := h.zr hz.zr (h.notIn hR hn)
theorem Sl.ne3 {w : World} {k : IntKind} {v : Value} {xs : List Nat} {R b off : Nat} {T : TypeId} {x : Bool} {ao ao' : Option Addr} {n c n' c' : Nat} {cap : Nat} (h : Sl w k v xs) (hR : w.heap[R]? = some (.cells #[.bool x, .slice ao n c, .slice ao' n' c'] T (0, 0))) (e : v = .slice (some ⟨b, off, none⟩) xs.length cap) (hp : 0 < xs.length) : b ≠ R := by
  rintro rfl
  obtain ⟨ao', cap', e', _, _, _, _, h5⟩ := h
  obtain ⟨b', off', e2, _, hc⟩ := h5 hp
  rw [e] at e'
  simp only [Value.slice.injEq] at e'
  obtain ⟨rfl, _, _⟩ := e'
  simp only [Option.some.injEq, Addr.mk.injEq] at e2
  obtain ⟨rfl, rfl, _⟩ := e2
  have := hc 0 hp
  rw [cell_of_row w b _ _ _ (0, 0) hR] at this
  have h2 : off + 0 < 3 := (Array.getElem?_eq_some_iff.1 this).1
  have : off = 0 ∨ off = 1 ∨ off = 2 := by omega
  rcases this with rfl | rfl | rfl <;> simp at this
theorem Sl.neN {w : World} {k : IntKind} {v : Value} {xs : List Nat} {R b off : Nat} {T : TypeId} {cs : Array Value} {cap : Nat} (h : Sl w k v xs) (hR : w.heap[R]? = some (.cells cs T (0, 0))) (hn : NoInt cs) (e : v = .slice (some ⟨b, off, none⟩) xs.length cap) (hp : 0 < xs.length) : b ≠ R := by
  rintro rfl
  obtain ⟨ao', cap', e', _, _, _, _, h5⟩ := h
  obtain ⟨b', off', e2, _, hc⟩ := h5 hp
  rw [e] at e'
  simp only [Value.slice.injEq] at e'
  obtain ⟨rfl, _, _⟩ := e'
  simp only [Option.some.injEq, Addr.mk.injEq] at e2
  obtain ⟨rfl, rfl, _⟩ := e2
  have := hc 0 hp
  rw [cell_of_row w b _ _ _ (0, 0) hR] at this
  exact hn _ _ _ this
end Go.Proofs.YthgmebnihpjnoaaGreatDoor

/- Package ratio: plus, by. -/
namespace Go.Proofs.YthgmebnihpjnoaaGreatDoor
open Go.RowKit Mth

theorem ri_allocz {w : World} {v : Value} {z : Int} {o : Obj} (h : IntR w v z) : IntR (w.alloc o) v z := h.below ((Below.refl _ _).alloc (Nat.le_refl _) _)
theorem ri_callz {w w' : World} {v : Value} {z : Int} (hb : Below w.heap.size w w') (h : IntR w v z) : IntR w' v z := h.below hb
theorem ri_drewz {w : World} {v : Value} {z : Int} (h : IntR w v z) : IntR w.drew v z := h
theorem ri_set2z {w : World} {v y0 y1 : Value} {z : Int} {R : Nat} (h : IntR w v z) (hR : w.heap[R]? = some (.cells #[.bool false, .slice none 0 0] 82 (0, 0))) : IntR ((w.setCell ⟨R, 0, none⟩ y0).setCell ⟨R, 1, none⟩ y1) v z := h.far hR
theorem IntR.num {w : World} {n : Bool} {ao : Option Addr} {k c : Nat} {z : Int} (h : IntR w (.agg #[.bool n, .slice ao k c]) z) : n = sgn z ∧ Num w (.slice ao k c) z.natAbs := by
  obtain ⟨u, e, hn⟩ := h.1
  simp only [Value.agg.injEq, Array.mk.injEq, List.cons.injEq, Value.bool.injEq, and_true] at e
  obtain ⟨rfl, rfl⟩ := e
  exact ⟨rfl, hn⟩
/-- a fraction's two numbers, as whole numbers -/
theorem FrV.two {w : World} {b : Bool} {a : Option Addr} {k c : Nat} {a' : Option Addr} {k' c' : Nat} {x : Int} {d : Nat} (h : FrV w (.agg #[.bool b, .slice a k c, .slice a' k' c']) x d) (hx : x.natAbs < Big) (hd : d < Big) :
    b = sgn x ∧ IntR w (.agg #[.bool (sgn x), .slice a k c]) x ∧ IntR w (.agg #[.bool false, .slice a' k' c']) (d : Int) := by
  obtain ⟨a1, k1, c1, a2, k2, c2, e, h1, h2⟩ := h
  simp only [Value.agg.injEq, Array.mk.injEq, List.cons.injEq, Value.bool.injEq, Value.slice.injEq, and_true] at e
  obtain ⟨rfl, ⟨rfl, rfl, rfl⟩, rfl, rfl, rfl⟩ := e
  have e1 : IntK w (.agg #[.bool (sgn x), .slice a k c]) x := ⟨_, rfl, h1⟩
  have e2 : IntK w (.agg #[.bool false, .slice a' k' c']) (d : Int) := ⟨_, by rw [sgn_nat], by rw [Int.natAbs_natCast]; exact h2⟩
  exact ⟨rfl, e1.r hx, e2.r (by rw [Int.natAbs_natCast]; exact hd)⟩
theorem zrn_three {W w1 : World} {R : Nat} {T : TypeId} (h : ZrN W w1 R T 3) : ∃ x0 x1 x2, w1.heap[R]? = some (.cells #[x0, x1, x2] T (0, 0)) := by
  obtain ⟨_, cs, h2, h3, _⟩ := h
  obtain ⟨l⟩ := cs
  match l, h3 with
  | [x0, x1, x2], _ => exact ⟨x0, x1, x2, h2⟩
/-- a new box of a number -/
def UnO (W wx : World) (z : Int) (s : Value) : Prop := ∃ (g : Nat) (n : Bool) (a : Option Addr) (k c : Nat), s = .pointer (some ⟨g, 0, none⟩) ∧ W.heap.size ≤ g ∧ wx.heap[g]? = some (.cells #[.bool n, .slice a k c] 82 (0, 0)) ∧ IntR wx (.agg #[.bool n, .slice a k c]) z ∧ Below W.heap.size W wx

theorem field_num1 (b : Bool) (ao : Option Addr) (k c : Nat) (w : World) : (Instr.field 82 (.agg #[.bool b, .slice ao k c]) 1).run Tryz.prog w = .ok (.slice ao k c) w := by kernel_rfl
set_option maxHeartbeats 16000000 in
set_option maxRecDepth 100000 in
theorem fplus_any (va vb : Value) (x1 x2 : Int) (d1 d2 : Nat) (w : World) (ha : FrV w va x1 d1) (hb : FrV w vb x2 d2) (b1 : x1.natAbs < Big) (b2 : x2.natAbs < Big) (e1 : d1 < Big) (e2 : d2 < Big) (g1 : (x1 * d2).natAbs < Big) (g2 : (x2 * d1).natAbs < Big) (g3 : (x1 * d2 + x2 * d1).natAbs < Big) (g4 : d1 * d2 < Big) :
    Calls Tryz.prog 83 #[va, vb] w fun e w' => ∃ v', e = .returned v' ∧ FrV w' v' (x1 * d2 + x2 * d1) (d1 * d2) ∧ Below w.heap.size w w' := by
  obtain ⟨a1, k1, c1, s1, t1, u1, rfl, p1, p2⟩ := ha
  obtain ⟨a2, k2, c2, s2, t2, u2, rfl, q1, q2⟩ := hb
  have F1 := (FrV.two ⟨_, _, _, _, _, _, rfl, p1, p2⟩ b1 e1).2
  have F2 := (FrV.two ⟨_, _, _, _, _, _, rfl, q1, q2⟩ b2 e2).2
  have T1 : Hid (∀ w1, Below w.heap.size w w1 → Calls Tryz.prog 51 #[.agg #[.bool (sgn x1), .slice a1 k1 c1], .agg #[.bool false, .slice s2 t2 u2]] w1 fun e w' => Res0 w1 w' e (x1 * d2)) := Lib.hid (fun w1 h => ntimes_is _ _ x1 (d2 : Int) w1 (F1.1.below h).2 (F2.2.below h).2 g1)
  have T2 : Hid (∀ w1, Below w.heap.size w w1 → Calls Tryz.prog 51 #[.agg #[.bool (sgn x2), .slice a2 k2 c2], .agg #[.bool false, .slice s1 t1 u1]] w1 fun e w' => Res0 w1 w' e (x2 * d1)) := Lib.hid (fun w1 h => ntimes_is _ _ x2 (d1 : Int) w1 (F2.1.below h).2 (F1.2.below h).2 g2)
  have T3 : Hid (∀ w1, IntR w1 (.agg #[.bool false, .slice s1 t1 u1]) (d1 : Int) → IntR w1 (.agg #[.bool false, .slice s2 t2 u2]) (d2 : Int) → Calls Tryz.prog 51 #[.agg #[.bool false, .slice s1 t1 u1], .agg #[.bool false, .slice s2 t2 u2]] w1 fun e w' => Res0 w1 w' e ((d1 * d2 : Nat) : Int)) := Lib.hid (fun w1 h1 h2 => by
    have := ntimes_is _ _ (d1 : Int) (d2 : Int) w1 h1.2 h2.2 (by rw [← Int.natCast_mul, Int.natAbs_natCast]; exact g4)
    rw [← Int.natCast_mul] at this; exact this)
  have AD : Hid (∀ va vb w1, IntR w1 va (x1 * d2) → IntR w1 vb (x2 * d1) → Calls Tryz.prog 120 #[va, vb] w1 fun e w' => Res0 w1 w' e (x1 * d2 + x2 * d1)) := Lib.hid (fun va vb w1 h1 h2 => nadd_is va vb _ _ w1 h1.2 h2.2 g3)
  have D1 := Lib.hid F1.2; have D2 := Lib.hid F2.2
  have hfn := field_num1
  clear p1 p2 q1 q2 F1 F2 b1 b2 e1 e2 g1 g2 g3 g4
  go_enter Tryz.func83, Tryz.ntmps83
  go_wp2_with fail
  obtain ⟨W, eW, h1, h2, h3, bel, hsz⟩ := alloc3 w (Obj.cells #[Value.bool (sgn x1), Value.slice a1 k1 c1, Value.slice s1 t1 u1] 84) (Obj.cells #[Value.bool (sgn x2), Value.slice a2 k2 c2, Value.slice s2 t2 u2] 84) (Obj.cells #[Value.bool false, Value.slice none 0 0, Value.slice none 0 0] 84)
  rw [eW]
  obtain ⟨⟨p0, p1, p2⟩, _, lp⟩ := blk3 h1
  obtain ⟨⟨q0, q1, q2⟩, _, lq⟩ := blk3 h2
  have HA := Lib.hid h1; have HB := Lib.hid h2; have HR : Hid (W.heap[w.heap.size + 1 + 1]? = _) := Lib.hid h3; have BW := Lib.hid bel
  have hszW : w.heap.size + 1 + 1 < W.heap.size := hsz
  have STAY : Hid (∀ w', Below W.heap.size W w' → w'.cell? ⟨w.heap.size, 0, none⟩ = some (.bool (sgn x1)) ∧ w'.cell? ⟨w.heap.size, 1, none⟩ = some (.slice a1 k1 c1) ∧ w'.cell? ⟨w.heap.size, 2, none⟩ = some (.slice s1 t1 u1) ∧ w'.cell? ⟨w.heap.size + 1, 0, none⟩ = some (.bool (sgn x2)) ∧ w'.cell? ⟨w.heap.size + 1, 1, none⟩ = some (.slice a2 k2 c2) ∧ w'.cell? ⟨w.heap.size + 1, 2, none⟩ = some (.slice s2 t2 u2) ∧ Below W.heap.size W w' ∧ W.heap.size ≤ w'.heap.size) :=
    Lib.hid (fun w' h => ⟨cell_to h p0 lp, cell_to h p1 lp, cell_to h p2 lp, cell_to h q0 lq, cell_to h q1 lq, cell_to h q2 lq, h, h.size⟩)
  have hB0 := (Below.refl W.heap.size W).drew
  have T1' : Hid (∀ w1, Below W.heap.size W w1 → _) := Lib.hid (fun w1 h => T1.out w1 (below_of BW.out h))
  have T2' : Hid (∀ w1, Below W.heap.size W w1 → _) := Lib.hid (fun w1 h => T2.out w1 (below_of BW.out h))
  clear eW h1 h2 h3 bel p0 p1 p2 q0 q1 q2 T1 T2
  go_cut [5] (fun s wx => UnO W wx (x1 * d2 + x2 * d1) s)
  case first =>
    go_region_held3 (fun w' => w'.cell? ⟨w.heap.size, 0, none⟩ = some (.bool (sgn x1)) ∧ w'.cell? ⟨w.heap.size, 1, none⟩ = some (.slice a1 k1 c1) ∧ w'.cell? ⟨w.heap.size, 2, none⟩ = some (.slice s1 t1 u1) ∧ w'.cell? ⟨w.heap.size + 1, 0, none⟩ = some (.bool (sgn x2)) ∧ w'.cell? ⟨w.heap.size + 1, 1, none⟩ = some (.slice a2 k2 c2) ∧ w'.cell? ⟨w.heap.size + 1, 2, none⟩ = some (.slice s2 t2 u2) ∧ Below W.heap.size W w' ∧ W.heap.size ≤ w'.heap.size)
      (((try go_split_ands); refine STAY.out _ ?_; repeat (first | (with_reducible assumption) | (with_reducible exact Below.refl _ _) | (with_reducible refine Below.drew ?_) | (with_reducible exact below_to (by with_reducible assumption) (by with_reducible assumption)) | ((with_reducible refine Below.alloc ?_ ?_ _); rotate_left; (focus (first | omega | (simp; done) | (simp; omega)))) | ((with_reducible refine Below.setCell ?_ ?_ _); rotate_left; (focus (first | omega | (simp; done) | (simp; omega)))))))
      (first
      | (go_at_call 52; go_split_ands; first
        | ((with_reducible refine Calls.mono (below_is (sgn x2) a2 k2 c2 s2 t2 u2 _) ?_); rintro e wA ⟨rfl, hbA⟩; have hkA := below_to hbA (by with_reducible assumption); have hzA := hkA.size; obtain ⟨hcA, hfA⟩ := bcell hbA; have hyA := hbA.size; (try simp only [sz_alloc, sz_set, sz_drew] at hyA); (try (have hqWA : W.heap.size < wA.heap.size := by omega)); (try (have hrWA : W.heap.size + 1 < wA.heap.size := by omega)))
        | ((with_reducible refine Calls.mono (below_is (sgn x1) a1 k1 c1 s1 t1 u1 _) ?_); rintro e wC ⟨rfl, hbC⟩; have hkC := below_to hbC (by with_reducible assumption); have hzC := hkC.size; obtain ⟨hcC, hfC⟩ := bcell hbC; have hyC := hbC.size; (try simp only [sz_alloc, sz_set, sz_drew] at hyC); (try (have hqWC : W.heap.size < wC.heap.size := by omega)); (try (have hrWC : W.heap.size + 1 < wC.heap.size := by omega)); (try (have hqwAC : wA.heap.size < wC.heap.size := by omega)); (try (have hrwAC : wA.heap.size + 1 < wC.heap.size := by omega)); (try (have hqwBC : wB.heap.size < wC.heap.size := by omega)); (try (have hrwBC : wB.heap.size + 1 < wC.heap.size := by omega))))
      | (go_at_call 51; go_split_ands; first
        | ((with_reducible refine Calls.mono (T1'.out _ (by with_reducible assumption)) ?_); rintro e wB ⟨mB, dB, lB, eB, rfl, jj1, hbB⟩; have hkB := below_to hbB (by with_reducible assumption); have hzB := hkB.size; obtain ⟨hcB, hfB⟩ := bcell hbB; have hyB := hbB.size; (try simp only [sz_alloc, sz_set, sz_drew] at hyB); (try (have hqWB : W.heap.size < wB.heap.size := by omega)); (try (have hrWB : W.heap.size + 1 < wB.heap.size := by omega)); (try (have hqwAB : wA.heap.size < wB.heap.size := by omega)); (try (have hrwAB : wA.heap.size + 1 < wB.heap.size := by omega)))
        | ((with_reducible refine Calls.mono (T2'.out _ (by with_reducible assumption)) ?_); rintro e wD ⟨mD, dD, lD, eD, rfl, jj2, hbD⟩; have hkD := below_to hbD (by with_reducible assumption); have hzD := hkD.size; obtain ⟨hcD, hfD⟩ := bcell hbD; have hyD := hbD.size; (try simp only [sz_alloc, sz_set, sz_drew] at hyD); (try (have hqWD : W.heap.size < wD.heap.size := by omega)); (try (have hrWD : W.heap.size + 1 < wD.heap.size := by omega)); (try (have hqwAD : wA.heap.size < wD.heap.size := by omega)); (try (have hrwAD : wA.heap.size + 1 < wD.heap.size := by omega)); (try (have hqwBD : wB.heap.size < wD.heap.size := by omega)); (try (have hrwBD : wB.heap.size + 1 < wD.heap.size := by omega)); (try (have hqwCD : wC.heap.size < wD.heap.size := by omega)); (try (have hrwCD : wC.heap.size + 1 < wD.heap.size := by omega))))
      | (go_at_call 120; go_split_ands; (with_reducible refine Calls.mono (AD.out _ _ _ ?_ ?_) ?_); ((repeat (first | (with_reducible assumption) | (with_reducible refine ri_allocz ?_) | (with_reducible refine ri_drewz ?_) | (with_reducible refine ri_callz hbD ?_) | (with_reducible refine ri_callz hbC ?_) | (with_reducible refine ri_callz hbB ?_)))); rintro e wE ⟨mE, dE, lE, eE, rfl, jj3, hbE⟩; have hkE := below_to hbE (by with_reducible assumption); have hzE := hkE.size; obtain ⟨hcE, hfE⟩ := bcell hbE; have hyE := hbE.size; (try simp only [sz_alloc, sz_set, sz_drew] at hyE); (try (have hqWE : W.heap.size < wE.heap.size := by omega)); (try (have hrWE : W.heap.size + 1 < wE.heap.size := by omega)); (try (have hqwAE : wA.heap.size < wE.heap.size := by omega)); (try (have hrwAE : wA.heap.size + 1 < wE.heap.size := by omega)); (try (have hqwBE : wB.heap.size < wE.heap.size := by omega)); (try (have hrwBE : wB.heap.size + 1 < wE.heap.size := by omega)); (try (have hqwCE : wC.heap.size < wE.heap.size := by omega)); (try (have hrwCE : wC.heap.size + 1 < wE.heap.size := by omega)); (try (have hqwDE : wD.heap.size < wE.heap.size := by omega)); (try (have hrwDE : wD.heap.size + 1 < wE.heap.size := by omega))))
    all_goals
      (go_wp2_with fail
       go_meet
       clear hcA hfA hcB hfB hcC hfC hcD hfD hcE hfE
       refine ⟨_, mE, dE, lE, eE, rfl, ?_, ?_, ?_, ?_⟩)
    all_goals
      repeat (first | (with_reducible assumption) | ((with_reducible refine blk_newz ?_); (first | omega | (simp only [sz_alloc, sz_set, sz_drew]; omega) | (focus (simp only [sz_alloc, sz_set, sz_drew]; done)))) | ((with_reducible refine blk_ltz ?_ ?_); (first | omega | (simp only [sz_alloc, sz_set, sz_drew]; omega) | (focus (simp only [sz_alloc, sz_set, sz_drew]; done)))) | (with_reducible refine blk_own2z ?_) | ((with_reducible refine blk_twoz ?_ ?_); (first | omega | (simp only [sz_alloc, sz_set, sz_drew]; omega) | (focus (simp only [sz_alloc, sz_set, sz_drew]; done)))) | (with_reducible refine blk_drew ?_) | ((with_reducible refine blk_below hbE ?_ ?_); (first | omega | (simp only [sz_alloc, sz_set, sz_drew]; omega) | (focus (simp only [sz_alloc, sz_set, sz_drew]; done)))) | ((with_reducible refine blk_below hbD ?_ ?_); (first | omega | (simp only [sz_alloc, sz_set, sz_drew]; omega) | (focus (simp only [sz_alloc, sz_set, sz_drew]; done)))) | ((with_reducible refine blk_below hbC ?_ ?_); (first | omega | (simp only [sz_alloc, sz_set, sz_drew]; omega) | (focus (simp only [sz_alloc, sz_set, sz_drew]; done)))) | ((with_reducible refine blk_below hbB ?_ ?_); (first | omega | (simp only [sz_alloc, sz_set, sz_drew]; omega) | (focus (simp only [sz_alloc, sz_set, sz_drew]; done)))) | ((with_reducible refine blk_below hbA ?_ ?_); (first | omega | (simp only [sz_alloc, sz_set, sz_drew]; omega) | (focus (simp only [sz_alloc, sz_set, sz_drew]; done)))) | (with_reducible refine ri_allocz ?_) | (with_reducible refine ri_set2z ?_ ?_) | (with_reducible refine ri_callz hbE ?_) | (with_reducible refine ri_callz hbD ?_) | (with_reducible refine ri_callz hbC ?_) | (with_reducible refine ri_callz hbB ?_) | (with_reducible refine ri_callz hbA ?_) | (with_reducible exact Below.refl _ _) | (with_reducible refine Below.drew ?_) | ((with_reducible refine Below.alloc ?_ ?_ _); rotate_left; (focus (first | omega | (simp; done) | (simp; omega)))) | ((with_reducible refine Below.setCell ?_ ?_ _); rotate_left; (focus (first | omega | (simp; done) | (simp; omega)))) | (first | omega | (simp only [sz_alloc, sz_set, sz_drew]; omega) | (focus (simp only [sz_alloc, sz_set, sz_drew]; done))))
  case rest =>
    obtain ⟨g, n3, a3, k3, c3, rfl, hg, hG, hi, hbc⟩ := hcut
    generalize wc = V at *
    have HG := Lib.hid hG; have HI := Lib.hid hi
    have HAv := Lib.hid (blk_below' hbc HA.out); have HBv := Lib.hid (blk_below' hbc HB.out); have HRv := Lib.hid (blk_below' hbc HR.out); have BV := Lib.hid (below_of BW.out hbc)
    have lRg : w.heap.size + 1 + 1 < g := by omega
    obtain ⟨y0, y1, _, _, _⟩ := blk2 hG
    obtain ⟨⟨p0, p1, p2⟩, _, _⟩ := blk3 HAv.out
    obtain ⟨⟨q0, q1, q2⟩, _, _⟩ := blk3 HBv.out
    have NI0 : NoInt #[.bool false, .slice none 0 0, .slice none 0 0] := by
      intro i k n
      rcases i with _ | _ | _ | i <;> simp
    have HNI := Lib.hid NI0
    have STAY : Hid (∀ w', ZrN V w' (w.heap.size + 1 + 1) 84 3 → w'.cell? ⟨g, 0, none⟩ = some (.bool n3) ∧ w'.cell? ⟨g, 1, none⟩ = some (.slice a3 k3 c3) ∧ w'.cell? ⟨w.heap.size, 0, none⟩ = some (.bool (sgn x1)) ∧ w'.cell? ⟨w.heap.size, 1, none⟩ = some (.slice a1 k1 c1) ∧ w'.cell? ⟨w.heap.size, 2, none⟩ = some (.slice s1 t1 u1) ∧ w'.cell? ⟨w.heap.size + 1, 0, none⟩ = some (.bool (sgn x2)) ∧ w'.cell? ⟨w.heap.size + 1, 1, none⟩ = some (.slice a2 k2 c2) ∧ w'.cell? ⟨w.heap.size + 1, 2, none⟩ = some (.slice s2 t2 u2) ∧ ZrN V w' (w.heap.size + 1 + 1) 84 3) :=
      Lib.hid (fun w' h => ⟨h.cell y0 (by omega), h.cell y1 (by omega), h.cell p0 (by omega), h.cell p1 (by omega), h.cell p2 (by omega), h.cell q0 (by omega), h.cell q1 (by omega), h.cell q2 (by omega), h⟩)
    have T3' : Hid (∀ w1, ZrN V w1 (w.heap.size + 1 + 1) 84 3 → Calls Tryz.prog 51 #[.agg #[.bool false, .slice s1 t1 u1], .agg #[.bool false, .slice s2 t2 u2]] w1 fun e w' => Res0 w1 w' e ((d1 * d2 : Nat) : Int)) := Lib.hid (fun w1 h => T3.out w1 ((D1.out.below BV.out).zrn HRv.out HNI.out h) ((D2.out.below BV.out).zrn HRv.out HNI.out h))
    have hZ0 : ZrN V V.drew (w.heap.size + 1 + 1) 84 3 := (zrn_start HRv.out HNI.out).drew
    clear hG hi hbc HA HB HR y0 y1 p0 p1 p2 q0 q1 q2 NI0 T1' T2' AD hB0 hg lp lq
    go_wp2_with fail
    go_region_held3 (fun w' => w'.cell? ⟨g, 0, none⟩ = some (.bool n3) ∧ w'.cell? ⟨g, 1, none⟩ = some (.slice a3 k3 c3) ∧ w'.cell? ⟨w.heap.size, 0, none⟩ = some (.bool (sgn x1)) ∧ w'.cell? ⟨w.heap.size, 1, none⟩ = some (.slice a1 k1 c1) ∧ w'.cell? ⟨w.heap.size, 2, none⟩ = some (.slice s1 t1 u1) ∧ w'.cell? ⟨w.heap.size + 1, 0, none⟩ = some (.bool (sgn x2)) ∧ w'.cell? ⟨w.heap.size + 1, 1, none⟩ = some (.slice a2 k2 c2) ∧ w'.cell? ⟨w.heap.size + 1, 2, none⟩ = some (.slice s2 t2 u2) ∧ ZrN V w' (w.heap.size + 1 + 1) 84 3)
      (((try go_split_ands); refine STAY.out _ ?_; repeat (first | (with_reducible assumption) | (with_reducible refine ZrN.drew ?_) | (with_reducible refine ZrN.setS ?_) | (with_reducible refine ZrN.setB ?_))))
      (first
      | (go_at_call 52; go_split_ands; first
        | ((with_reducible refine Calls.mono (below_is (sgn x1) a1 k1 c1 s1 t1 u1 _) ?_); rintro e wA ⟨rfl, hbA⟩; have hkA := ZrN.call hbA (by with_reducible assumption))
        | ((with_reducible refine Calls.mono (below_is (sgn x2) a2 k2 c2 s2 t2 u2 _) ?_); rintro e wB ⟨rfl, hbB⟩; have hkB := ZrN.call hbB (by with_reducible assumption)))
      | (go_at_call 51; go_split_ands; (with_reducible refine Calls.mono (T3'.out _ (by with_reducible assumption)) ?_); rintro e wC ⟨mC, dC, lC, eC, rfl, jj3, hbC⟩; have hkC := ZrN.call hbC (by with_reducible assumption); obtain ⟨x0', x1', x2', hRc⟩ := zrn_three hkC; obtain ⟨⟨r0, r1, r2⟩, ⟨f0, f1, f2⟩, lR3⟩ := blk3 hRc))
    have hle : w.heap.size ≤ w.heap.size + 1 + 1 := by omega
    have ZF : Hid (ZrN V (((wC.setCell ⟨w.heap.size + 1 + 1, 0, none⟩ (.bool n3)).setCell ⟨w.heap.size + 1 + 1, 1, none⟩ (.slice a3 k3 c3)).setCell ⟨w.heap.size + 1 + 1, 2, none⟩ (.slice dC lC eC)) (w.heap.size + 1 + 1) 84 3) := Lib.hid (((hkC.setB).setS).setS)
    have NC := Lib.hid (hkC.notIn jj3)
    have J3 := Lib.hid (((jj3.setNe NC.out (j := 0) (y := .bool n3)).setNe NC.out (j := 1) (y := .slice a3 k3 c3)).setNe NC.out (j := 2) (y := .slice dC lC eC))
    have JS := Lib.hid (HI.out.zrn HRv.out HNI.out ZF.out)
    go_wp2
    refine bodyPost_ret (v := .agg #[.bool n3, .slice a3 k3 c3, .slice dC lC eC]) ?_ rfl ⟨_, rfl, ⟨a3, k3, c3, dC, lC, eC, by rw [JS.out.num.1], JS.out.num.2, by have := J3.out.num.2; rwa [Int.natAbs_natCast] at this⟩, ZF.out.zr.below BV.out hle⟩
    simp [results, Tryz.results83, go_sem, *]
end Go.Proofs.YthgmebnihpjnoaaGreatDoor

/- Package ratio: by. -/
namespace Go.Proofs.YthgmebnihpjnoaaGreatDoor
open Go.RowKit Mth

set_option maxHeartbeats 16000000 in
set_option maxRecDepth 100000 in
theorem fby_any (va vb : Value) (x1 x2 : Int) (d1 d2 : Nat) (w : World) (ha : FrV w va x1 d1) (hb : FrV w vb x2 d2) (b1 : x1.natAbs < Big) (b2 : x2.natAbs < Big) (e1 : d1 < Big) (e2 : d2 < Big) (g1 : (x1 * x2).natAbs < Big) (g4 : d1 * d2 < Big) :
    Calls Tryz.prog 65 #[va, vb] w fun e w' => ∃ v', e = .returned v' ∧ FrV w' v' (x1 * x2) (d1 * d2) ∧ Below w.heap.size w w' := by
  obtain ⟨a1, k1, c1, s1, t1, u1, rfl, p1, p2⟩ := ha
  obtain ⟨a2, k2, c2, s2, t2, u2, rfl, q1, q2⟩ := hb
  have F1 := (FrV.two ⟨_, _, _, _, _, _, rfl, p1, p2⟩ b1 e1).2
  have F2 := (FrV.two ⟨_, _, _, _, _, _, rfl, q1, q2⟩ b2 e2).2
  have T1 : Hid (∀ w1, IntR w1 (.agg #[.bool (sgn x1), .slice a1 k1 c1]) x1 → IntR w1 (.agg #[.bool (sgn x2), .slice a2 k2 c2]) x2 → Calls Tryz.prog 51 #[.agg #[.bool (sgn x1), .slice a1 k1 c1], .agg #[.bool (sgn x2), .slice a2 k2 c2]] w1 fun e w' => Res0 w1 w' e (x1 * x2)) := Lib.hid (fun w1 h1 h2 => ntimes_is _ _ x1 x2 w1 h1.2 h2.2 g1)
  have T3 : Hid (∀ w1, IntR w1 (.agg #[.bool false, .slice s1 t1 u1]) (d1 : Int) → IntR w1 (.agg #[.bool false, .slice s2 t2 u2]) (d2 : Int) → Calls Tryz.prog 51 #[.agg #[.bool false, .slice s1 t1 u1], .agg #[.bool false, .slice s2 t2 u2]] w1 fun e w' => Res0 w1 w' e ((d1 * d2 : Nat) : Int)) := Lib.hid (fun w1 h1 h2 => by
    have := ntimes_is _ _ (d1 : Int) (d2 : Int) w1 h1.2 h2.2 (by rw [← Int.natCast_mul, Int.natAbs_natCast]; exact g4)
    rw [← Int.natCast_mul] at this; exact this)
  have N1 := Lib.hid F1.1; have N2 := Lib.hid F2.1
  have D1 := Lib.hid F1.2; have D2 := Lib.hid F2.2
  have hfn := field_num1
  clear p1 p2 q1 q2 F1 F2 b1 b2 e1 e2 g1 g4
  go_enter Tryz.func65, Tryz.ntmps65
  go_wp2_with fail
  obtain ⟨W, eW, h1, h2, h3, bel, hsz⟩ := alloc3 w (Obj.cells #[Value.bool (sgn x1), Value.slice a1 k1 c1, Value.slice s1 t1 u1] 84) (Obj.cells #[Value.bool (sgn x2), Value.slice a2 k2 c2, Value.slice s2 t2 u2] 84) (Obj.cells #[Value.bool false, Value.slice none 0 0, Value.slice none 0 0] 84)
  rw [eW]
  obtain ⟨⟨p0, p1, p2⟩, _, lp⟩ := blk3 h1
  obtain ⟨⟨q0, q1, q2⟩, _, lq⟩ := blk3 h2
  have HR : Hid (W.heap[w.heap.size + 1 + 1]? = _) := Lib.hid h3; have BW := Lib.hid bel
  have NI0 : NoInt #[.bool false, .slice none 0 0, .slice none 0 0] := by
    intro i k n
    rcases i with _ | _ | _ | i <;> simp
  have HNI := Lib.hid NI0
  have STAY : Hid (∀ w', ZrN W w' (w.heap.size + 1 + 1) 84 3 → w'.cell? ⟨w.heap.size, 0, none⟩ = some (.bool (sgn x1)) ∧ w'.cell? ⟨w.heap.size, 1, none⟩ = some (.slice a1 k1 c1) ∧ w'.cell? ⟨w.heap.size, 2, none⟩ = some (.slice s1 t1 u1) ∧ w'.cell? ⟨w.heap.size + 1, 0, none⟩ = some (.bool (sgn x2)) ∧ w'.cell? ⟨w.heap.size + 1, 1, none⟩ = some (.slice a2 k2 c2) ∧ w'.cell? ⟨w.heap.size + 1, 2, none⟩ = some (.slice s2 t2 u2) ∧ ZrN W w' (w.heap.size + 1 + 1) 84 3) :=
    Lib.hid (fun w' h => ⟨h.cell p0 (by omega), h.cell p1 (by omega), h.cell p2 (by omega), h.cell q0 (by omega), h.cell q1 (by omega), h.cell q2 (by omega), h⟩)
  have T1' : Hid (∀ w1, ZrN W w1 (w.heap.size + 1 + 1) 84 3 → Calls Tryz.prog 51 #[.agg #[.bool (sgn x1), .slice a1 k1 c1], .agg #[.bool (sgn x2), .slice a2 k2 c2]] w1 fun e w' => Res0 w1 w' e (x1 * x2)) := Lib.hid (fun w1 h => T1.out w1 ((N1.out.below BW.out).zrn HR.out HNI.out h) ((N2.out.below BW.out).zrn HR.out HNI.out h))
  have T3' : Hid (∀ w1, ZrN W w1 (w.heap.size + 1 + 1) 84 3 → Calls Tryz.prog 51 #[.agg #[.bool false, .slice s1 t1 u1], .agg #[.bool false, .slice s2 t2 u2]] w1 fun e w' => Res0 w1 w' e ((d1 * d2 : Nat) : Int)) := Lib.hid (fun w1 h => T3.out w1 ((D1.out.below BW.out).zrn HR.out HNI.out h) ((D2.out.below BW.out).zrn HR.out HNI.out h))
  have hZ0 : ZrN W W.drew (w.heap.size + 1 + 1) 84 3 := (zrn_start HR.out HNI.out).drew
  have hle : w.heap.size ≤ w.heap.size + 1 + 1 := by omega
  clear eW h1 h2 h3 bel p0 p1 p2 q0 q1 q2 NI0 T1 T3 lp lq
  go_region_held3 (fun w' => w'.cell? ⟨w.heap.size, 0, none⟩ = some (.bool (sgn x1)) ∧ w'.cell? ⟨w.heap.size, 1, none⟩ = some (.slice a1 k1 c1) ∧ w'.cell? ⟨w.heap.size, 2, none⟩ = some (.slice s1 t1 u1) ∧ w'.cell? ⟨w.heap.size + 1, 0, none⟩ = some (.bool (sgn x2)) ∧ w'.cell? ⟨w.heap.size + 1, 1, none⟩ = some (.slice a2 k2 c2) ∧ w'.cell? ⟨w.heap.size + 1, 2, none⟩ = some (.slice s2 t2 u2) ∧ ZrN W w' (w.heap.size + 1 + 1) 84 3)
    (((try go_split_ands); refine STAY.out _ ?_; repeat (first | (with_reducible assumption) | (with_reducible refine ZrN.drew ?_) | (with_reducible refine ZrN.setS ?_) | (with_reducible refine ZrN.setB ?_))))
    (first
    | (go_at_call 52; go_split_ands; first
      | ((with_reducible refine Calls.mono (below_is (sgn x1) a1 k1 c1 s1 t1 u1 _) ?_); rintro e wA ⟨rfl, hbA⟩; have hkA := ZrN.call hbA (by with_reducible assumption))
      | ((with_reducible refine Calls.mono (below_is (sgn x2) a2 k2 c2 s2 t2 u2 _) ?_); rintro e wB ⟨rfl, hbB⟩; have hkB := ZrN.call hbB (by with_reducible assumption)))
    | (go_at_call 51; go_split_ands; first
      | ((with_reducible refine Calls.mono (T3'.out _ (by with_reducible assumption)) ?_); rintro e wC ⟨mC, dC, lC, eC, rfl, jj3, hbC⟩; have hkC := ZrN.call hbC (by with_reducible assumption); obtain ⟨x0C, x1C, x2C, hRC⟩ := zrn_three hkC; obtain ⟨⟨r0C, r1C, r2C⟩, ⟨f0C, f1C, f2C⟩, lRC⟩ := blk3 hRC)
      | ((with_reducible refine Calls.mono (T1'.out _ (by with_reducible assumption)) ?_); rintro e wD ⟨mD, dD, lD, eD, rfl, jj4, hbD⟩; have hkD := ZrN.call hbD (by with_reducible assumption); obtain ⟨x0D, x1D, x2D, hRD⟩ := zrn_three hkD; obtain ⟨⟨r0D, r1D, r2D⟩, ⟨f0D, f1D, f2D⟩, lRD⟩ := blk3 hRD)))
  all_goals
    first
    | (have i1 : IntR wC (.agg #[.bool mD, .slice dD lD eD]) (x1 * x2) := by (repeat (first | (with_reducible assumption) | (with_reducible refine ri_drewz ?_) | (with_reducible refine ri_callz hbD ?_) | (with_reducible refine ri_callz hbC ?_) | (with_reducible refine ri_callz hbB ?_) | (with_reducible refine ri_callz hbA ?_)))
       have i2 : IntR wC (.agg #[.bool mC, .slice dC lC eC]) ((d1 * d2 : Nat) : Int) := by (repeat (first | (with_reducible assumption) | (with_reducible refine ri_drewz ?_) | (with_reducible refine ri_callz hbD ?_) | (with_reducible refine ri_callz hbC ?_) | (with_reducible refine ri_callz hbB ?_) | (with_reducible refine ri_callz hbA ?_)))
       have ZF : Hid (ZrN W (((wC.setCell ⟨w.heap.size + 1 + 1, 0, none⟩ (.bool mD)).setCell ⟨w.heap.size + 1 + 1, 1, none⟩ (.slice dD lD eD)).setCell ⟨w.heap.size + 1 + 1, 2, none⟩ (.slice dC lC eC)) (w.heap.size + 1 + 1) 84 3) := Lib.hid (((hkC.setB).setS).setS)
       have N1 := Lib.hid (hkC.notIn i1)
       have N2 := Lib.hid (hkC.notIn i2)
       have J1 := Lib.hid (((i1.setNe N1.out (j := 0) (y := .bool mD)).setNe N1.out (j := 1) (y := .slice dD lD eD)).setNe N1.out (j := 2) (y := .slice dC lC eC))
       have J2 := Lib.hid (((i2.setNe N2.out (j := 0) (y := .bool mD)).setNe N2.out (j := 1) (y := .slice dD lD eD)).setNe N2.out (j := 2) (y := .slice dC lC eC))
       clear i1 i2
       go_wp2
       refine bodyPost_ret (v := .agg #[.bool mD, .slice dD lD eD, .slice dC lC eC]) ?_ rfl ⟨_, rfl, ⟨dD, lD, eD, dC, lC, eC, by rw [J1.out.num.1], J1.out.num.2, by have := J2.out.num.2; rwa [Int.natAbs_natCast] at this⟩, ZF.out.zr.below BW.out hle⟩
       simp [results, Tryz.results65, go_sem, *])
    | (have i1 : IntR wD (.agg #[.bool mD, .slice dD lD eD]) (x1 * x2) := by (repeat (first | (with_reducible assumption) | (with_reducible refine ri_drewz ?_) | (with_reducible refine ri_callz hbD ?_) | (with_reducible refine ri_callz hbC ?_) | (with_reducible refine ri_callz hbB ?_) | (with_reducible refine ri_callz hbA ?_)))
       have i2 : IntR wD (.agg #[.bool mC, .slice dC lC eC]) ((d1 * d2 : Nat) : Int) := by (repeat (first | (with_reducible assumption) | (with_reducible refine ri_drewz ?_) | (with_reducible refine ri_callz hbD ?_) | (with_reducible refine ri_callz hbC ?_) | (with_reducible refine ri_callz hbB ?_) | (with_reducible refine ri_callz hbA ?_)))
       have ZF : Hid (ZrN W (((wD.setCell ⟨w.heap.size + 1 + 1, 0, none⟩ (.bool mD)).setCell ⟨w.heap.size + 1 + 1, 1, none⟩ (.slice dD lD eD)).setCell ⟨w.heap.size + 1 + 1, 2, none⟩ (.slice dC lC eC)) (w.heap.size + 1 + 1) 84 3) := Lib.hid (((hkD.setB).setS).setS)
       have N1 := Lib.hid (hkD.notIn i1)
       have N2 := Lib.hid (hkD.notIn i2)
       have J1 := Lib.hid (((i1.setNe N1.out (j := 0) (y := .bool mD)).setNe N1.out (j := 1) (y := .slice dD lD eD)).setNe N1.out (j := 2) (y := .slice dC lC eC))
       have J2 := Lib.hid (((i2.setNe N2.out (j := 0) (y := .bool mD)).setNe N2.out (j := 1) (y := .slice dD lD eD)).setNe N2.out (j := 2) (y := .slice dC lC eC))
       clear i1 i2
       go_wp2
       refine bodyPost_ret (v := .agg #[.bool mD, .slice dD lD eD, .slice dC lC eC]) ?_ rfl ⟨_, rfl, ⟨dD, lD, eD, dC, lC, eC, by rw [J1.out.num.1], J1.out.num.2, by have := J2.out.num.2; rwa [Int.natAbs_natCast] at this⟩, ZF.out.zr.below BW.out hle⟩
       simp [results, Tryz.results65, go_sem, *])
end Go.Proofs.YthgmebnihpjnoaaGreatDoor
