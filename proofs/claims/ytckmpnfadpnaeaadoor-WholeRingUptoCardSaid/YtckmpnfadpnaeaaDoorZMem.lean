/- Numbers of the call's own; whole numbers in memory: Ints of any form, canonical ones, package whole's own numbers. -/
import Derived.Test.YtckmpnfadpnaeaaDoorQA
import Derived.Test.YtckmpnfadpnaeaaDoorMA
set_option linter.unusedVariables false
set_option linter.unusedSimpArgs false
namespace Go.Proofs.YtckmpnfadpnaeaaDoor
open Go.RowKit Mth

/-- the number n in a row of the call's own, from block base on; nothing is known of the row's spare cells -/
def Ow (w : World) (base : Nat) (v : Value) (n : Nat) : Prop :=
  (v = .slice none 0 0 ∧ n = 0) ∨ ∃ (g cap : Nat) (cur : Array Value) (xs : List Nat), v = .slice (some ⟨g, 0, none⟩) xs.length cap ∧ w.heap[g]? = some (.cells cur 65 (0, 0)) ∧ base ≤ g ∧ xs.length ≤ cap ∧ cap ≤ maxLen ∧
    xs.length ≤ cur.size ∧ cur.toList.take xs.length = cellsOf .u64 xs ∧ xs.length ≤ 16777216 ∧ Lim B64 xs ∧ Top xs ∧ val B64 xs = n
theorem ow_nil (w : World) (base : Nat) : Ow w base (.slice none 0 0) 0 := .inl ⟨rfl, rfl⟩
theorem Ow.below {w w' : World} {base n : Nat} {v : Value} (h : Ow w base v n) (hb : Below w.heap.size w w') : Ow w' base v n := by
  rcases h with h | ⟨g, cap, cur, xs, h0, h1, h2⟩
  · exact .inl h
  · exact .inr ⟨g, cap, cur, xs, h0, (hb.block g (Array.getElem?_eq_some_iff.1 h1).1).trans h1, h2⟩
theorem Ow.mono {w : World} {base base' n : Nat} {v : Value} (h : Ow w base v n) (hb : base' ≤ base) : Ow w base' v n := by
  rcases h with h | ⟨g, cap, cur, xs, h0, h1, h2, h3⟩
  · exact .inl h
  · exact .inr ⟨g, cap, cur, xs, h0, h1, by omega, h3⟩
theorem Ow.drawn {w : World} {base n : Nat} {v : Value} (h : Ow w base v n) (k : Nat) : Ow (w.drewN k) base v n := h
theorem cur_cell {w : World} {g : Nat} {e : TypeId} {k : IntKind} {cur : Array Value} {xs : List Nat} (h : w.heap[g]? = some (.cells cur e (0, 0))) (ht : cur.toList.take xs.length = cellsOf k xs) {j : Nat} (hj : j < xs.length) :
    w.cell? ⟨g, j, none⟩ = some (.int k ((xs.getD j 0 : Nat) : Int)) := by
  rw [cell_of_row w g j cur e (0, 0) h]
  have := cellsOf_get k xs j hj
  rw [← ht, List.getElem?_take, if_pos hj] at this
  simpa using this
theorem Ow.sl {w : World} {base n : Nat} {v : Value} (h : Ow w base v n) : ∃ xs, Sl w .u64 v xs ∧ Lim B64 xs ∧ Top xs ∧ val B64 xs = n := by
  rcases h with ⟨rfl, rfl⟩ | ⟨g, cap, cur, xs, rfl, h1, h2, h3, h4, h5, h6, h7, h8, h9, rfl⟩
  · exact ⟨[], sl_nil w _, lim_nil (by have := B64_pos; omega), rfl, rfl⟩
  · exact ⟨xs, ⟨_, cap, rfl, h3, h4, h7, (fun e => by cases e), fun _ => ⟨g, 0, rfl, (Array.getElem?_eq_some_iff.1 h1).1, fun j hj => by rw [Nat.zero_add]; exact cur_cell h1 h6 hj⟩⟩, h8, h9, rfl⟩
theorem Ow.num {w : World} {base n : Nat} {v : Value} (h : Ow w base v n) : Num w v n := h.sl
theorem Ow.far {w : World} {base n R j : Nat} {v x : Value} (h : Ow w base v n) (hR : R < base) : Ow (w.setCell ⟨R, j, none⟩ x) base v n := by
  rcases h with h | ⟨g, cap, cur, xs, h0, h1, h2, h3⟩
  · exact .inl h
  · exact .inr ⟨g, cap, cur, xs, h0, (heap_setCell_other w ⟨R, j, none⟩ g x (by show g ≠ R; omega)).trans h1, h2, h3⟩
theorem Ow.shape {w : World} {base n : Nat} {v : Value} (h : Ow w base v n) : ∃ ao k c, v = .slice ao k c := by
  obtain ⟨xs, h1, _⟩ := h.sl
  obtain ⟨ao, c, rfl⟩ := h1.shape
  exact ⟨_, _, _, rfl⟩
/-- where a number of the call's own lies -/
theorem Ow.block {w : World} {base n : Nat} {v : Value} (h : Ow w base v n) (b : Nat) (hb : inBlock v = some b) : base ≤ b ∧ b < w.heap.size := by
  rcases h with ⟨rfl, _⟩ | ⟨g, cap, cur, xs, rfl, h1, h2, _⟩
  · cases hb
  · obtain rfl := Option.some.inj hb
    exact ⟨h2, (Array.getElem?_eq_some_iff.1 h1).1⟩
theorem Own.ow {w : World} {base n : Nat} {v : Value} (h : Own w base v n) : Ow w base v n := by
  rcases h with ⟨rfl, rfl⟩ | ⟨g, len, cap, R, rfl, h1, h2, h3, h4, h5, h6, h7, h8, h9, rfl⟩
  · exact ow_nil w base
  · have hl : (R.take len).length = len := by rw [List.length_take]; omega
    refine .inr ⟨g, cap, _, R.take len, by rw [hl], h1, h2, by omega, h5, by rw [hl]; simp [cellsOf]; omega, ?_, by omega, lim_take (by have := B64_pos; omega) h7 _, h8, rfl⟩
    rw [hl]
    simp [cellsOf, List.map_take]
/-- a row that was made by append -/
theorem ow_row {w : World} {base : Nat} {v : Value} {xs : List Nat} (h : w.ownsRow base 65 1 v xs.length (cellsOf .u64 xs)) (hl : xs.length ≤ 16777216) (l : Lim B64 xs) (t : Top xs) : Ow w base v (val B64 xs) := by
  rcases h.2 with ⟨rfl, h0⟩ | ⟨g, cap, cur, rfl, hb, hg, hnc, hcm, hcs, htake⟩
  · obtain rfl : xs = [] := List.eq_nil_of_length_eq_zero h0
    exact ow_nil w base
  · rw [Nat.mul_one] at htake hcs
    exact .inr ⟨g, cap, cur, xs, rfl, hg, hb, hnc, hcm, by omega, htake, hl, l, t, rfl⟩
theorem row_ow {w : World} {base g cap : Nat} {xs R : List Nat} (hR : Row w 65 .u64 g R) (hg : base ≤ g) (ht : R.take xs.length = xs) (hl : xs.length ≤ R.length) (hc : xs.length ≤ cap) (hm : cap ≤ maxLen) (hn : xs.length ≤ 16777216) (l : Lim B64 xs) (t : Top xs) : Ow w base (.slice (some ⟨g, 0, none⟩) xs.length cap) (val B64 xs) := by
  refine .inr ⟨g, cap, _, xs, rfl, hR, hg, hc, hm, by simp [cellsOf]; exact hl, ?_, hn, l, t, rfl⟩
  have : cellsOf .u64 (R.take xs.length) = cellsOf .u64 xs := by rw [ht]
  rw [← this]
  simp [cellsOf, List.map_take]

/-- what stays behind a call that makes memory -/
theorem bcell {W w1 : World} (hb : Below W.heap.size W w1) : (∀ b o, b < W.heap.size → w1.cell? ⟨b, o, none⟩ = W.cell? ⟨b, o, none⟩) ∧ (∀ b o, b < W.heap.size → w1.frozen? ⟨b, o, none⟩ = W.frozen? ⟨b, o, none⟩) :=
  ⟨fun b o h => hb.cell (p := ⟨b, o, none⟩) h, fun b o h => hb.frozen (p := ⟨b, o, none⟩) h⟩
/-- how a world stands behind the beginning of a call: two blocks of the call's own lie -/
theorem below_of {w W w1 : World} (h : Below w.heap.size w W) (hb : Below W.heap.size W w1) : Below w.heap.size w w1 := h.trans (hb.mono h.size)

theorem below_to {w W w1 : World} (hb : Below W.heap.size W w1) (h : Below w.heap.size w W) : Below w.heap.size w w1 := below_of h hb
theorem cell_to {W w1 : World} {b o : Nat} {v : Value} (hb : Below W.heap.size W w1) (hc : W.cell? ⟨b, o, none⟩ = some v) (hlt : b < W.heap.size) : w1.cell? ⟨b, o, none⟩ = some v := (hb.cell (p := ⟨b, o, none⟩) hlt).trans hc
theorem size_to {W w1 : World} {k : Nat} (hb : Below W.heap.size W w1) (h : k < W.heap.size) : k < w1.heap.size := Nat.lt_of_lt_of_le h hb.size
theorem cell_new {W : World} {b o : Nat} {v : Value} {x : Obj} (hc : W.cell? ⟨b, o, none⟩ = some v) (hlt : b < W.heap.size) : (W.alloc x).cell? ⟨b, o, none⟩ = some v := cell_to ((Below.refl _ _).alloc (Nat.le_refl _) _) hc hlt
theorem size_new {W : World} {k : Nat} {x : Obj} (h : k < W.heap.size) : k < (W.alloc x).heap.size := size_to ((Below.refl _ _).alloc (Nat.le_refl _) _) h
/-- a block of two cells -/
theorem blk2 {w : World} {g : Nat} {a b : Value} {T : TypeId} (h : w.heap[g]? = some (.cells #[a, b] T (0, 0))) :
    w.cell? ⟨g, 0, none⟩ = some a ∧ w.cell? ⟨g, 1, none⟩ = some b ∧ w.frozen? ⟨g, 0, none⟩ = false ∧ w.frozen? ⟨g, 1, none⟩ = false ∧ g < w.heap.size := by
  refine ⟨?_, ?_, frozen_of_row w g 0 _ _ h, frozen_of_row w g 1 _ _ h, (Array.getElem?_eq_some_iff.1 h).1⟩ <;> (rw [cell_of_row w g _ _ _ (0, 0) h]; rfl)

/-- two new blocks -/
theorem alloc1 (w : World) (o1 : Obj) : ∃ W, w.alloc o1 = W ∧ W.heap[w.heap.size]? = some o1 ∧ Below w.heap.size w W ∧ w.heap.size < W.heap.size :=
  ⟨_, rfl, heap_alloc_new w o1, (Below.refl _ _).alloc (Nat.le_refl _) _, by simp⟩
theorem alloc2 (w : World) (o1 o2 : Obj) : ∃ W, (w.alloc o1).alloc o2 = W ∧ W.heap[w.heap.size]? = some o1 ∧ W.heap[w.heap.size + 1]? = some o2 ∧ Below w.heap.size w W ∧ w.heap.size + 1 < W.heap.size := by
  refine ⟨_, rfl, ?_, ?_, ((Below.refl _ _).alloc (Nat.le_refl _) _).alloc (by simp) _, by simp⟩
  · have h := heap_alloc_new w o1
    have hb : Below (w.alloc o1).heap.size (w.alloc o1) ((w.alloc o1).alloc o2) := (Below.refl _ _).alloc (Nat.le_refl _) _
    exact (hb.block _ (by simp)).trans h
  · have h := heap_alloc_new (w.alloc o1) o2
    rwa [show (w.alloc o1).heap.size = w.heap.size + 1 by simp] at h
theorem alloc3 (w : World) (o1 o2 o3 : Obj) : ∃ W, ((w.alloc o1).alloc o2).alloc o3 = W ∧ W.heap[w.heap.size]? = some o1 ∧ W.heap[w.heap.size + 1]? = some o2 ∧ W.heap[w.heap.size + 2]? = some o3 ∧ Below w.heap.size w W ∧ w.heap.size + 2 < W.heap.size := by
  obtain ⟨W, rfl, h1, h2, h3, h4⟩ := alloc2 w o1 o2
  have hb : Below ((w.alloc o1).alloc o2).heap.size ((w.alloc o1).alloc o2) (((w.alloc o1).alloc o2).alloc o3) := (Below.refl _ _).alloc (Nat.le_refl _) _
  refine ⟨_, rfl, (hb.block _ (by omega)).trans h1, (hb.block _ (by omega)).trans h2, ?_, h3.trans (hb.mono h3.size), by simp⟩
  have h := heap_alloc_new ((w.alloc o1).alloc o2) o3
  rwa [show ((w.alloc o1).alloc o2).heap.size = w.heap.size + 2 by simp] at h

/-- what stands of a world W in a later one: all blocks but R, a block of k cells of type T in which the result lies -/
def Zr (W w' : World) (R : Nat) (T : TypeId) (k : Nat) : Prop := W.grownBy w' (some R) ∧ ∃ cs : Array Value, w'.heap[R]? = some (.cells cs T (0, 0)) ∧ cs.size = k
theorem zr_start {W : World} {R : Nat} {T : TypeId} {cs : Array Value} (h : W.heap[R]? = some (.cells cs T (0, 0))) : Zr W W.drew R T cs.size := ⟨⟨rfl, rfl, rfl, Nat.le_refl _, fun _ _ _ => rfl⟩, cs, h, rfl⟩
theorem Zr.call {W w1 w2 : World} {R k : Nat} {T : TypeId} (h : Zr W w1 R T k) (hb : Below w1.heap.size w1 w2) : Zr W w2 R T k := by
  obtain ⟨h1, cs, h2, h3⟩ := h
  exact ⟨grown_trans' h1 (grown_of_below hb _), cs, (hb.block _ (Array.getElem?_eq_some_iff.1 h2).1).trans h2, h3⟩
theorem Zr.set {W w1 : World} {R k j : Nat} {T : TypeId} {x : Value} (h : Zr W w1 R T k) : Zr W (w1.setCell ⟨R, j, none⟩ x) R T k := by
  obtain ⟨h1, cs, h2, h3⟩ := h
  exact ⟨grown_trans' h1 ⟨rfl, rfl, rfl, by simp, fun i _ hk => heap_setCell_other w1 ⟨R, j, none⟩ i _ (fun e => hk (by simp [e]))⟩, _, heap_setCell_same w1 R j _ _ x h2, by simp [h3]⟩
theorem Zr.cell {W w1 : World} {R k b o : Nat} {T : TypeId} {v : Value} (h : Zr W w1 R T k) (hc : W.cell? ⟨b, o, none⟩ = some v) (hne : b ≠ R) : w1.cell? ⟨b, o, none⟩ = some v := h.1.cell hc (by simpa using hne)
theorem Zr.blk {W w1 : World} {R k b : Nat} {T T' : TypeId} {cs : Array Value} (h : Zr W w1 R T k) (hc : W.heap[b]? = some (.cells cs T' (0, 0))) (hne : b ≠ R) : w1.heap[b]? = some (.cells cs T' (0, 0)) :=
  (h.1.block b (Array.getElem?_eq_some_iff.1 hc).1 (by simpa using hne)).trans hc
theorem Zr.below {w W w1 : World} {R k : Nat} {T : TypeId} (h : Zr W w1 R T k) (hb : Below w.heap.size w W) (hR : w.heap.size ≤ R) : Below w.heap.size w w1 := below_of_grown hb h.1 hR hb.size
theorem Zr.lt {W w1 : World} {R k : Nat} {T : TypeId} (h : Zr W w1 R T k) : R < w1.heap.size := by
  obtain ⟨_, cs, h2, _⟩ := h
  exact (Array.getElem?_eq_some_iff.1 h2).1
theorem Zr.two {W w1 : World} {R : Nat} {T : TypeId} (h : Zr W w1 R T 2) : ∃ a b, w1.cell? ⟨R, 0, none⟩ = some a ∧ w1.cell? ⟨R, 1, none⟩ = some b ∧ w1.frozen? ⟨R, 0, none⟩ = false ∧ w1.frozen? ⟨R, 1, none⟩ = false ∧ R < w1.heap.size := by
  obtain ⟨_, cs, h2, h3⟩ := h
  obtain ⟨l⟩ := cs
  match l, h3 with
  | [a, b], _ => exact ⟨a, b, blk2 h2⟩

/-- a bound of all that comes in; plain names, so that nothing reckons the power -/
def Lm : Nat := 4000000
def HugeN : Nat := B64 ^ Lm
theorem val_lt_pow {xs : List Nat} {L : Nat} (l : Lim B64 xs) (h : xs.length ≤ L) : val B64 xs < B64 ^ L := Nat.lt_of_lt_of_le (val_lt l) (Nat.pow_le_pow_right (by have := B64_pos; omega) h)
theorem pow_pos' (L : Nat) : 0 < B64 ^ L := Nat.pow_pos (by have := B64_pos; omega)
theorem len_gen {xs : List Nat} {L m : Nat} (t : Top xs) (h : val B64 xs ≤ m * B64 ^ L) (hm : m ≤ 16777216) : xs.length ≤ L + 1 := by
  refine length_of_val (B := B64) B64_pos t (L + 1) ?_
  rw [Nat.pow_succ, Nat.mul_comm]
  have h1 : m * B64 ^ L < B64 * B64 ^ L := Nat.mul_lt_mul_of_pos_right (by unfold B64; omega) (pow_pos' L)
  omega
theorem pow_mono' {m n : Nat} (h : m ≤ n) : B64 ^ m ≤ B64 ^ n := Nat.pow_le_pow_right (by have := B64_pos; omega) h
theorem huge_pos : 0 < HugeN := pow_pos' Lm
theorem huge_len {xs : List Nat} (l : Lim B64 xs) (h : xs.length ≤ Lm) : val B64 xs < HugeN := val_lt_pow (L := Lm) l h
theorem len_huge {xs : List Nat} {m : Nat} (t : Top xs) (h : val B64 xs ≤ m * HugeN) (hm : m ≤ 16777216) : xs.length ≤ Lm + 1 := len_gen (L := Lm) t h hm
theorem big_huge : Big ≤ HugeN := pow_mono' (m := maxL) (n := Lm) (by unfold maxL Lm; omega)

/-- an Int value, in any form -/
def IntV (w : World) (v : Value) (z : Int) : Prop := ∃ (n : Bool) (u : Value) (xs : List Nat), v = .agg #[.bool n, u] ∧ Sl w .u64 u xs ∧ Lim B64 xs ∧ xs.length ≤ 4000000 ∧ z = sg n (val B64 xs)
/-- a canonical Int in memory of the call's own -/
def IntC (w : World) (base : Nat) (v : Value) (z : Int) : Prop := ∃ u, v = .agg #[.bool (sgn z), u] ∧ Ow w base u z.natAbs
/-- package whole's number: no zeros on top, no sign of 0 -/
def NuV (w : World) (v : Value) (z : Int) : Prop := ∃ u, v = .agg #[u, .bool (sgn z)] ∧ Num w u z.natAbs
def NuC (w : World) (base : Nat) (v : Value) (z : Int) : Prop := ∃ u, v = .agg #[u, .bool (sgn z)] ∧ Ow w base u z.natAbs
theorem IntV.below {w w' : World} {v : Value} {z : Int} (h : IntV w v z) (hb : Below w.heap.size w w') : IntV w' v z := by
  obtain ⟨n, u, xs, h0, h1, h2⟩ := h; exact ⟨n, u, xs, h0, h1.below hb, h2⟩
theorem IntC.below {w w' : World} {base : Nat} {v : Value} {z : Int} (h : IntC w base v z) (hb : Below w.heap.size w w') : IntC w' base v z := by
  obtain ⟨u, h0, h1⟩ := h; exact ⟨u, h0, h1.below hb⟩
theorem IntC.mono {w : World} {base base' : Nat} {v : Value} {z : Int} (h : IntC w base v z) (hb : base' ≤ base) : IntC w base' v z := by
  obtain ⟨u, h0, h1⟩ := h; exact ⟨u, h0, h1.mono hb⟩
theorem NuV.below {w w' : World} {v : Value} {z : Int} (h : NuV w v z) (hb : Below w.heap.size w w') : NuV w' v z := by
  obtain ⟨u, h0, h1⟩ := h; exact ⟨u, h0, h1.below hb⟩
theorem NuC.below {w w' : World} {base : Nat} {v : Value} {z : Int} (h : NuC w base v z) (hb : Below w.heap.size w w') : NuC w' base v z := by
  obtain ⟨u, h0, h1⟩ := h; exact ⟨u, h0, h1.below hb⟩
theorem NuC.mono {w : World} {base base' : Nat} {v : Value} {z : Int} (h : NuC w base v z) (hb : base' ≤ base) : NuC w base' v z := by
  obtain ⟨u, h0, h1⟩ := h; exact ⟨u, h0, h1.mono hb⟩
theorem NuC.nuV {w : World} {base : Nat} {v : Value} {z : Int} (h : NuC w base v z) : NuV w v z := by
  obtain ⟨u, h0, h1⟩ := h; exact ⟨u, h0, h1.num⟩
/-- a canonical Int of a number that is not too long, as any Int -/
theorem IntC.intV {w : World} {base : Nat} {v : Value} {z : Int} (h : IntC w base v z) (hz : z.natAbs < Big) : IntV w v z := by
  obtain ⟨u, rfl, h1⟩ := h
  obtain ⟨xs, s, l, t, e⟩ := h1.sl
  refine ⟨_, u, xs, rfl, s, l, ?_, by rw [e, sg_sgn]⟩
  have := length_of_val B64_pos t maxL (by rw [e]; exact hz)
  unfold maxL at this; omega
theorem IntV.shape {w : World} {v : Value} {z : Int} (h : IntV w v z) : ∃ n ao k c, v = .agg #[.bool n, .slice ao k c] := by
  obtain ⟨n, u, xs, rfl, h1, _⟩ := h
  obtain ⟨ao, c, rfl⟩ := h1.shape
  exact ⟨_, _, _, _, rfl⟩
theorem IntC.shape {w : World} {base : Nat} {v : Value} {z : Int} (h : IntC w base v z) : ∃ n ao k c, v = .agg #[.bool n, .slice ao k c] := by
  obtain ⟨u, rfl, h1⟩ := h
  obtain ⟨xs, h2, _⟩ := h1.sl
  obtain ⟨ao, c, rfl⟩ := h2.shape
  exact ⟨_, _, _, _, rfl⟩
theorem IntC.far {w : World} {base R j : Nat} {v x : Value} {z : Int} (h : IntC w base v z) (hR : R < base) : IntC (w.setCell ⟨R, j, none⟩ x) base v z := by
  obtain ⟨u, h0, h1⟩ := h; exact ⟨u, h0, h1.far hR⟩
theorem NuV.hold {w : World} {v : Value} {z : Int} (h : NuV w v z) : z ≠ 0 → ∀ u b k, v = .agg #[u, b] → inBlock u = some k → k < w.heap.size := by
  intro hz u b k e hk
  obtain ⟨u', e', xs, hs, _, _, hv⟩ := h
  rw [e'] at e
  simp only [Value.agg.injEq, Array.mk.injEq, List.cons.injEq] at e
  obtain ⟨rfl, _⟩ := e
  obtain ⟨b', o', c', e1, _, _, hlt, _⟩ := hs.pos (by
    rcases Nat.eq_zero_or_pos xs.length with h0 | h0
    · have : xs = [] := List.eq_nil_of_length_eq_zero h0
      subst this
      have : (0 : Nat) = z.natAbs := hv
      omega
    · exact h0)
  rw [e1] at hk
  have e2 : b' = k := Option.some.inj hk
  omega
theorem NuC.far {w : World} {base R j : Nat} {v x : Value} {z : Int} (h : NuC w base v z) (hR : R < base) : NuC (w.setCell ⟨R, j, none⟩ x) base v z := by
  obtain ⟨u, h0, h1⟩ := h; exact ⟨u, h0, h1.far hR⟩
theorem NuC.shape {w : World} {base : Nat} {v : Value} {z : Int} (h : NuC w base v z) : ∃ ao k c n, v = .agg #[.slice ao k c, .bool n] := by
  obtain ⟨u, rfl, h1⟩ := h
  obtain ⟨ao, k, c, rfl⟩ := h1.shape
  exact ⟨_, _, _, _, rfl⟩
theorem NuV.shape {w : World} {v : Value} {z : Int} (h : NuV w v z) : ∃ ao k c n, v = .agg #[.slice ao k c, .bool n] := by
  obtain ⟨u, rfl, h1⟩ := h
  obtain ⟨xs, h2, _⟩ := h1
  obtain ⟨ao, c, rfl⟩ := h2.shape
  exact ⟨_, _, _, _, rfl⟩
end Go.Proofs.YtckmpnfadpnaeaaDoor
