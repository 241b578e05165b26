/- tribunalref03: lists of fractions in memory; append of one. -/
import Derived.Test.YthgmebnihpjnoaaGreatDoorRFP
import Derived.Test.YthgmebnihpjnoaaGreatDoorQB3
import Derived.Test.YthgmebnihpjnoaaGreatDoorQB2
import Derived.Laws.AppendOwnNone
import Derived.LoopTactic
set_option linter.unusedVariables false
set_option linter.unusedSimpArgs false
namespace Go.Proofs.YthgmebnihpjnoaaGreatDoor
open Go.RowKit Mth

/-- the four cells of a fraction -/
structure QC where
  m : Bool
  a : Option Addr
  k : Nat
  c : Nat
  m' : Bool
  a' : Option Addr
  k' : Nat
  c' : Nat
def QC.v (q : QC) : Value := .agg #[.bool q.m, .slice q.a q.k q.c, .bool q.m', .slice q.a' q.k' q.c']
def qcCells (q : QC) : List Value := [.bool q.m, .slice q.a q.k q.c, .bool q.m', .slice q.a' q.k' q.c']
def qcsCells (L : List QC) : List Value := L.flatMap qcCells
theorem info_q : (Tryz.prog.info? 71).map (fun i => (i.zero, i.size, i.bytes)) = some (some (.agg #[.bool false, .slice none 0 0, .bool false, .slice none 0 0]), 4, 64) := by kernel_rfl
theorem qcs_app (L M : List QC) : qcsCells (L ++ M) = qcsCells L ++ qcsCells M := List.flatMap_append
theorem qcs_get : ∀ (L : List QC) (i : Nat) (x : QC), L[i]? = some x → ∀ j v, (qcCells x)[j]? = some v → (qcsCells L)[4 * i + j]? = some v
  | [], i, x, h, j, v, hv => by simp at h
  | y :: L, 0, x, h, j, v, hv => by
    obtain rfl : y = x := by simpa using h
    show (qcCells y ++ qcsCells L)[_]? = _
    rw [Nat.mul_zero, Nat.zero_add]
    exact List.getElem?_append_left (List.getElem?_eq_some_iff.1 hv).1 |>.trans hv
  | y :: L, i + 1, x, h, j, v, hv => by
    show (qcCells y ++ qcsCells L)[_]? = _
    rw [List.getElem?_append_right (show (qcCells y).length ≤ _ by show 4 ≤ _; omega)]
    show (qcsCells L)[4 * (i + 1) + j - 4]? = _
    rw [show 4 * (i + 1) + j - 4 = 4 * i + j by omega]
    exact qcs_get L i x (by simpa using h) j v hv
/-- no cell of them is a number -/
theorem qcs_noint {L : List QC} {v : Value} (h : v ∈ qcsCells L) : ∀ k n, v ≠ .int k n := by
  obtain ⟨x, _, hx⟩ := List.mem_flatMap.1 h
  simp only [qcCells, List.mem_cons, List.not_mem_nil, or_false] at hx
  rcases hx with rfl | rfl | rfl | rfl <;> (intro k n e; cases e)
/-- a list of fractions in memory -/
def QcL (w : World) (v : Value) (L : List QC) : Prop := ∃ ao cap, v = .slice ao L.length cap ∧ (L ≠ [] → ∃ b off, ao = some ⟨b, off, none⟩ ∧ b < w.heap.size ∧ ∀ j x, (qcsCells L)[j]? = some x → w.cell? ⟨b, off + j, none⟩ = some x)
theorem QcL.nil (w : World) : QcL w (.slice none 0 0) [] := ⟨none, 0, rfl, fun h => absurd rfl h⟩
theorem QcL.below {w w' : World} {v : Value} {L : List QC} (h : QcL w v L) (hb : Below w.heap.size w w') : QcL w' v L := by
  obtain ⟨ao, cap, h1, h2⟩ := h
  refine ⟨ao, cap, h1, fun hn => ?_⟩
  obtain ⟨b, off, e, hlt, hc⟩ := h2 hn
  exact ⟨b, off, e, Nat.lt_of_lt_of_le hlt hb.size, fun j x hx => (hb.cell (p := ⟨b, off + j, none⟩) hlt).trans (hc j x hx)⟩
theorem QcL.at {w : World} {b off : Nat} {L : List QC} (hc : ∀ j x, (qcsCells L)[j]? = some x → w.cell? ⟨b, off + j, none⟩ = some x) {i : Nat} {x : QC} (hx : L[i]? = some x) :
    w.cell? ⟨b, off + i * 4, none⟩ = some (.bool x.m) ∧ w.cell? ⟨b, off + i * 4 + 1, none⟩ = some (.slice x.a x.k x.c) ∧ w.cell? ⟨b, off + i * 4 + 2, none⟩ = some (.bool x.m') ∧ w.cell? ⟨b, off + i * 4 + 3, none⟩ = some (.slice x.a' x.k' x.c') := by
  rw [Nat.mul_comm i 4]
  exact ⟨hc _ _ (qcs_get L i x hx 0 _ rfl), by rw [Nat.add_assoc]; exact hc _ _ (qcs_get L i x hx 1 _ rfl), by rw [Nat.add_assoc]; exact hc _ _ (qcs_get L i x hx 2 _ rfl), by rw [Nat.add_assoc]; exact hc _ _ (qcs_get L i x hx 3 _ rfl)⟩
theorem QcL.own {w : World} {base : Nat} {v : Value} {L : List QC} (h : w.ownsRow base 71 4 v L.length (qcsCells L)) : QcL w v L := by
  have hl := h.lt
  have hc : ∀ {g : Nat}, v.ownBlock = some g → ∀ j u, (qcsCells L)[j]? = some u → w.cell? ((⟨g, 0, none⟩ : Addr).add j) = some u := fun hg => h.cells hg
  obtain ⟨h0, h1⟩ := h
  rcases h1 with ⟨rfl, h2⟩ | ⟨g, cap, cur, rfl, _⟩
  · cases L with
    | nil => exact QcL.nil w
    | cons x L => simp [qcsCells, qcCells] at h2
  · refine ⟨some ⟨g, 0, none⟩, cap, rfl, fun _ => ⟨g, 0, rfl, (hl g rfl).2, fun j x hx => ?_⟩⟩
    have := hc (g := g) rfl j x hx
    rwa [Addr.add_lit] at this
theorem noint_list {l : List Value} (h : ∀ v ∈ l, ∀ k n, v ≠ .int k n) : NoInt l.toArray := fun i k n e => h _ (List.mem_of_getElem? (by simpa using e)) k n rfl
theorem noint_app {a b : Array Value} (ha : NoInt a) (hb : NoInt b) : NoInt (a ++ b) := fun i k n e => by
  rw [Array.getElem?_append] at e
  split at e
  · exact ha _ k n e
  · exact hb _ k n e
theorem noint_zero (n : Nat) : NoInt (Builtin.zeroCells #[.bool false, .slice none 0 0, .bool false, .slice none 0 0] n) := fun i k m e => by
  simp only [Builtin.zeroCells, Array.getElem?_map, Option.map_eq_some_iff] at e
  obtain ⟨j, _, e⟩ := e
  have h : j % 4 = 0 ∨ j % 4 = 1 ∨ j % 4 = 2 ∨ j % 4 = 3 := by omega
  rcases h with h | h | h | h <;> simp [h] at e
/-- a list of fractions that the call made: no cell of its block is a number -/
def QOwn (w : World) (base : Nat) (v : Value) (L : List QC) : Prop := w.ownsRow base 71 4 v L.length (qcsCells L) ∧ ∀ g, v.ownBlock = some g → ∃ cs, w.heap[g]? = some (.cells cs 71 (0, 0)) ∧ NoInt cs
theorem QOwn.nil (w : World) (base : Nat) : QOwn w base (.slice none 0 0) [] := ⟨World.ownsRow_nil _ _ _ _, fun g h => by simp [Value.ownBlock] at h⟩
theorem QOwn.below {w w' : World} {base : Nat} {v : Value} {L : List QC} (h : QOwn w base v L) (hb : Below w.heap.size w w') : QOwn w' base v L := by
  refine ⟨h.1.kept ⟨hb.os, hb.tape, hb.output, hb.size, fun k hk _ => hb.block k hk⟩ (row := none) (by cases hv : v.ownBlock <;> simp), fun g hg => ?_⟩
  obtain ⟨cs, h1, h2⟩ := h.2 g hg
  exact ⟨cs, (hb.block _ (Array.getElem?_eq_some_iff.1 h1).1).trans h1, h2⟩
theorem QOwn.far {w : World} {base R j : Nat} {x v : Value} {L : List QC} (h : QOwn w base v L) (hR : R < base) : QOwn (w.setCell ⟨R, j, none⟩ x) base v L := by
  have hl := h.1.lt
  refine ⟨h.1.kept (row := some R) ⟨rfl, rfl, rfl, by simp, fun k _ hk => heap_setCell_other w ⟨R, j, none⟩ k _ (fun e => hk (by simp [e]))⟩ ?_, fun g hg => ?_⟩
  · cases hv : v.ownBlock with
    | none => exact .inl rfl
    | some g => exact .inr (fun e => by have := (hl g hv).1; have := Option.some.inj e; omega)
  · obtain ⟨cs, h1, h2⟩ := h.2 g hg
    exact ⟨cs, (heap_setCell_other w ⟨R, j, none⟩ g _ (show g ≠ R by have := (hl g hg).1; omega)).trans h1, h2⟩
theorem append_q {w : World} {ops : Array Oper} {rest : List Oper} {o : Oper} {a : Act} {Q : Exit → Act → World → Prop} (hgd : o.guard = none) (s x : Operand)
    (ho : o.op = .call { callee := .builtin .append, args := #[s, x], argTypes := #[89, 89] }) (base : Nat) (v : Value) (L : List QC) (y : QC) (b cap : Nat)
    (hs : a.eval s = v) (hx : a.eval x = .slice (some ⟨b, 0, none⟩) 1 cap) (hown : QOwn w base v L) (hu : w.heap[b]? = some (.cells #[.bool y.m, .slice y.a y.k y.c, .bool y.m', .slice y.a' y.k' y.c'] 71 (0, 0))) (hlen : L.length ≤ 1048576) (hbase : base ≤ w.heap.size)
    (h : ∀ v' w', QOwn w' base v' (L ++ [y]) → w.grownBy w' v.ownBlock → wpList Tryz.prog ops Q rest (a.put o.dst v') w') : wpList Tryz.prog ops Q (o :: rest) a w := by
  obtain ⟨i0, hi, hz0, hz1, hz2⟩ := info_parts info_q
  obtain ⟨⟨c0, c1, c2, c3⟩, _, _⟩ := blk4q hu
  have hcells : ∀ j u, (qcCells y)[j]? = some u → w.cell? ((⟨b, 0, none⟩ : Addr).add j) = some u := by
    intro j u hj
    match j, hj with
    | 0, hj => obtain rfl := Option.some.inj hj; rw [Addr.add_lit]; exact c0
    | 1, hj => obtain rfl := Option.some.inj hj; rw [Addr.add_lit]; exact c1
    | 2, hj => obtain rfl := Option.some.inj hj; rw [Addr.add_lit]; exact c2
    | 3, hj => obtain rfl := Option.some.inj hj; rw [Addr.add_lit]; exact c3
    | j + 4, hj => simp [qcCells] at hj
  have hone : ∀ u ∈ qcCells y, u.oneCell' = true := by
    intro u hu
    simp [qcCells] at hu
    rcases hu with rfl | rfl | rfl | rfl <;> rfl
  have NY : NoInt (qcCells y).toArray := noint_list (fun v hv => qcs_noint (L := [y]) (by simpa [qcsCells] using hv))
  have NL : NoInt (qcsCells L).toArray := noint_list (fun v hv => qcs_noint hv)
  have hU := Tryz.underlying89
  have hlz : (qcCells y).length = 1 * i0.size := by rw [hz1]; rfl
  refine wpList_plain hgd fun _ hK => ?_
  obtain ⟨v', w', hr, h2, h3, _⟩ := run_append_own (P := Tryz.prog) w base 89 o.type 71 i0 _ 4 64 hU hi hz0 hz1 hz2 rfl (by decide) v _ _ hown.1 ⟨b, 0, none⟩ 1 cap (qcCells y) rfl hcells hone
      (by unfold maxLen; omega) (by omega) hbase
  have h5 : ∀ g, v'.ownBlock = some g → ∃ cs, w'.heap[g]? = some (.cells cs 71 (0, 0)) ∧ NoInt cs := by
    rcases hown.1.2 with ⟨rfl, hn⟩ | ⟨g, cap0, cur, rfl, _, hg, hnc, hcm, hcs, _⟩
    · obtain rfl : L = [] := List.eq_nil_of_length_eq_zero hn
      have e := run_append_nil (P := Tryz.prog) w 89 o.type 71 i0 _ hU hi hz0 ⟨b, 0, none⟩ 1 cap (qcCells y) hlz hcells (by omega) (by omega) (by rw [hz2]; omega)
      obtain ⟨rfl, rfl⟩ := Result.ok.inj (hr.symm.trans e)
      intro g hg
      simp [Value.ownBlock] at hg
      subst hg
      exact ⟨_, heap_alloc_new w.drew _, noint_app NY (noint_zero _)⟩
    · by_cases hroom : L.length + 1 ≤ cap0
      · have e := run_append_room (P := Tryz.prog) w 89 o.type 71 i0 hU hi g L.length cap0 cur hg ⟨b, 0, none⟩ 1 cap (qcCells y) hlz hcells hone hroom (by rw [hz1, hcs]; show L.length * 4 + 4 ≤ _; omega)
        obtain ⟨rfl, rfl⟩ := Result.ok.inj (hr.symm.trans e)
        intro g' hg'
        simp [Value.ownBlock] at hg'
        subst hg'
        refine ⟨_, setRow_heap w g cur _ _ _ hg, ?_⟩
        obtain ⟨cs0, hc0, hn0⟩ := hown.2 g rfl
        have hcc : cs0 = cur := by have := hc0.symm.trans hg; simpa using this
        subst hcc
        have hm : ∀ v ∈ cs0.toList, ∀ k n, v ≠ .int k n := fun v hv k n e => by
          obtain ⟨i, hi⟩ := List.getElem?_of_mem hv
          exact hn0 i k n (by rw [← e]; simpa using hi)
        refine noint_list (fun v hv => ?_)
        simp only [List.mem_append] at hv
        rcases hv with (hv | hv) | hv
        · exact hm v (List.mem_of_mem_take hv)
        · exact qcs_noint (L := [y]) (by simpa [qcsCells] using hv)
        · exact hm v (List.mem_of_mem_drop hv)
      · have e := run_append_grow (P := Tryz.prog) w 89 o.type 71 i0 _ hU hi hz0 ⟨g, 0, none⟩ L.length cap0 (qcsCells L) (by rw [hz1]; exact hown.1.1) (hown.1.cells (g := g) rfl) ⟨b, 0, none⟩ 1 cap (qcCells y) hlz hcells (by omega) (by unfold maxLen at hcm; omega) (by rw [hz2]; exact growslice_fits (by omega) (by omega))
        obtain ⟨rfl, rfl⟩ := Result.ok.inj (hr.symm.trans e)
        intro g' hg'
        simp [Value.ownBlock] at hg'
        subst hg'
        exact ⟨_, heap_alloc_new w.drew _, noint_app (noint_app NL NY) (noint_zero _)⟩
  have ew : qcsCells L ++ qcCells y = qcsCells (L ++ [y]) := by rw [qcs_app]; simp [qcsCells]
  rw [ew] at h2
  unfold Oper.wp execOp
  simp only [ho, resolve, invoke, builtin, Sem.run_bind, Sem.run_pure, Result.andThen_ok, List.map_toArray, List.map_cons, List.map_nil, hs, hx, hr]
  exact hK _ _ (h v' w' ⟨by rw [List.length_append]; exact h2, h5⟩ h3)
theorem Sl.grownQ {w w' : World} {base : Nat} {k : IntKind} {v vo : Value} {xs : List Nat} {L : List QC} (h : Sl w k v xs) (ho : QOwn w base vo L) (hg : w.grownBy w' vo.ownBlock) : Sl w' k v xs := by
  obtain ⟨ao, cap, rfl, h1, h2, h3, h4, h5⟩ := h
  refine ⟨ao, cap, rfl, h1, h2, h3, h4, fun hp => ?_⟩
  obtain ⟨b, off, rfl, hb, hc⟩ := h5 hp
  refine ⟨b, off, rfl, Nat.lt_of_lt_of_le hb hg.size, fun j hj => hg.cell (hc j hj) (fun e => ?_)⟩
  obtain ⟨cs, hcs, hno⟩ := ho.2 b e.symm
  have := hc 0 hp
  rw [cell_of_row w b _ _ _ (0, 0) hcs] at this
  exact hno _ _ _ this
theorem ZV.grownQ {w w' : World} {base : Nat} {v vo : Value} {z : Int} {L : List QC} (h : ZV w v z) (ho : QOwn w base vo L) (hg : w.grownBy w' vo.ownBlock) : ZV w' v z := by
  obtain ⟨u, e, ys, h1, h2⟩ := h
  exact ⟨u, e, ys, h1.grownQ ho hg, h2⟩
theorem QV.grownQ {w w' : World} {base : Nat} {v vo : Value} {x : Int} {d : Nat} {L : List QC} (h : QV w v x d) (ho : QOwn w base vo L) (hg : w.grownBy w' vo.ownBlock) : QV w' v x d := by
  obtain ⟨m, a, k, c, m', a', k', c', e, h1, h2⟩ := h
  exact ⟨m, a, k, c, m', a', k', c', e, h1.grownQ ho hg, h2.grownQ ho hg⟩
theorem below_grownQ {w w1 w2 : World} {vo : Value} {L : List QC} (hb : Below w.heap.size w w1) (ho : QOwn w1 w.heap.size vo L) (hg : w1.grownBy w2 vo.ownBlock) : Below w.heap.size w w2 :=
  ⟨hg.os.trans hb.os, hg.tape.trans hb.tape, hg.output.trans hb.output, Nat.le_trans hb.size hg.size, fun k hk => (hg.block k (Nat.lt_of_lt_of_le hk hb.size) (fun e => by have := (ho.1.lt k e.symm).1; omega)).trans (hb.block k hk)⟩
end Go.Proofs.YthgmebnihpjnoaaGreatDoor
