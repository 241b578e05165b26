/- LiftX LiftT. -/
import Derived.Test.YtpkdiciinhjfjaaDoorLG1
import Derived.Test.YtpkdiciinhjfjaaDoorShelf
import Derived.Test.YtpkdiciinhjfjaaDoorCards
import Derived.Test.YtpkdiciinhjfjaaDoorTie
import Derived.OpenShut
import Derived.Deep.DeepHandedRow
import Derived.LaidMore
import Derived.Lay
import Derived.Lib.SmallJoins
import Derived.Stop.Joined
import Derived.Test.YtpkdiciinhjfjaaDoorNG1
import Derived.Test.YtpkdiciinhjfjaaDoorKG1
import Derived.Deep.Slices
set_option linter.unusedVariables false
set_option linter.unusedSimpArgs false
/- From the row's reading of the arguments to the walks of package lexis: the tables that the rows list, the bound; the witness's world. -/
namespace Go.Proofs.YtpkdiciinhjfjaaDoor
open Go.ChangeShapes Go.WideShapes Go.ChangeAt Go.RowKit Mth

theorem own : ownKnob Tryd.prog.godebug = none := by kernel_rfl
/-- the tables that every row of this seat lists -/
def tables : List (String × DataW Unit) := [("unicode/utf8.acceptRanges", Rows.laid_unicode_utf8_acceptRanges), ("tribunal/lexis.simples", Rows.laid_tribunal_lexis_simples), ("unicode.CaseRanges", Rows.laid_unicode_CaseRanges), ("unicode/utf8.first", Rows.laid_unicode_utf8_first)]
theorem g_simples : Tryd.prog.globalNamed "tribunal/lexis.simples" = some 0 := by kernel_rfl
theorem g_simples_type : (Tryd.prog.globals[0]?).map (·.type) = some 99 := by kernel_rfl
theorem cells_bool : Tryd.prog.cellsOf 4 = 1 := by kernel_rfl
def simpleL : List Bool := (List.range 128).map bSimple
theorem simples_data : (Rows.laid_tribunal_lexis_simples : DataW Unit) = .agg (simpleL.map fun b => .lit (.bool b)) := by kernel_rfl
theorem simple_at (r : Nat) (hr : r < 128) : simpleL.getD r false = bSimple r := by
  unfold simpleL
  rw [List.getD_eq_getElem?_getD, List.getElem?_map, List.getElem?_range hr]; rfl
theorem stab_of {W : World} (h : laidMetH Tryd.prog tables W) : STab W := by
  rw [MakeChecks.laidMetH_plain _ _ _ (by kernel_rfl)] at h
  obtain ⟨ps, ⟨g0, t0, cs0, f0, p0, q0, hg0, ht0, hv0, hd0, ⟨g1, t1, cs1, f1, p1, q1, hg1, ht1, hv1, hd1, _⟩, _⟩, _, _⟩ := h
  obtain rfl := Option.some.inj (g_simples.symm.trans hg1)
  obtain rfl := Option.some.inj (g_simples_type.symm.trans ht1)
  intro r hr
  obtain ⟨xs, m, _, ex, _, hl, hel⟩ := DataW.trod_array Tryd.underlying99 hd1
  have hE := hel r hr
  rw [cells_bool, Nat.mul_one, List.getElem?_eq_getElem (by omega)] at hE
  obtain ⟨z, e1, e2⟩ := DataW.trod_bool Tryd.underlying4 hE
  have hlen : simpleL.length = 128 := by simp [simpleL]
  have e3 : (xs.map (·.1)) = simpleL.map fun b => (DataW.lit (.bool b) : DataW Unit) := by
    have := (Prod.mk.inj ex).1
    rw [simples_data] at this
    exact (DataW.agg.inj this).symm
  have e4 : (xs.map (·.1))[r]? = (simpleL.map fun b => (DataW.lit (.bool b) : DataW Unit))[r]? := by rw [e3]
  rw [List.getElem?_map, List.getElem?_map, List.getElem?_eq_getElem (by omega : r < xs.length), List.getElem?_eq_getElem (by omega : r < simpleL.length), e2] at e4
  have hz : z = bSimple r := by
    simp only [Option.map_some, Option.some.injEq, DataW.lit.injEq, Lit.bool.injEq] at e4
    rw [e4, ← simple_at r hr, List.getD_eq_getElem?_getD, List.getElem?_eq_getElem (by omega : r < simpleL.length)]; rfl
  rw [World.var?_cell hg1 hv1 r, ← hz]
  have : cs1.toList[r]? = some (.bool z) := by
    have h0 : ((cs1.toList.drop r).take 1)[0]? = some (.bool z) := by rw [e1]; rfl
    simpa using h0
  simpa using this
theorem lexw_of {W : World} (h : laidMetH Tryd.prog tables W) (hs : W.ShapedOpen Tryd.prog) : LexW W := ⟨stab_of h, Tryd.laysM144.s1_3 W hs⟩
theorem bulk_mem {H : Type} {d : DataW H} {ds : List (DataW H)} (h : d ∈ ds) : Rows.uptoBulk d ≤ Rows.uptoBulkAll ds := by
  induction ds with
  | nil => cases h
  | cons x r ih =>
    simp only [Rows.uptoBulkAll]
    rcases List.mem_cons.1 h with e | e
    · subst e; omega
    · have := ih e; omega
/-- the witness's world: the tables laid -/
noncomputable def layW (os : Os) : World := World.laidAll Tryd.prog os tables
theorem laid_all (os : Os) (args : Array Value) : laidMet Tryd.prog tables ((layW os).forCall (fun _ _ => 0) ⟨#[], args, []⟩).memory := laidMet_laidAll args (by kernel_rfl) (by kernel_rfl)
theorem laid_allH (os : Os) (args : Array Value) : laidMetH Tryd.prog tables ((layW os).forCall (fun _ _ => 0) ⟨#[], args, []⟩).memory := by
  rw [MakeChecks.laidMetH_plain _ _ _ (by kernel_rfl)]; exact laid_all os args
theorem witness_lay {H : Type} {enc : TypeId × Value → H} {os : Os} {f : FuncId} {fn : Func} {s : OpenSpec} {conds : List PathCond} {apart : Bool} {laid : List (String × DataW Unit)} (args : Array Value)
    (hsh : ((layW os).forCall (fun _ _ => 0) ⟨#[], args, []⟩).Shaped Tryd.prog)
    (hok : Input.okWideB Tryd.prog ((layW os).forCall (fun _ _ => 0) ⟨#[], args, []⟩) f ⟨#[], args, []⟩ = true)
    (hrow : s.preRow enc Tryd.prog fn conds apart laid ((layW os).forCall (fun _ _ => 0) ⟨#[], args, []⟩).memory args) :
    ∃ (w : World) (tape : Tape) (i : Input), w.os = os ∧ (w.forCall tape i).Shaped Tryd.prog ∧ i.vars = [] ∧ Input.okWide Tryd.prog (w.forCall tape i) .any w.heap.size f i ∧
      s.preRow enc Tryd.prog fn conds apart laid (w.forCall tape i).memory i.args ∧ ({} : Assume).holds Tryd.prog (lone (Frame.enter Tryd.prog f i.args .normal) [] (w.forCall tape i)) :=
  ⟨layW os, fun _ _ => 0, ⟨#[], args, []⟩, World.laidAll_os _ _ _, hsh, (Input.okWide_of_okWideB (base := 0) hok).1, (Input.okWide_of_okWideB hok).2, hrow, by
    simp only [Assume.holds]
    exact ⟨by simp, by simp, fun _ => Modest.zero, by simp, by simp⟩⟩
end Go.Proofs.YtpkdiciinhjfjaaDoor

/- Tokens among the arguments of package lexis's laws. -/
namespace Go.Proofs.YtpkdiciinhjfjaaDoor
open Go.ChangeShapes Go.WideShapes Go.ChangeAt Go.RowKit Mth Go.Joins Go.Deep

theorem laidOut : laidOutB Tryd.prog = true := by kernel_rfl
/-- an argument reads behind the call as it read before -/
theorem arg_stays {H : Type} {enc : TypeId × Value → H} {t : TypeId} (hr : Tryd.prog.readableRec t = true) (hrow : t < Tryd.prog.types.size) {W W' : World} {v : Value} {d : DataW H} {p : List MemPlace}
    (h : DataW.Trod enc Tryd.prog W 0 (fun _ => true) true t v d p) (hb : Below W.heap.size W W') (hlt : ∀ x ∈ p, x.block < W.heap.size) : DataW.Trod enc Tryd.prog W' 0 (fun b => decide (b < W.heap.size)) true t v d p :=
  Below.trod laidOut hr hrow h hb hlt
theorem bulk_at {H : Type} (n : Nat) (D : Nat → DataW H) (j : Nat) (hj : j < n) : Rows.uptoBulk (D j) ≤ Rows.uptoBulkAll ((List.range n).map D) := bulk_mem (List.mem_map.2 ⟨j, List.mem_range.2 hj, rfl⟩)
theorem bulk_many' {H : Type} (n : Nat) (D : Nat → DataW H) (h : ∀ j, j < n → 1 ≤ Rows.uptoBulk (D j)) : n ≤ Rows.uptoBulkAll ((List.range n).map D) := by
  have key : ∀ l : List Nat, (∀ j ∈ l, j < n) → l.length ≤ Rows.uptoBulkAll (l.map D) := by
    intro l
    induction l with
    | nil => exact fun _ => Nat.zero_le _
    | cons x r ih =>
      intro hl
      simp only [List.map_cons, Rows.uptoBulkAll, List.length_cons]
      have := h x (hl x (by simp))
      have := ih (fun j hj => hl j (by simp [hj]))
      omega
  have := key (List.range n) (fun j hj => List.mem_range.1 hj)
  rwa [List.length_range] at this
theorem bulk_pos {H : Type} (d : DataW H) : 1 ≤ Rows.uptoBulk d := by
  cases d with
  | lit l => cases l <;> simp [Rows.uptoBulk]
  | _ => simp [Rows.uptoBulk]
theorem bulk_many6 {H : Type} (n : Nat) (D : Nat → DataW H) (h : ∀ j, j < n → 6 ≤ Rows.uptoBulk (D j)) : 6 * n ≤ Rows.uptoBulkAll ((List.range n).map D) := by
  have key : ∀ l : List Nat, (∀ j ∈ l, j < n) → 6 * l.length ≤ Rows.uptoBulkAll (l.map D) := by
    intro l
    induction l with
    | nil => exact fun _ => Nat.zero_le _
    | cons x r ih =>
      intro hl
      simp only [List.map_cons, Rows.uptoBulkAll, List.length_cons]
      have := h x (hl x (by simp))
      have := ih (fun j hj => hl j (by simp [hj]))
      omega
  have := key (List.range n) (fun j hj => List.mem_range.1 hj)
  rwa [List.length_range] at this
theorem cells_tok : Tryd.prog.cellsOf 34 = 5 := by kernel_rfl
set_option maxRecDepth 100000 in
/-- a token's cells -/
theorem tok_cells {H : Type} {enc : TypeId × Value → H} {W : World} {n : Nat} {cs : List Value} {y : DataW H × List MemPlace}
    (hf : DataW.trod enc Tryd.prog W 0 (fun _ => true) true n 34 cs = some y) : ∃ x : Tk, cs = tkCells x ∧ x.t.size + 6 ≤ Rows.uptoBulk y.1 := by
  obtain ⟨xs, m, _, rfl, hl, hlen, hfs⟩ := DataW.trod_struct Tryd.underlying34 hf
  rw [cells_tok] at hl
  match xs, hlen with
  | [y0, y1, y2, y3, y4], _ =>
    match cs, hl with
    | [u0, u1, u2, u3, u4], _ =>
      have h0 := hfs 0 _ rfl
      have h1 := hfs 1 _ rfl
      have h2 := hfs 2 _ rfl
      have h3 := hfs 3 _ rfl
      have h4 := hfs 4 _ rfl
      have e0 : ([u0, u1, u2, u3, u4].drop 0).take (Tryd.prog.cellsOf 32) = [u0] := by rw [show Tryd.prog.cellsOf 32 = 1 by kernel_rfl]; rfl
      have e1 : ([u0, u1, u2, u3, u4].drop 1).take (Tryd.prog.cellsOf 9) = [u1] := by rw [show Tryd.prog.cellsOf 9 = 1 by kernel_rfl]; rfl
      have e2 : ([u0, u1, u2, u3, u4].drop 2).take (Tryd.prog.cellsOf 4) = [u2] := by rw [show Tryd.prog.cellsOf 4 = 1 by kernel_rfl]; rfl
      have e3 : ([u0, u1, u2, u3, u4].drop 3).take (Tryd.prog.cellsOf 3) = [u3] := by rw [show Tryd.prog.cellsOf 3 = 1 by kernel_rfl]; rfl
      have e4 : ([u0, u1, u2, u3, u4].drop 4).take (Tryd.prog.cellsOf 3) = [u4] := by rw [show Tryd.prog.cellsOf 3 = 1 by kernel_rfl]; rfl
      have t0 : DataW.trod enc Tryd.prog W 0 (fun _ => true) true m 32 [u0] = some y0 := by rw [← e0]; exact h0
      have t1 : DataW.trod enc Tryd.prog W 0 (fun _ => true) true m 9 [u1] = some y1 := by rw [← e1]; exact h1
      have t2 : DataW.trod enc Tryd.prog W 0 (fun _ => true) true m 4 [u2] = some y2 := by rw [← e2]; exact h2
      have t3 : DataW.trod enc Tryd.prog W 0 (fun _ => true) true m 3 [u3] = some y3 := by rw [← e3]; exact h3
      have t4 : DataW.trod enc Tryd.prog W 0 (fun _ => true) true m 3 [u4] = some y4 := by rw [← e4]; exact h4
      obtain ⟨k, hk, _⟩ := DataW.trod_int Tryd.underlying32 t0
      obtain ⟨s, hs, hy1, _⟩ := DataW.trod_string Tryd.underlying9 t1
      obtain ⟨b, hb, _⟩ := DataW.trod_bool Tryd.underlying4 t2
      obtain ⟨l, hl', _⟩ := DataW.trod_int Tryd.underlying3 t3
      obtain ⟨c, hc', _⟩ := DataW.trod_int Tryd.underlying3 t4
      injection hk with hk _; injection hs with hs _; injection hb with hb _; injection hl' with hl' _; injection hc' with hc' _
      subst hk hs hb hl' hc'
      refine ⟨⟨k, s, b, l, c⟩, rfl, ?_⟩
      simp only [List.map_cons, Rows.uptoBulk, Rows.uptoBulkAll, hy1]
      show s.size + 6 ≤ _
      have := len_data s
      have p0 := bulk_pos y0.1; have p2 := bulk_pos y2.1; have p3 := bulk_pos y3.1; have p4 := bulk_pos y4.1
      omega
set_option maxRecDepth 100000 in
theorem toks_argB {H : Type} {enc : TypeId × Value → H} {W : World} {base : Nat} {v : Value} {d : DataW H} {p : List MemPlace} (B : Nat) (hval : Value.okWide Tryd.prog W .any base 38 v)
    (h : DataW.Trod enc Tryd.prog W 0 (fun _ => true) true 38 v d p) (hk : Rows.uptoBulk d ≤ B) : ∃ L : List Tk, TkL W v L ∧ 6 * L.length ≤ B ∧ ∀ x ∈ L, x.t.size ≤ B := by
  obtain ⟨a0, len, cap, rfl⟩ := okWide_slice Tryd.underlying38 hval
  obtain ⟨fuel, hf⟩ := h
  rcases open_slice Tryd.underlying38 hf with ⟨hcs, _⟩ | ⟨a, len', cap', m, n, D, Pl, hcs, _, hl, hm, hmm, hx, hi⟩
  · simp [Value.cells] at hcs
    obtain ⟨rfl, rfl, rfl⟩ := hcs
    exact ⟨[], TkL.nil W, by simp, fun x hx => by simp at hx⟩
  · simp [Value.cells] at hcs
    obtain ⟨rfl, rfl, rfl⟩ := hcs
    simp only [Prod.mk.injEq] at hx
    obtain ⟨rfl, rfl⟩ := hx
    simp only [if_true] at hmm
    simp only [Rows.uptoBulk] at hk
    have part : ∀ i, ∃ x : Tk, i < cap → (∀ j u, (tkCells x)[j]? = some u → W.cell? ((a.add (i * 5)).add j) = some u) ∧ x.t.size + 6 ≤ Rows.uptoBulk (D i) := by
      intro i
      by_cases hic : i < cap
      · obtain ⟨cs', hc, ht⟩ := hi i (by omega)
        rw [cells_tok] at hc
        obtain ⟨_, hcl, hat⟩ := World.cells?_some hc
        obtain ⟨x, hx, hb⟩ := tok_cells ht
        refine ⟨x, fun _ => ⟨fun j u hu => ?_, hb⟩⟩
        have hj : j < cs'.length := by rw [hx]; exact (List.getElem?_eq_some_iff.1 hu).1
        have := hat j (by omega)
        subst hx
        rw [this]
        exact hu
      · exact ⟨⟨0, ⟨#[]⟩, false, 0, 0⟩, fun h => absurd h hic⟩
    have hbulk : ∀ j, j < len → 6 ≤ Rows.uptoBulk (D j) := fun j hj => by
      have := (Classical.choose_spec (part j) (by omega)).2; omega
    have hlen : 6 * len ≤ B := by
      have := bulk_many6 len D hbulk
      omega
    let X : Nat → Tk := fun i => Classical.choose (part i)
    have hX : ∀ i, i < cap → (∀ j u, (tkCells (X i))[j]? = some u → W.cell? ((a.add (i * 5)).add j) = some u) ∧ (X i).t.size + 6 ≤ Rows.uptoBulk (D i) := fun i hi => Classical.choose_spec (part i) hi
    refine ⟨(List.range len).map X, ?_, by simp; omega, fun x hx => ?_⟩
    · refine ⟨some a, cap, by simp, fun hne => ?_⟩
      have h0 : 0 < len := by
        rcases Nat.eq_zero_or_pos len with h | h
        · subst h; simp at hne
        · exact h
      have c0 := (hX 0 (by omega)).1 0 _ rfl
      have hspot : a.spot = none := by simpa [Addr.add] using World.cell?_spot c0
      obtain ⟨bb, off, spot⟩ := a
      subst hspot
      refine ⟨bb, off, rfl, ?_, fun j x hj => ?_⟩
      · exact World.block_lt_of_cell? W _ c0
      · have hjl := (List.getElem?_eq_some_iff.1 hj).1
        rw [tks_len, List.length_map, List.length_range] at hjl
        have hq : j / 5 < len := by omega
        have hXq : ((List.range len).map X)[j / 5]? = some (X (j / 5)) := by simp [hq]
        have h5 : j % 5 < (tkCells (X (j / 5))).length := by show j % 5 < 5; omega
        have hg := tks_get _ (j / 5) _ hXq (j % 5) _ (List.getElem?_eq_getElem h5)
        rw [show 5 * (j / 5) + j % 5 = j by omega] at hg
        rw [hg] at hj
        have hxe := Option.some.inj hj
        have := (hX (j / 5) (by omega)).1 (j % 5) _ (List.getElem?_eq_getElem h5)
        rw [Addr.add_lit, Addr.add_lit] at this
        rw [show off + j / 5 * 5 + j % 5 = off + j by omega] at this
        rw [this, hxe]
    · obtain ⟨i, hi1, rfl⟩ := List.mem_map.1 hx
      have hil := List.mem_range.1 hi1
      have h1 := (hX i (by omega)).2
      have h2 := bulk_at len D i hil
      omega
set_option maxRecDepth 100000 in
theorem toks_arg {H : Type} {enc : TypeId × Value → H} {W : World} {base : Nat} {v : Value} {d : DataW H} {p : List MemPlace} (hval : Value.okWide Tryd.prog W .any base 38 v)
    (h : DataW.Trod enc Tryd.prog W 0 (fun _ => true) true 38 v d p) (hk : Rows.uptoBulk d ≤ 1048576) : ∃ L : List Tk, TkL W v L ∧ L.length ≤ 1048576 ∧ ∀ x ∈ L, x.t.size ≤ 1048576 := by
  obtain ⟨L, h1, h2, h3⟩ := toks_argB 1048576 hval h hk
  exact ⟨L, h1, by omega, h3⟩
end Go.Proofs.YtpkdiciinhjfjaaDoor
