/- From the row's reading of the arguments to the walks of package lexis: the tables that the rows list, the bound; the witness's world. -/
import Derived.Test.YtlgcmpiobglbbaaDoorLE
import Derived.Test.YtlgcmpiobglbbaaDoorShelf
import Derived.Test.YtlgcmpiobglbbaaDoorCards
import Derived.Test.YtlgcmpiobglbbaaDoorTie
import Derived.OpenShut
import Derived.Deep.DeepHandedRow
import Derived.LaidMore
import Derived.Lay
import Derived.Lib.SmallJoins
import Derived.Stop.Joined
set_option linter.unusedVariables false
set_option linter.unusedSimpArgs false
namespace Go.Proofs.YtlgcmpiobglbbaaDoor
open Go.ChangeShapes Go.WideShapes Go.ChangeAt Go.RowKit Mth

theorem own : ownKnob Tryd.prog.godebug = none := by kernel_rfl
/-- the tables that every row of this seat lists -/
def tables : List (String × DataW Unit) := [("unicode/utf8.acceptRanges", Rows.laid_unicode_utf8_acceptRanges), ("tribunal/lexis.simples", Rows.laid_tribunal_lexis_simples), ("unicode.CaseRanges", Rows.laid_unicode_CaseRanges), ("unicode/utf8.first", Rows.laid_unicode_utf8_first)]
theorem g_simples : Tryd.prog.globalNamed "tribunal/lexis.simples" = some 0 := by kernel_rfl
theorem g_simples_type : (Tryd.prog.globals[0]?).map (·.type) = some 72 := by kernel_rfl
theorem cells_bool : Tryd.prog.cellsOf 4 = 1 := by kernel_rfl
def simpleL : List Bool := (List.range 128).map bSimple
theorem simples_data : (Rows.laid_tribunal_lexis_simples : DataW Unit) = .agg (simpleL.map fun b => .lit (.bool b)) := by kernel_rfl
theorem simple_at (r : Nat) (hr : r < 128) : simpleL.getD r false = bSimple r := by
  unfold simpleL
  rw [List.getD_eq_getElem?_getD, List.getElem?_map, List.getElem?_range hr]; rfl
theorem stab_of {W : World} (h : laidMetH Tryd.prog tables W) : STab W := by
  rw [MakeChecks.laidMetH_plain _ _ _ (by kernel_rfl)] at h
  obtain ⟨ps, ⟨g0, t0, cs0, f0, p0, q0, hg0, ht0, hv0, hd0, ⟨g1, t1, cs1, f1, p1, q1, hg1, ht1, hv1, hd1, _⟩, _⟩, _, _⟩ := h
  obtain rfl := Option.some.inj (g_simples.symm.trans hg1)
  obtain rfl := Option.some.inj (g_simples_type.symm.trans ht1)
  intro r hr
  obtain ⟨xs, m, _, ex, _, hl, hel⟩ := DataW.trod_array Tryd.underlying72 hd1
  have hE := hel r hr
  rw [cells_bool, Nat.mul_one, List.getElem?_eq_getElem (by omega)] at hE
  obtain ⟨z, e1, e2⟩ := DataW.trod_bool Tryd.underlying4 hE
  have hlen : simpleL.length = 128 := by simp [simpleL]
  have e3 : (xs.map (·.1)) = simpleL.map fun b => (DataW.lit (.bool b) : DataW Unit) := by
    have := (Prod.mk.inj ex).1
    rw [simples_data] at this
    exact (DataW.agg.inj this).symm
  have e4 : (xs.map (·.1))[r]? = (simpleL.map fun b => (DataW.lit (.bool b) : DataW Unit))[r]? := by rw [e3]
  rw [List.getElem?_map, List.getElem?_map, List.getElem?_eq_getElem (by omega : r < xs.length), List.getElem?_eq_getElem (by omega : r < simpleL.length), e2] at e4
  have hz : z = bSimple r := by
    simp only [Option.map_some, Option.some.injEq, DataW.lit.injEq, Lit.bool.injEq] at e4
    rw [e4, ← simple_at r hr, List.getD_eq_getElem?_getD, List.getElem?_eq_getElem (by omega : r < simpleL.length)]; rfl
  rw [World.var?_cell hg1 hv1 r, ← hz]
  have : cs1.toList[r]? = some (.bool z) := by
    have h0 : ((cs1.toList.drop r).take 1)[0]? = some (.bool z) := by rw [e1]; rfl
    simpa using h0
  simpa using this
theorem lexw_of {W : World} (h : laidMetH Tryd.prog tables W) (hs : W.ShapedOpen Tryd.prog) : LexW W := ⟨stab_of h, Tryd.laysM144.s1_3 W hs⟩
theorem bulk_mem {H : Type} {d : DataW H} {ds : List (DataW H)} (h : d ∈ ds) : Rows.uptoBulk d ≤ Rows.uptoBulkAll ds := by
  induction ds with
  | nil => cases h
  | cons x r ih =>
    simp only [Rows.uptoBulkAll]
    rcases List.mem_cons.1 h with e | e
    · subst e; omega
    · have := ih e; omega
/-- the witness's world: the tables laid -/
noncomputable def layW (os : Os) : World := World.laidAll Tryd.prog os tables
theorem laid_all (os : Os) (args : Array Value) : laidMet Tryd.prog tables ((layW os).forCall (fun _ _ => 0) ⟨#[], args, []⟩).memory := laidMet_laidAll args (by kernel_rfl) (by kernel_rfl)
theorem laid_allH (os : Os) (args : Array Value) : laidMetH Tryd.prog tables ((layW os).forCall (fun _ _ => 0) ⟨#[], args, []⟩).memory := by
  rw [MakeChecks.laidMetH_plain _ _ _ (by kernel_rfl)]; exact laid_all os args
theorem witness_lay {H : Type} {enc : TypeId × Value → H} {os : Os} {f : FuncId} {fn : Func} {s : OpenSpec} {conds : List PathCond} {apart : Bool} {laid : List (String × DataW Unit)} (args : Array Value)
    (hsh : ((layW os).forCall (fun _ _ => 0) ⟨#[], args, []⟩).Shaped Tryd.prog)
    (hok : Input.okWideB Tryd.prog ((layW os).forCall (fun _ _ => 0) ⟨#[], args, []⟩) f ⟨#[], args, []⟩ = true)
    (hrow : s.preRow enc Tryd.prog fn conds apart laid ((layW os).forCall (fun _ _ => 0) ⟨#[], args, []⟩).memory args) :
    ∃ (w : World) (tape : Tape) (i : Input), w.os = os ∧ (w.forCall tape i).Shaped Tryd.prog ∧ i.vars = [] ∧ Input.okWide Tryd.prog (w.forCall tape i) .any w.heap.size f i ∧
      s.preRow enc Tryd.prog fn conds apart laid (w.forCall tape i).memory i.args ∧ ({} : Assume).holds Tryd.prog (lone (Frame.enter Tryd.prog f i.args .normal) [] (w.forCall tape i)) :=
  ⟨layW os, fun _ _ => 0, ⟨#[], args, []⟩, World.laidAll_os _ _ _, hsh, (Input.okWide_of_okWideB (base := 0) hok).1, (Input.okWide_of_okWideB hok).2, hrow, by
    simp only [Assume.holds]
    exact ⟨by simp, by simp, fun _ => Modest.zero, by simp, by simp⟩⟩
end Go.Proofs.YtlgcmpiobglbbaaDoor
