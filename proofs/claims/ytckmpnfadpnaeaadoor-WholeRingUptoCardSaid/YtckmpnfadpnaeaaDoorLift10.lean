/- The table of powers of ten, from the row's own list. -/
import Derived.Test.YtckmpnfadpnaeaaDoorLift
import Derived.Test.YtckmpnfadpnaeaaDoorTX
set_option linter.unusedVariables false
set_option linter.unusedSimpArgs false
namespace Go.Proofs.YtckmpnfadpnaeaaDoor
open Go.ChangeShapes Go.WideShapes Go.ChangeAt Go.RowKit Mth

theorem cells_tab10 : Tryd.prog.cellsOf 167 = 20 := by kernel_rfl
theorem g_pow10_type : (Tryd.prog.globals[2]?).map (·.type) = some 167 := by kernel_rfl
theorem tab10_data : (Rows.laid_internal_strconv_uint64pow10 : DataW Unit) = Lib.tabData .u64 Lib.pow10Tab := by kernel_rfl
theorem pow10_of_laid {W : World} (h : laidMetH Tryd.prog tables W) : TZ10 W := by
  have h' : laidMet Tryd.prog tables W := h
  obtain ⟨ps, ⟨g0, t0, cs0, f0, p0, q0, hg0, ht0, hv0, hd0, ⟨g1, t1, cs1, f1, p1, q1, hg1, ht1, hv1, hd1, ⟨g2, t2, cs2, f2, p2, q2, hg2, ht2, hv2, hd2, _⟩, _⟩, _⟩, _⟩ := h'
  obtain rfl := Option.some.inj (g_pow10.symm.trans hg2)
  obtain rfl := Option.some.inj (g_pow10_type.symm.trans ht2)
  rw [tab10_data] at hd2
  unfold TZ10 Lib.TabIs
  rw [hv2, ← Lib.cells_of_tab Tryd.underlying167 Tryd.underlying65 cells_u64 cells_tab10 hd2]
end Go.Proofs.YtckmpnfadpnaeaaDoor
