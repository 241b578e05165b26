/- WholePrints: the law's own walk. -/
import Derived.Test.YtckmpnfadpnaeaaDoorYP
import Derived.Test.YtckmpnfadpnaeaaDoorZT
import Derived.Test.YtckmpnfadpnaeaaDoorZU
set_option linter.unusedVariables false
set_option linter.unusedSimpArgs false
namespace Go.Proofs.YtckmpnfadpnaeaaDoor
open Go.RowKit Mth

set_option maxHeartbeats 16000000 in
set_option maxRecDepth 100000 in
theorem prints_walk (w : World) (v0 : Value) (x : Int) (hz : TZ10 w) (h0 : IntV w v0 x) :
    Calls Tryd.prog 6 #[v0] w fun e w' => e = .returned (.bool true) ∧ Below w.heap.size w w' := by
  have HZ := Lib.hid hz
  obtain ⟨n0, a0, k0, c0, rfl⟩ := h0.shape
  have IA_0 := Lib.hid h0
  clear hz h0
  go_enter Tryd.func6, Tryd.ntmps6
  have B_0 := Lib.hid (Below.refl w.heap.size w)
  obtain ⟨V_1, eV, hV0, belV, hszV⟩ := alloc1 w (Obj.cells #[Value.bool n0, Value.slice a0 k0 c0] 25)
  have IA_2 := Lib.hid (IA_0.out.below belV)
  have B_2 := Lib.hid (below_of B_0.out belV)
  clear IA_0 B_0
  have GA_2 : Hid (V_1.heap[w.heap.size]? = some (Obj.cells #[Value.bool n0, Value.slice a0 k0 c0] 25)) := Lib.hid hV0
  clear belV hszV hV0
  obtain ⟨cA0, cA1, dA0, dA1, eA⟩ := blk2 GA_2.out
  go_wp2_with fail
  clear eV
  refine (printI_any _ x _ IA_2.out (HZ.out.below B_2.out)).mono ?_
  rintro e w_3 ⟨rfl, hb⟩
  clear cA0 cA1 dA0 dA1 eA
  have GA_3 := Lib.hid (blk_below' hb GA_2.out)
  have IA_3 := Lib.hid (IA_2.out.below hb)
  have B_3 := Lib.hid (below_of B_2.out hb)
  clear GA_2 IA_2 B_2
  clear hb 
  obtain ⟨cA0, cA1, dA0, dA1, eA⟩ := blk2 GA_3.out
  go_wp2_with fail
  refine (rprint_any _ x _ IA_3.out).mono ?_
  rintro e w_4 ⟨rfl, hb⟩
  clear cA0 cA1 dA0 dA1 eA
  have GA_4 := Lib.hid (blk_below' hb GA_3.out)
  have IA_4 := Lib.hid (IA_3.out.below hb)
  have B_4 := Lib.hid (below_of B_3.out hb)
  clear GA_3 IA_3 B_3
  clear hb 
  have hss : ((⟨(toBytes (zS x)).toArray⟩ : ByteArray).toList == (⟨(toBytes (zS x)).toArray⟩ : ByteArray).toList) = true := beq_self_eq_true _
  go_wp2_with fail
  refine (awake_any _ (HZ.out.below B_4.out)).mono ?_
  rintro e w_5 ⟨rfl, hb⟩
  have GA_5 := Lib.hid (blk_below' hb GA_4.out)
  have IA_5 := Lib.hid (IA_4.out.below hb)
  have B_5 := Lib.hid (below_of B_4.out hb)
  clear GA_4 IA_4 B_4
  clear hb 
  go_wp2
  go_ret
  exact ⟨rfl, B_5.out⟩
end Go.Proofs.YtckmpnfadpnaeaaDoor
