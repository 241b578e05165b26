/- WholeRing: the law's own walk. -/
import Derived.Test.YtckmpnfadpnaeaaDoorVA
set_option linter.unusedVariables false
set_option linter.unusedSimpArgs false
namespace Go.Proofs.YtckmpnfadpnaeaaDoor
open Go.RowKit Mth

theorem ring_bounds {x y z : Int} (hx : x.natAbs < ShN) (hy : y.natAbs < ShN) (hz : z.natAbs < ShN) : (x + y).natAbs < Big ∧ (y + x).natAbs < Big ∧ (x * y).natAbs < Big ∧ (y * x).natAbs < Big ∧ ((x + y) * z).natAbs < Big ∧ (x * z).natAbs < Big ∧ (y * z).natAbs < Big ∧ (x * z + y * z).natAbs < Big ∧ (x + y - y).natAbs < Big ∧ z.natAbs < Big ∧ x.natAbs < Big ∧ y.natAbs < Big := by
  have h1 := shn_big; have h2 := shn_le; have h3 := shn_pos
  have m : ∀ a b : Int, a.natAbs < ShN → b.natAbs < ShN → (a * b).natAbs ≤ ShN * ShN := fun a b ha hb => by
    rw [Int.natAbs_mul]; exact Nat.mul_le_mul (Nat.le_of_lt ha) (Nat.le_of_lt hb)
  have e : (x + y) * z = x * z + y * z := Int.add_mul x y z
  have m1 := m x y hx hy; have m2 := m y x hy hx; have m3 := m x z hx hz; have m4 := m y z hy hz
  rw [e]
  exact ⟨by omega, by omega, by omega, by omega, by omega, by omega, by omega, by omega, by omega, by omega, by omega, by omega⟩
theorem alloc_snd (w : World) (o o' : Obj) : ((w.alloc o).alloc o').heap[w.heap.size + 1]? = some o' := by
  have h := heap_alloc_new (w.alloc o) o'
  rwa [show (w.alloc o).heap.size = w.heap.size + 1 by simp] at h
/-- an answer in a new variable -/
def TBox (W wy : World) (s1 s2 : Value) (z : Int) : Prop := ∃ g n a k c, s1 = .pointer (some ⟨g, 0, none⟩) ∧ s2 = .int .i64 0 ∧ wy.heap[g]? = some (.cells #[.bool n, .slice a k c] 25 (0, 0)) ∧ IntR wy (.agg #[.bool n, .slice a k c]) z ∧ Below W.heap.size W wy
theorem blk_setz {w : World} {g : Nat} {a : Bool} {k c : Nat} {ao : Option Addr} (h : w.heap[g]? = some (.cells #[.bool false, .slice none 0 0] 25 (0, 0))) : ((w.setCell ⟨g, 0, none⟩ (.bool a)).setCell ⟨g, 1, none⟩ (.slice ao k c)).heap[g]? = some (.cells #[.bool a, .slice ao k c] 25 (0, 0)) := blk_set (blk_set h rfl) rfl
theorem blk_lt {w : World} {o x : Obj} {g : Nat} (hg : g < w.heap.size) (h : w.heap[g]? = some x) : (w.alloc o).heap[g]? = some x := blk_below (nuc_new w o) hg h
theorem intl_five {W : World} {g : Nat} {n0 n1 n2 n3 n4 : Bool} {a0 a1 a2 a3 a4 : Option Addr} {k0 c0 k1 c1 k2 c2 k3 c3 k4 c4 : Nat} {z0 z1 z2 z3 z4 : Int}
    (hg : W.heap[g]? = some (.cells #[.bool n0, .slice a0 k0 c0, .bool n1, .slice a1 k1 c1, .bool n2, .slice a2 k2 c2, .bool n3, .slice a3 k3 c3, .bool n4, .slice a4 k4 c4] 25 (0, 0)))
    (h0 : IntV W (.agg #[.bool n0, .slice a0 k0 c0]) z0) (h1 : IntV W (.agg #[.bool n1, .slice a1 k1 c1]) z1) (h2 : IntV W (.agg #[.bool n2, .slice a2 k2 c2]) z2) (h3 : IntV W (.agg #[.bool n3, .slice a3 k3 c3]) z3) (h4 : IntV W (.agg #[.bool n4, .slice a4 k4 c4]) z4) : IntL W (.slice (some ⟨g, 0, none⟩) 5 5) [z0, z1, z2, z3, z4] := by
  refine ⟨_, 5, rfl, Nat.le_refl _, by unfold maxLen; omega, by simp, (fun e => by cases e), fun _ => ⟨g, 0, rfl, (Array.getElem?_eq_some_iff.1 hg).1, fun j hj => ?_⟩⟩
  match j, hj with
  | 0, _ => exact ⟨n0, a0, k0, c0, by rw [cell_of_row _ _ _ _ _ (0, 0) hg]; rfl, by rw [cell_of_row _ _ _ _ _ (0, 0) hg]; rfl, h0⟩
  | 1, _ => exact ⟨n1, a1, k1, c1, by rw [cell_of_row _ _ _ _ _ (0, 0) hg]; rfl, by rw [cell_of_row _ _ _ _ _ (0, 0) hg]; rfl, h1⟩
  | 2, _ => exact ⟨n2, a2, k2, c2, by rw [cell_of_row _ _ _ _ _ (0, 0) hg]; rfl, by rw [cell_of_row _ _ _ _ _ (0, 0) hg]; rfl, h2⟩
  | 3, _ => exact ⟨n3, a3, k3, c3, by rw [cell_of_row _ _ _ _ _ (0, 0) hg]; rfl, by rw [cell_of_row _ _ _ _ _ (0, 0) hg]; rfl, h3⟩
  | 4, _ => exact ⟨n4, a4, k4, c4, by rw [cell_of_row _ _ _ _ _ (0, 0) hg]; rfl, by rw [cell_of_row _ _ _ _ _ (0, 0) hg]; rfl, h4⟩

set_option maxHeartbeats 16000000 in
set_option maxRecDepth 100000 in
theorem ring_walk (w : World) (v0 v1 v2 : Value) (x y z : Int) (hz : TZ10 w) (h0 : IntV w v0 x) (h1 : IntV w v1 y) (h2 : IntV w v2 z) :
    Calls Tryd.prog 8 #[v0, v1, v2] w fun e w' => e = .returned (.bool true) ∧ Below w.heap.size w w' := by
  have HZ := Lib.hid hz
  obtain ⟨n0, a0, k0, c0, rfl⟩ := h0.shape
  obtain ⟨n1, a1, k1, c1, rfl⟩ := h1.shape
  obtain ⟨n2, a2, k2, c2, rfl⟩ := h2.shape
  have IA_0 := Lib.hid h0; have IB_0 := Lib.hid h1; have IC_0 := Lib.hid h2
  clear hz h0 h1 h2
  go_enter Tryd.func8, Tryd.ntmps8
  have B_0 := Lib.hid (Below.refl w.heap.size w)
  obtain ⟨V_1, eV, hV0, hV1, hV2, belV, hszV⟩ := alloc3 w (Obj.cells #[Value.bool n0, Value.slice a0 k0 c0] 25) (Obj.cells #[Value.bool n1, Value.slice a1 k1 c1] 25) (Obj.cells #[Value.bool n2, Value.slice a2 k2 c2] 25)
  have IA_2 := Lib.hid (IA_0.out.below belV)
  have IB_2 := Lib.hid (IB_0.out.below belV)
  have IC_2 := Lib.hid (IC_0.out.below belV)
  have B_2 := Lib.hid (below_of B_0.out belV)
  clear IA_0 IB_0 IC_0 B_0
  have GA_2 : Hid (V_1.heap[w.heap.size]? = some (Obj.cells #[Value.bool n0, Value.slice a0 k0 c0] 25)) := Lib.hid hV0
  have GB_2 : Hid (V_1.heap[w.heap.size + 1]? = some (Obj.cells #[Value.bool n1, Value.slice a1 k1 c1] 25)) := Lib.hid hV1
  have GC_2 : Hid (V_1.heap[w.heap.size + 1 + 1]? = some (Obj.cells #[Value.bool n2, Value.slice a2 k2 c2] 25)) := Lib.hid hV2
  clear belV hszV hV0 hV1 hV2
  go_wp2_with fail
  clear eV
  refine (awake_any _ (HZ.out.below B_2.out)).mono ?_
  rintro e w_3 ⟨rfl, hb⟩
  have GA_3 := Lib.hid (blk_below' hb GA_2.out)
  have GB_3 := Lib.hid (blk_below' hb GB_2.out)
  have GC_3 := Lib.hid (blk_below' hb GC_2.out)
  have IA_3 := Lib.hid (IA_2.out.below hb)
  have IB_3 := Lib.hid (IB_2.out.below hb)
  have IC_3 := Lib.hid (IC_2.out.below hb)
  have B_3 := Lib.hid (below_of B_2.out hb)
  clear GA_2 GB_2 GC_2 IA_2 IB_2 IC_2 B_2
  clear hb 
  by_cases hk0 : k0 ≤ 1000
  rotate_left
  · have hd : decide ((k0 : Int) ≤ 1000) = false := decide_eq_false (by omega)
    obtain ⟨cA0, cA1, dA0, dA1, eA⟩ := blk2 GA_3.out
    go_wp2_with fail
    refine (shortF _ _ _ _ _ false hd).mono ?_
    rintro e w_4 ⟨rfl, hb⟩
    clear cA0 cA1 dA0 dA1 eA
    have GA_4 := Lib.hid (blk_below' hb GA_3.out)
    have GB_4 := Lib.hid (blk_below' hb GB_3.out)
    have GC_4 := Lib.hid (blk_below' hb GC_3.out)
    have IA_4 := Lib.hid (IA_3.out.below hb)
    have IB_4 := Lib.hid (IB_3.out.below hb)
    have IC_4 := Lib.hid (IC_3.out.below hb)
    have B_4 := Lib.hid (below_of B_3.out hb)
    clear GA_3 GB_3 GC_3 IA_3 IB_3 IC_3 B_3
    clear hb 
    clear hd
    go_wp2
    go_ret
    exact ⟨rfl, B_4.out⟩
  have hd0 : decide ((k0 : Int) ≤ 1000) = true := decide_eq_true (by omega)
  have SH0 := Lib.hid (IA_3.out.short hk0)
  obtain ⟨cA0, cA1, dA0, dA1, eA⟩ := blk2 GA_3.out
  go_wp2_with fail
  refine (shortF _ _ _ _ _ true hd0).mono ?_
  rintro e w_4 ⟨rfl, hb⟩
  clear cA0 cA1 dA0 dA1 eA
  have GA_4 := Lib.hid (blk_below' hb GA_3.out)
  have GB_4 := Lib.hid (blk_below' hb GB_3.out)
  have GC_4 := Lib.hid (blk_below' hb GC_3.out)
  have IA_4 := Lib.hid (IA_3.out.below hb)
  have IB_4 := Lib.hid (IB_3.out.below hb)
  have IC_4 := Lib.hid (IC_3.out.below hb)
  have B_4 := Lib.hid (below_of B_3.out hb)
  clear GA_3 GB_3 GC_3 IA_3 IB_3 IC_3 B_3
  clear hb 
  clear hd0 hk0
  by_cases hk1 : k1 ≤ 1000
  rotate_left
  · have hd : decide ((k1 : Int) ≤ 1000) = false := decide_eq_false (by omega)
    obtain ⟨cB0, cB1, dB0, dB1, eB⟩ := blk2 GB_4.out
    go_wp2_with fail
    refine (shortF _ _ _ _ _ false hd).mono ?_
    rintro e w_5 ⟨rfl, hb⟩
    clear cB0 cB1 dB0 dB1 eB
    have GA_5 := Lib.hid (blk_below' hb GA_4.out)
    have GB_5 := Lib.hid (blk_below' hb GB_4.out)
    have GC_5 := Lib.hid (blk_below' hb GC_4.out)
    have IA_5 := Lib.hid (IA_4.out.below hb)
    have IB_5 := Lib.hid (IB_4.out.below hb)
    have IC_5 := Lib.hid (IC_4.out.below hb)
    have B_5 := Lib.hid (below_of B_4.out hb)
    clear GA_4 GB_4 GC_4 IA_4 IB_4 IC_4 B_4
    clear hb 
    clear hd
    go_wp2
    go_ret
    exact ⟨rfl, B_5.out⟩
  have hd1 : decide ((k1 : Int) ≤ 1000) = true := decide_eq_true (by omega)
  have SH1 := Lib.hid (IB_4.out.short hk1)
  obtain ⟨cB0, cB1, dB0, dB1, eB⟩ := blk2 GB_4.out
  go_wp2_with fail
  refine (shortF _ _ _ _ _ true hd1).mono ?_
  rintro e w_5 ⟨rfl, hb⟩
  clear cB0 cB1 dB0 dB1 eB
  have GA_5 := Lib.hid (blk_below' hb GA_4.out)
  have GB_5 := Lib.hid (blk_below' hb GB_4.out)
  have GC_5 := Lib.hid (blk_below' hb GC_4.out)
  have IA_5 := Lib.hid (IA_4.out.below hb)
  have IB_5 := Lib.hid (IB_4.out.below hb)
  have IC_5 := Lib.hid (IC_4.out.below hb)
  have B_5 := Lib.hid (below_of B_4.out hb)
  clear GA_4 GB_4 GC_4 IA_4 IB_4 IC_4 B_4
  clear hb 
  clear hd1 hk1
  by_cases hk2 : k2 ≤ 1000
  rotate_left
  · have hd : decide ((k2 : Int) ≤ 1000) = false := decide_eq_false (by omega)
    obtain ⟨cC0, cC1, dC0, dC1, eC⟩ := blk2 GC_5.out
    go_wp2_with fail
    refine (shortF _ _ _ _ _ false hd).mono ?_
    rintro e w_6 ⟨rfl, hb⟩
    clear cC0 cC1 dC0 dC1 eC
    have GA_6 := Lib.hid (blk_below' hb GA_5.out)
    have GB_6 := Lib.hid (blk_below' hb GB_5.out)
    have GC_6 := Lib.hid (blk_below' hb GC_5.out)
    have IA_6 := Lib.hid (IA_5.out.below hb)
    have IB_6 := Lib.hid (IB_5.out.below hb)
    have IC_6 := Lib.hid (IC_5.out.below hb)
    have B_6 := Lib.hid (below_of B_5.out hb)
    clear GA_5 GB_5 GC_5 IA_5 IB_5 IC_5 B_5
    clear hb 
    clear hd
    go_wp2
    go_ret
    exact ⟨rfl, B_6.out⟩
  have hd2 : decide ((k2 : Int) ≤ 1000) = true := decide_eq_true (by omega)
  have SH2 := Lib.hid (IC_5.out.short hk2)
  obtain ⟨cC0, cC1, dC0, dC1, eC⟩ := blk2 GC_5.out
  go_wp2_with fail
  refine (shortF _ _ _ _ _ true hd2).mono ?_
  rintro e w_6 ⟨rfl, hb⟩
  clear cC0 cC1 dC0 dC1 eC
  have GA_6 := Lib.hid (blk_below' hb GA_5.out)
  have GB_6 := Lib.hid (blk_below' hb GB_5.out)
  have GC_6 := Lib.hid (blk_below' hb GC_5.out)
  have IA_6 := Lib.hid (IA_5.out.below hb)
  have IB_6 := Lib.hid (IB_5.out.below hb)
  have IC_6 := Lib.hid (IC_5.out.below hb)
  have B_6 := Lib.hid (below_of B_5.out hb)
  clear GA_5 GB_5 GC_5 IA_5 IB_5 IC_5 B_5
  clear hb 
  clear hd2 hk2
  have RB := Lib.hid (ring_bounds SH0.out SH1.out SH2.out)
  clear SH0 SH1 SH2
  obtain ⟨cA0, cA1, dA0, dA1, eA⟩ := blk2 GA_6.out
  obtain ⟨cB0, cB1, dB0, dB1, eB⟩ := blk2 GB_6.out
  go_wp2_with fail
  refine (addF _ _ x y _ IA_6.out IB_6.out RB.out.1).mono ?_
  rintro e w_7 ⟨nX, aX, kX, cX, rfl, iX, hb⟩
  clear cA0 cA1 dA0 dA1 eA cB0 cB1 dB0 dB1 eB
  have GA_7 := Lib.hid (blk_below' hb GA_6.out)
  have GB_7 := Lib.hid (blk_below' hb GB_6.out)
  have GC_7 := Lib.hid (blk_below' hb GC_6.out)
  have IA_7 := Lib.hid (IA_6.out.below hb)
  have IB_7 := Lib.hid (IB_6.out.below hb)
  have IC_7 := Lib.hid (IC_6.out.below hb)
  have B_7 := Lib.hid (below_of B_6.out hb)
  clear GA_6 GB_6 GC_6 IA_6 IB_6 IC_6 B_6
  have JX_7 := Lib.hid iX
  clear hb iX
  obtain ⟨V_8, eV, hV0, belV, hszV⟩ := alloc1 w_7 (Obj.cells #[Value.bool nX, Value.slice aX kX cX] 25)
  have GA_9 := Lib.hid (blk_below' belV GA_7.out)
  have GB_9 := Lib.hid (blk_below' belV GB_7.out)
  have GC_9 := Lib.hid (blk_below' belV GC_7.out)
  have IA_9 := Lib.hid (IA_7.out.below belV)
  have IB_9 := Lib.hid (IB_7.out.below belV)
  have IC_9 := Lib.hid (IC_7.out.below belV)
  have JX_9 := Lib.hid (JX_7.out.below belV)
  have B_9 := Lib.hid (below_of B_7.out belV)
  clear GA_7 GB_7 GC_7 IA_7 IB_7 IC_7 JX_7 B_7
  have GX_9 : Hid (V_8.heap[w_7.heap.size]? = some (Obj.cells #[Value.bool nX, Value.slice aX kX cX] 25)) := Lib.hid hV0
  clear belV hszV hV0
  obtain ⟨cA0, cA1, dA0, dA1, eA⟩ := blk2 GA_9.out
  obtain ⟨cB0, cB1, dB0, dB1, eB⟩ := blk2 GB_9.out
  go_wp2_with fail
  clear eV
  refine (addF _ _ y x _ IB_9.out IA_9.out RB.out.2.1).mono ?_
  rintro e w_10 ⟨nY, aY, kY, cY, rfl, iY, hb⟩
  clear cA0 cA1 dA0 dA1 eA cB0 cB1 dB0 dB1 eB
  have GA_10 := Lib.hid (blk_below' hb GA_9.out)
  have GB_10 := Lib.hid (blk_below' hb GB_9.out)
  have GC_10 := Lib.hid (blk_below' hb GC_9.out)
  have GX_10 := Lib.hid (blk_below' hb GX_9.out)
  have IA_10 := Lib.hid (IA_9.out.below hb)
  have IB_10 := Lib.hid (IB_9.out.below hb)
  have IC_10 := Lib.hid (IC_9.out.below hb)
  have JX_10 := Lib.hid (JX_9.out.below hb)
  have B_10 := Lib.hid (below_of B_9.out hb)
  clear GA_9 GB_9 GC_9 GX_9 IA_9 IB_9 IC_9 JX_9 B_9
  have JY_10 := Lib.hid iY
  clear hb iY
  obtain ⟨V_11, eV, hV0, belV, hszV⟩ := alloc1 w_10 (Obj.cells #[Value.bool nY, Value.slice aY kY cY] 25)
  have GA_12 := Lib.hid (blk_below' belV GA_10.out)
  have GB_12 := Lib.hid (blk_below' belV GB_10.out)
  have GC_12 := Lib.hid (blk_below' belV GC_10.out)
  have GX_12 := Lib.hid (blk_below' belV GX_10.out)
  have IA_12 := Lib.hid (IA_10.out.below belV)
  have IB_12 := Lib.hid (IB_10.out.below belV)
  have IC_12 := Lib.hid (IC_10.out.below belV)
  have JX_12 := Lib.hid (JX_10.out.below belV)
  have JY_12 := Lib.hid (JY_10.out.below belV)
  have B_12 := Lib.hid (below_of B_10.out belV)
  clear GA_10 GB_10 GC_10 GX_10 IA_10 IB_10 IC_10 JX_10 JY_10 B_10
  have GY_12 : Hid (V_11.heap[w_10.heap.size]? = some (Obj.cells #[Value.bool nY, Value.slice aY kY cY] 25)) := Lib.hid hV0
  clear belV hszV hV0
  obtain ⟨cA0, cA1, dA0, dA1, eA⟩ := blk2 GA_12.out
  obtain ⟨cB0, cB1, dB0, dB1, eB⟩ := blk2 GB_12.out
  go_wp2_with fail
  clear eV
  refine (mulF _ _ x y _ IA_12.out IB_12.out RB.out.2.2.1).mono ?_
  rintro e w_13 ⟨nP, aP, kP, cP, rfl, iP, hb⟩
  clear cA0 cA1 dA0 dA1 eA cB0 cB1 dB0 dB1 eB
  have GA_13 := Lib.hid (blk_below' hb GA_12.out)
  have GB_13 := Lib.hid (blk_below' hb GB_12.out)
  have GC_13 := Lib.hid (blk_below' hb GC_12.out)
  have GX_13 := Lib.hid (blk_below' hb GX_12.out)
  have GY_13 := Lib.hid (blk_below' hb GY_12.out)
  have IA_13 := Lib.hid (IA_12.out.below hb)
  have IB_13 := Lib.hid (IB_12.out.below hb)
  have IC_13 := Lib.hid (IC_12.out.below hb)
  have JX_13 := Lib.hid (JX_12.out.below hb)
  have JY_13 := Lib.hid (JY_12.out.below hb)
  have B_13 := Lib.hid (below_of B_12.out hb)
  clear GA_12 GB_12 GC_12 GX_12 GY_12 IA_12 IB_12 IC_12 JX_12 JY_12 B_12
  have JP_13 := Lib.hid iP
  clear hb iP
  obtain ⟨V_14, eV, hV0, belV, hszV⟩ := alloc1 w_13 (Obj.cells #[Value.bool nP, Value.slice aP kP cP] 25)
  have GA_15 := Lib.hid (blk_below' belV GA_13.out)
  have GB_15 := Lib.hid (blk_below' belV GB_13.out)
  have GC_15 := Lib.hid (blk_below' belV GC_13.out)
  have GX_15 := Lib.hid (blk_below' belV GX_13.out)
  have GY_15 := Lib.hid (blk_below' belV GY_13.out)
  have IA_15 := Lib.hid (IA_13.out.below belV)
  have IB_15 := Lib.hid (IB_13.out.below belV)
  have IC_15 := Lib.hid (IC_13.out.below belV)
  have JX_15 := Lib.hid (JX_13.out.below belV)
  have JY_15 := Lib.hid (JY_13.out.below belV)
  have JP_15 := Lib.hid (JP_13.out.below belV)
  have B_15 := Lib.hid (below_of B_13.out belV)
  clear GA_13 GB_13 GC_13 GX_13 GY_13 IA_13 IB_13 IC_13 JX_13 JY_13 JP_13 B_13
  have GP_15 : Hid (V_14.heap[w_13.heap.size]? = some (Obj.cells #[Value.bool nP, Value.slice aP kP cP] 25)) := Lib.hid hV0
  clear belV hszV hV0
  obtain ⟨cA0, cA1, dA0, dA1, eA⟩ := blk2 GA_15.out
  obtain ⟨cB0, cB1, dB0, dB1, eB⟩ := blk2 GB_15.out
  go_wp2_with fail
  clear eV
  refine (mulF _ _ y x _ IB_15.out IA_15.out RB.out.2.2.2.1).mono ?_
  rintro e w_16 ⟨nQ, aQ, kQ, cQ, rfl, iQ, hb⟩
  clear cA0 cA1 dA0 dA1 eA cB0 cB1 dB0 dB1 eB
  have GA_16 := Lib.hid (blk_below' hb GA_15.out)
  have GB_16 := Lib.hid (blk_below' hb GB_15.out)
  have GC_16 := Lib.hid (blk_below' hb GC_15.out)
  have GX_16 := Lib.hid (blk_below' hb GX_15.out)
  have GY_16 := Lib.hid (blk_below' hb GY_15.out)
  have GP_16 := Lib.hid (blk_below' hb GP_15.out)
  have IA_16 := Lib.hid (IA_15.out.below hb)
  have IB_16 := Lib.hid (IB_15.out.below hb)
  have IC_16 := Lib.hid (IC_15.out.below hb)
  have JX_16 := Lib.hid (JX_15.out.below hb)
  have JY_16 := Lib.hid (JY_15.out.below hb)
  have JP_16 := Lib.hid (JP_15.out.below hb)
  have B_16 := Lib.hid (below_of B_15.out hb)
  clear GA_15 GB_15 GC_15 GX_15 GY_15 GP_15 IA_15 IB_15 IC_15 JX_15 JY_15 JP_15 B_15
  have JQ_16 := Lib.hid iQ
  clear hb iQ
  obtain ⟨V_17, eV, hV0, belV, hszV⟩ := alloc1 w_16 (Obj.cells #[Value.bool nQ, Value.slice aQ kQ cQ] 25)
  have GA_18 := Lib.hid (blk_below' belV GA_16.out)
  have GB_18 := Lib.hid (blk_below' belV GB_16.out)
  have GC_18 := Lib.hid (blk_below' belV GC_16.out)
  have GX_18 := Lib.hid (blk_below' belV GX_16.out)
  have GY_18 := Lib.hid (blk_below' belV GY_16.out)
  have GP_18 := Lib.hid (blk_below' belV GP_16.out)
  have IA_18 := Lib.hid (IA_16.out.below belV)
  have IB_18 := Lib.hid (IB_16.out.below belV)
  have IC_18 := Lib.hid (IC_16.out.below belV)
  have JX_18 := Lib.hid (JX_16.out.below belV)
  have JY_18 := Lib.hid (JY_16.out.below belV)
  have JP_18 := Lib.hid (JP_16.out.below belV)
  have JQ_18 := Lib.hid (JQ_16.out.below belV)
  have B_18 := Lib.hid (below_of B_16.out belV)
  clear GA_16 GB_16 GC_16 GX_16 GY_16 GP_16 IA_16 IB_16 IC_16 JX_16 JY_16 JP_16 JQ_16 B_16
  have GQ_18 : Hid (V_17.heap[w_16.heap.size]? = some (Obj.cells #[Value.bool nQ, Value.slice aQ kQ cQ] 25)) := Lib.hid hV0
  clear belV hszV hV0
  obtain ⟨cX0, cX1, dX0, dX1, eX⟩ := blk2 GX_18.out
  obtain ⟨cY0, cY1, dY0, dY1, eY⟩ := blk2 GY_18.out
  obtain ⟨cP0, cP1, dP0, dP1, eP⟩ := blk2 GP_18.out
  obtain ⟨cQ0, cQ1, dQ0, dQ1, eQ⟩ := blk2 GQ_18.out
  go_wp2_with fail
  clear eV
  refine (same_any _ _ (x + y) _ JX_18.out.1 (by have h := JY_18.out.1; rwa [Int.add_comm] at h)).mono ?_
  rintro e w_19 ⟨rfl, hb⟩
  clear cX0 cX1 dX0 dX1 eX cY0 cY1 dY0 dY1 eY cP0 cP1 dP0 dP1 eP cQ0 cQ1 dQ0 dQ1 eQ
  have GA_19 := Lib.hid (blk_below' hb GA_18.out)
  have GB_19 := Lib.hid (blk_below' hb GB_18.out)
  have GC_19 := Lib.hid (blk_below' hb GC_18.out)
  have GX_19 := Lib.hid (blk_below' hb GX_18.out)
  have GY_19 := Lib.hid (blk_below' hb GY_18.out)
  have GP_19 := Lib.hid (blk_below' hb GP_18.out)
  have GQ_19 := Lib.hid (blk_below' hb GQ_18.out)
  have IA_19 := Lib.hid (IA_18.out.below hb)
  have IB_19 := Lib.hid (IB_18.out.below hb)
  have IC_19 := Lib.hid (IC_18.out.below hb)
  have JX_19 := Lib.hid (JX_18.out.below hb)
  have JP_19 := Lib.hid (JP_18.out.below hb)
  have JQ_19 := Lib.hid (JQ_18.out.below hb)
  have B_19 := Lib.hid (below_of B_18.out hb)
  clear GA_18 GB_18 GC_18 GX_18 GY_18 GP_18 GQ_18 IA_18 IB_18 IC_18 JX_18 JY_18 JP_18 JQ_18 B_18
  clear hb 
  obtain ⟨cP0, cP1, dP0, dP1, eP⟩ := blk2 GP_19.out
  obtain ⟨cQ0, cQ1, dQ0, dQ1, eQ⟩ := blk2 GQ_19.out
  go_wp2_with fail
  refine (same_any _ _ (x * y) _ JP_19.out.1 (by have h := JQ_19.out.1; rwa [Int.mul_comm] at h)).mono ?_
  rintro e w_20 ⟨rfl, hb⟩
  clear cP0 cP1 dP0 dP1 eP cQ0 cQ1 dQ0 dQ1 eQ
  have GA_20 := Lib.hid (blk_below' hb GA_19.out)
  have GB_20 := Lib.hid (blk_below' hb GB_19.out)
  have GC_20 := Lib.hid (blk_below' hb GC_19.out)
  have GX_20 := Lib.hid (blk_below' hb GX_19.out)
  have IA_20 := Lib.hid (IA_19.out.below hb)
  have IB_20 := Lib.hid (IB_19.out.below hb)
  have IC_20 := Lib.hid (IC_19.out.below hb)
  have JX_20 := Lib.hid (JX_19.out.below hb)
  have B_20 := Lib.hid (below_of B_19.out hb)
  clear GA_19 GB_19 GC_19 GX_19 GY_19 GP_19 GQ_19 IA_19 IB_19 IC_19 JX_19 JP_19 JQ_19 B_19
  clear hb 
  obtain ⟨cX0, cX1, dX0, dX1, eX⟩ := blk2 GX_20.out
  obtain ⟨cC0, cC1, dC0, dC1, eC⟩ := blk2 GC_20.out
  go_wp2_with fail
  refine (mulF _ _ (x + y) z _ JX_20.out.2 IC_20.out RB.out.2.2.2.2.1).mono ?_
  rintro e w_21 ⟨nL, aL, kL, cL, rfl, iL, hb⟩
  clear cX0 cX1 dX0 dX1 eX cC0 cC1 dC0 dC1 eC
  have GA_21 := Lib.hid (blk_below' hb GA_20.out)
  have GB_21 := Lib.hid (blk_below' hb GB_20.out)
  have GC_21 := Lib.hid (blk_below' hb GC_20.out)
  have GX_21 := Lib.hid (blk_below' hb GX_20.out)
  have IA_21 := Lib.hid (IA_20.out.below hb)
  have IB_21 := Lib.hid (IB_20.out.below hb)
  have IC_21 := Lib.hid (IC_20.out.below hb)
  have JX_21 := Lib.hid (JX_20.out.below hb)
  have B_21 := Lib.hid (below_of B_20.out hb)
  clear GA_20 GB_20 GC_20 GX_20 IA_20 IB_20 IC_20 JX_20 B_20
  have JL_21 := Lib.hid iL
  clear hb iL
  obtain ⟨V_22, eV, hV0, belV, hszV⟩ := alloc1 w_21 (Obj.cells #[Value.bool nL, Value.slice aL kL cL] 25)
  have GA_23 := Lib.hid (blk_below' belV GA_21.out)
  have GB_23 := Lib.hid (blk_below' belV GB_21.out)
  have GC_23 := Lib.hid (blk_below' belV GC_21.out)
  have GX_23 := Lib.hid (blk_below' belV GX_21.out)
  have IA_23 := Lib.hid (IA_21.out.below belV)
  have IB_23 := Lib.hid (IB_21.out.below belV)
  have IC_23 := Lib.hid (IC_21.out.below belV)
  have JX_23 := Lib.hid (JX_21.out.below belV)
  have JL_23 := Lib.hid (JL_21.out.below belV)
  have B_23 := Lib.hid (below_of B_21.out belV)
  clear GA_21 GB_21 GC_21 GX_21 IA_21 IB_21 IC_21 JX_21 JL_21 B_21
  have GL_23 : Hid (V_22.heap[w_21.heap.size]? = some (Obj.cells #[Value.bool nL, Value.slice aL kL cL] 25)) := Lib.hid hV0
  clear belV hszV hV0
  obtain ⟨cA0, cA1, dA0, dA1, eA⟩ := blk2 GA_23.out
  obtain ⟨cC0, cC1, dC0, dC1, eC⟩ := blk2 GC_23.out
  go_wp2_with fail
  clear eV
  refine (mulF _ _ x z _ IA_23.out IC_23.out RB.out.2.2.2.2.2.1).mono ?_
  rintro e w_24 ⟨nM, aM, kM, cM, rfl, iM, hb⟩
  clear cA0 cA1 dA0 dA1 eA cC0 cC1 dC0 dC1 eC
  have GA_24 := Lib.hid (blk_below' hb GA_23.out)
  have GB_24 := Lib.hid (blk_below' hb GB_23.out)
  have GC_24 := Lib.hid (blk_below' hb GC_23.out)
  have GX_24 := Lib.hid (blk_below' hb GX_23.out)
  have GL_24 := Lib.hid (blk_below' hb GL_23.out)
  have IA_24 := Lib.hid (IA_23.out.below hb)
  have IB_24 := Lib.hid (IB_23.out.below hb)
  have IC_24 := Lib.hid (IC_23.out.below hb)
  have JX_24 := Lib.hid (JX_23.out.below hb)
  have JL_24 := Lib.hid (JL_23.out.below hb)
  have B_24 := Lib.hid (below_of B_23.out hb)
  clear GA_23 GB_23 GC_23 GX_23 GL_23 IA_23 IB_23 IC_23 JX_23 JL_23 B_23
  have JM_24 := Lib.hid iM
  clear hb iM
  obtain ⟨V_25, eV, hV0, belV, hszV⟩ := alloc1 w_24 (Obj.cells #[Value.bool nM, Value.slice aM kM cM] 25)
  have GA_26 := Lib.hid (blk_below' belV GA_24.out)
  have GB_26 := Lib.hid (blk_below' belV GB_24.out)
  have GC_26 := Lib.hid (blk_below' belV GC_24.out)
  have GX_26 := Lib.hid (blk_below' belV GX_24.out)
  have GL_26 := Lib.hid (blk_below' belV GL_24.out)
  have IA_26 := Lib.hid (IA_24.out.below belV)
  have IB_26 := Lib.hid (IB_24.out.below belV)
  have IC_26 := Lib.hid (IC_24.out.below belV)
  have JX_26 := Lib.hid (JX_24.out.below belV)
  have JL_26 := Lib.hid (JL_24.out.below belV)
  have JM_26 := Lib.hid (JM_24.out.below belV)
  have B_26 := Lib.hid (below_of B_24.out belV)
  clear GA_24 GB_24 GC_24 GX_24 GL_24 IA_24 IB_24 IC_24 JX_24 JL_24 JM_24 B_24
  have GM_26 : Hid (V_25.heap[w_24.heap.size]? = some (Obj.cells #[Value.bool nM, Value.slice aM kM cM] 25)) := Lib.hid hV0
  clear belV hszV hV0
  obtain ⟨cB0, cB1, dB0, dB1, eB⟩ := blk2 GB_26.out
  obtain ⟨cC0, cC1, dC0, dC1, eC⟩ := blk2 GC_26.out
  go_wp2_with fail
  clear eV
  refine (mulF _ _ y z _ IB_26.out IC_26.out RB.out.2.2.2.2.2.2.1).mono ?_
  rintro e w_27 ⟨nN, aN, kN, cN, rfl, iN, hb⟩
  clear cB0 cB1 dB0 dB1 eB cC0 cC1 dC0 dC1 eC
  have GA_27 := Lib.hid (blk_below' hb GA_26.out)
  have GB_27 := Lib.hid (blk_below' hb GB_26.out)
  have GC_27 := Lib.hid (blk_below' hb GC_26.out)
  have GX_27 := Lib.hid (blk_below' hb GX_26.out)
  have GL_27 := Lib.hid (blk_below' hb GL_26.out)
  have GM_27 := Lib.hid (blk_below' hb GM_26.out)
  have IA_27 := Lib.hid (IA_26.out.below hb)
  have IB_27 := Lib.hid (IB_26.out.below hb)
  have IC_27 := Lib.hid (IC_26.out.below hb)
  have JX_27 := Lib.hid (JX_26.out.below hb)
  have JL_27 := Lib.hid (JL_26.out.below hb)
  have JM_27 := Lib.hid (JM_26.out.below hb)
  have B_27 := Lib.hid (below_of B_26.out hb)
  clear GA_26 GB_26 GC_26 GX_26 GL_26 GM_26 IA_26 IB_26 IC_26 JX_26 JL_26 JM_26 B_26
  have JN_27 := Lib.hid iN
  clear hb iN
  obtain ⟨V_28, eV, hV0, belV, hszV⟩ := alloc1 w_27 (Obj.cells #[Value.bool nN, Value.slice aN kN cN] 25)
  have GA_29 := Lib.hid (blk_below' belV GA_27.out)
  have GB_29 := Lib.hid (blk_below' belV GB_27.out)
  have GC_29 := Lib.hid (blk_below' belV GC_27.out)
  have GX_29 := Lib.hid (blk_below' belV GX_27.out)
  have GL_29 := Lib.hid (blk_below' belV GL_27.out)
  have GM_29 := Lib.hid (blk_below' belV GM_27.out)
  have IA_29 := Lib.hid (IA_27.out.below belV)
  have IB_29 := Lib.hid (IB_27.out.below belV)
  have IC_29 := Lib.hid (IC_27.out.below belV)
  have JX_29 := Lib.hid (JX_27.out.below belV)
  have JL_29 := Lib.hid (JL_27.out.below belV)
  have JM_29 := Lib.hid (JM_27.out.below belV)
  have JN_29 := Lib.hid (JN_27.out.below belV)
  have B_29 := Lib.hid (below_of B_27.out belV)
  clear GA_27 GB_27 GC_27 GX_27 GL_27 GM_27 IA_27 IB_27 IC_27 JX_27 JL_27 JM_27 JN_27 B_27
  have GN_29 : Hid (V_28.heap[w_27.heap.size]? = some (Obj.cells #[Value.bool nN, Value.slice aN kN cN] 25)) := Lib.hid hV0
  clear belV hszV hV0
  obtain ⟨cM0, cM1, dM0, dM1, eM⟩ := blk2 GM_29.out
  obtain ⟨cN0, cN1, dN0, dN1, eN⟩ := blk2 GN_29.out
  go_wp2_with fail
  clear eV
  refine (addF _ _ (x * z) (y * z) _ JM_29.out.2 JN_29.out.2 RB.out.2.2.2.2.2.2.2.1).mono ?_
  rintro e w_30 ⟨nO, aO, kO, cO, rfl, iO, hb⟩
  clear cM0 cM1 dM0 dM1 eM cN0 cN1 dN0 dN1 eN
  have GA_30 := Lib.hid (blk_below' hb GA_29.out)
  have GB_30 := Lib.hid (blk_below' hb GB_29.out)
  have GC_30 := Lib.hid (blk_below' hb GC_29.out)
  have GX_30 := Lib.hid (blk_below' hb GX_29.out)
  have GL_30 := Lib.hid (blk_below' hb GL_29.out)
  have GM_30 := Lib.hid (blk_below' hb GM_29.out)
  have GN_30 := Lib.hid (blk_below' hb GN_29.out)
  have IA_30 := Lib.hid (IA_29.out.below hb)
  have IB_30 := Lib.hid (IB_29.out.below hb)
  have IC_30 := Lib.hid (IC_29.out.below hb)
  have JX_30 := Lib.hid (JX_29.out.below hb)
  have JL_30 := Lib.hid (JL_29.out.below hb)
  have JM_30 := Lib.hid (JM_29.out.below hb)
  have JN_30 := Lib.hid (JN_29.out.below hb)
  have B_30 := Lib.hid (below_of B_29.out hb)
  clear GA_29 GB_29 GC_29 GX_29 GL_29 GM_29 GN_29 IA_29 IB_29 IC_29 JX_29 JL_29 JM_29 JN_29 B_29
  have JO_30 := Lib.hid iO
  clear hb iO
  obtain ⟨V_31, eV, hV0, belV, hszV⟩ := alloc1 w_30 (Obj.cells #[Value.bool nO, Value.slice aO kO cO] 25)
  have GA_32 := Lib.hid (blk_below' belV GA_30.out)
  have GB_32 := Lib.hid (blk_below' belV GB_30.out)
  have GC_32 := Lib.hid (blk_below' belV GC_30.out)
  have GX_32 := Lib.hid (blk_below' belV GX_30.out)
  have GL_32 := Lib.hid (blk_below' belV GL_30.out)
  have GM_32 := Lib.hid (blk_below' belV GM_30.out)
  have GN_32 := Lib.hid (blk_below' belV GN_30.out)
  have IA_32 := Lib.hid (IA_30.out.below belV)
  have IB_32 := Lib.hid (IB_30.out.below belV)
  have IC_32 := Lib.hid (IC_30.out.below belV)
  have JX_32 := Lib.hid (JX_30.out.below belV)
  have JL_32 := Lib.hid (JL_30.out.below belV)
  have JM_32 := Lib.hid (JM_30.out.below belV)
  have JN_32 := Lib.hid (JN_30.out.below belV)
  have JO_32 := Lib.hid (JO_30.out.below belV)
  have B_32 := Lib.hid (below_of B_30.out belV)
  clear GA_30 GB_30 GC_30 GX_30 GL_30 GM_30 GN_30 IA_30 IB_30 IC_30 JX_30 JL_30 JM_30 JN_30 JO_30 B_30
  have GO_32 : Hid (V_31.heap[w_30.heap.size]? = some (Obj.cells #[Value.bool nO, Value.slice aO kO cO] 25)) := Lib.hid hV0
  clear belV hszV hV0
  obtain ⟨cX0, cX1, dX0, dX1, eX⟩ := blk2 GX_32.out
  obtain ⟨cB0, cB1, dB0, dB1, eB⟩ := blk2 GB_32.out
  go_wp2_with fail
  clear eV
  refine (subF _ _ (x + y) y _ JX_32.out.2 IB_32.out RB.out.2.2.2.2.2.2.2.2.1).mono ?_
  rintro e w_33 ⟨nZ, aZ, kZ, cZ, rfl, iZ, hb⟩
  clear cX0 cX1 dX0 dX1 eX cB0 cB1 dB0 dB1 eB
  have GA_33 := Lib.hid (blk_below' hb GA_32.out)
  have GB_33 := Lib.hid (blk_below' hb GB_32.out)
  have GC_33 := Lib.hid (blk_below' hb GC_32.out)
  have GX_33 := Lib.hid (blk_below' hb GX_32.out)
  have GL_33 := Lib.hid (blk_below' hb GL_32.out)
  have GM_33 := Lib.hid (blk_below' hb GM_32.out)
  have GN_33 := Lib.hid (blk_below' hb GN_32.out)
  have GO_33 := Lib.hid (blk_below' hb GO_32.out)
  have IA_33 := Lib.hid (IA_32.out.below hb)
  have IB_33 := Lib.hid (IB_32.out.below hb)
  have IC_33 := Lib.hid (IC_32.out.below hb)
  have JX_33 := Lib.hid (JX_32.out.below hb)
  have JL_33 := Lib.hid (JL_32.out.below hb)
  have JM_33 := Lib.hid (JM_32.out.below hb)
  have JN_33 := Lib.hid (JN_32.out.below hb)
  have JO_33 := Lib.hid (JO_32.out.below hb)
  have B_33 := Lib.hid (below_of B_32.out hb)
  clear GA_32 GB_32 GC_32 GX_32 GL_32 GM_32 GN_32 GO_32 IA_32 IB_32 IC_32 JX_32 JL_32 JM_32 JN_32 JO_32 B_32
  have JZ_33 := Lib.hid iZ
  clear hb iZ
  obtain ⟨V_34, eV, hV0, belV, hszV⟩ := alloc1 w_33 (Obj.cells #[Value.bool nZ, Value.slice aZ kZ cZ] 25)
  have GA_35 := Lib.hid (blk_below' belV GA_33.out)
  have GB_35 := Lib.hid (blk_below' belV GB_33.out)
  have GC_35 := Lib.hid (blk_below' belV GC_33.out)
  have GX_35 := Lib.hid (blk_below' belV GX_33.out)
  have GL_35 := Lib.hid (blk_below' belV GL_33.out)
  have GM_35 := Lib.hid (blk_below' belV GM_33.out)
  have GN_35 := Lib.hid (blk_below' belV GN_33.out)
  have GO_35 := Lib.hid (blk_below' belV GO_33.out)
  have IA_35 := Lib.hid (IA_33.out.below belV)
  have IB_35 := Lib.hid (IB_33.out.below belV)
  have IC_35 := Lib.hid (IC_33.out.below belV)
  have JX_35 := Lib.hid (JX_33.out.below belV)
  have JL_35 := Lib.hid (JL_33.out.below belV)
  have JM_35 := Lib.hid (JM_33.out.below belV)
  have JN_35 := Lib.hid (JN_33.out.below belV)
  have JO_35 := Lib.hid (JO_33.out.below belV)
  have JZ_35 := Lib.hid (JZ_33.out.below belV)
  have B_35 := Lib.hid (below_of B_33.out belV)
  clear GA_33 GB_33 GC_33 GX_33 GL_33 GM_33 GN_33 GO_33 IA_33 IB_33 IC_33 JX_33 JL_33 JM_33 JN_33 JO_33 JZ_33 B_33
  have GZ_35 : Hid (V_34.heap[w_33.heap.size]? = some (Obj.cells #[Value.bool nZ, Value.slice aZ kZ cZ] 25)) := Lib.hid hV0
  clear belV hszV hV0
  obtain ⟨cA0, cA1, dA0, dA1, eA⟩ := blk2 GA_35.out
  obtain ⟨cB0, cB1, dB0, dB1, eB⟩ := blk2 GB_35.out
  obtain ⟨cC0, cC1, dC0, dC1, eC⟩ := blk2 GC_35.out
  go_wp2_with fail
  clear eV
  have STAY : Hid (∀ w', Below V_34.heap.size V_34 w' → w'.cell? ⟨w.heap.size, 0, none⟩ = some (.bool n0) ∧ w'.cell? ⟨w.heap.size, 1, none⟩ = some (.slice a0 k0 c0) ∧ w'.cell? ⟨w.heap.size + 1, 0, none⟩ = some (.bool n1) ∧ w'.cell? ⟨w.heap.size + 1, 1, none⟩ = some (.slice a1 k1 c1) ∧ w'.cell? ⟨w.heap.size + 1 + 1, 0, none⟩ = some (.bool n2) ∧ w'.cell? ⟨w.heap.size + 1 + 1, 1, none⟩ = some (.slice a2 k2 c2) ∧ Below V_34.heap.size V_34 w' ∧ V_34.heap.size ≤ w'.heap.size) :=
    Lib.hid (fun w' h => ⟨cell_to h cA0 eA, cell_to h cA1 eA, cell_to h cB0 eB, cell_to h cB1 eB, cell_to h cC0 eC, cell_to h cC1 eC, h, h.size⟩)
  have hB0 := (Below.refl V_34.heap.size V_34).drew
  have SM : Hid ([x, y, z, -x, -y].sum = z) := Lib.hid (by simp; omega)
  have BZ : Hid (z.natAbs < Big) := Lib.hid RB.out.2.2.2.2.2.2.2.2.2.1
  have BX : Hid (x.natAbs < Big ∧ y.natAbs < Big) := Lib.hid RB.out.2.2.2.2.2.2.2.2.2.2
  clear cA0 cA1 dA0 dA1 cB0 cB1 dB0 dB1 cC0 cC1 dC0 dC1
  go_cut [21, 22] (fun s1 s2 wy => TBox V_34 wy s1 s2 z)
  case first =>
    clear GX_35 GL_35 GM_35 GN_35 GO_35 GZ_35 JX_35 JL_35 JM_35 JN_35 JO_35 JZ_35
    go_region_held3 (fun w' => w'.cell? ⟨w.heap.size, 0, none⟩ = some (.bool n0) ∧ w'.cell? ⟨w.heap.size, 1, none⟩ = some (.slice a0 k0 c0) ∧ w'.cell? ⟨w.heap.size + 1, 0, none⟩ = some (.bool n1) ∧ w'.cell? ⟨w.heap.size + 1, 1, none⟩ = some (.slice a1 k1 c1) ∧ w'.cell? ⟨w.heap.size + 1 + 1, 0, none⟩ = some (.bool n2) ∧ w'.cell? ⟨w.heap.size + 1 + 1, 1, none⟩ = some (.slice a2 k2 c2) ∧ Below V_34.heap.size V_34 w' ∧ V_34.heap.size ≤ w'.heap.size)
      ((try go_split_ands; refine STAY.out _ ?_; first | assumption | exact below_to (by assumption) (by assumption) | exact Below.alloc (by assumption) (by first | omega | (simp; done) | (simp; omega)) _ | exact Below.alloc (Below.alloc (by assumption) (by first | omega | (simp; done) | (simp; omega)) _) (by first | omega | (simp; done) | (simp; omega)) _ | exact Below.setCell (Below.setCell (by assumption) (by first | omega | (simp; done) | (simp; omega)) _) (by first | omega | (simp; done) | (simp; omega)) _ | exact Below.drew (Below.alloc (by assumption) (by first | omega | (simp; done) | (simp; omega)) _)))
      (first
      | (go_at_call 30; go_split_ands; first
        | ((with_reducible refine Calls.mono (negF (.agg #[.bool n0, .slice a0 k0 c0]) x _ ?_ BX.out.1) ?_); (exact IA_35.out.below (by assumption)); rintro e w4 ⟨q4n, q4a, q4k, q4c, rfl, iq4, hbx4⟩; have hkx4 := below_to hbx4 (by assumption); obtain ⟨hc4, hf4⟩ := bcell hbx4; have hz4 := hbx4.size; (first | (with_reducible have G4 := blk_below' hbx4 (heap_alloc_new _ (Obj.cells #[Value.bool false, Value.slice none 0 0] 25))) | skip))
        | ((with_reducible refine Calls.mono (negF (.agg #[.bool n1, .slice a1 k1 c1]) y _ ?_ BX.out.2) ?_); (exact IB_35.out.below (by assumption)); rintro e w5 ⟨q5n, q5a, q5k, q5c, rfl, iq5, hbx5⟩; have hkx5 := below_to hbx5 (by assumption); obtain ⟨hc5, hf5⟩ := bcell hbx5; have hz5 := hbx5.size; (first | (with_reducible have G5 := blk_below' hbx5 (heap_alloc_new _ (Obj.cells #[Value.bool false, Value.slice none 0 0] 25))) | (with_reducible have G5 := blk_below' hbx5 G4) | skip)))
      | (go_at_call 16; go_split_ands; have iq4' : IntR w5 (.agg #[.bool q4n, .slice q4a q4k q4c]) (-x) := (by first | exact iq4.below hbx5 | exact (iq4.below (nuc_new _ _)).below hbx5); (with_reducible refine Calls.mono (sumI_any _ [x, y, z, -x, -y] _ ?_) ?_); (first | refine intl_five (heap_alloc_new _ _) ?_ ?_ ?_ ?_ ?_ | refine intl_five (blk_below' (nuc_new _ _) (heap_alloc_new _ _)) ?_ ?_ ?_ ?_ ?_ | refine intl_five (alloc_snd _ _ _) ?_ ?_ ?_ ?_ ?_); (exact IA_35.out.below (by assumption)); (exact IB_35.out.below (by assumption)); (exact IC_35.out.below (by assumption)); (first | exact (iq4'.below (nuc_new _ _)).2 | exact ((iq4'.below (nuc_new _ _)).below (nuc_new _ _)).2); (first | exact (iq5.below (nuc_new _ _)).2 | exact ((iq5.below (nuc_new _ _)).below (nuc_new _ _)).2); rintro e w6 ⟨v6, rfl, i6, hbx6⟩; have hkx6 := below_to hbx6 (by assumption); obtain ⟨n6, a6, k6, c6, rfl⟩ := i6.shape; obtain ⟨hc6, hf6⟩ := bcell hbx6; have hz6 := hbx6.size; (first | (with_reducible have g6 := blk2 (blk_below' hbx6 (alloc_snd _ _ _)); obtain ⟨e60, e61, e62, e63, e64⟩ := g6) | (with_reducible have g6 := blk2 (blk_below' hbx6 (blk_below' (nuc_new _ _) (heap_alloc_new _ _))); obtain ⟨e60, e61, e62, e63, e64⟩ := g6) | (with_reducible have g6 := blk2 (blk_below' hbx6 (blk_below' (nuc_new _ _) G5)); obtain ⟨e60, e61, e62, e63, e64⟩ := g6) | skip)))
    all_goals
      (go_wp2_with fail
       go_meet
       have i6' := i6
       rw [SM.out, (z_fine BZ.out).1] at i6'
       have r6 := i6'.r BZ.out
       clear hc4 hf4 hc5 hf5 hc6 hf6 i6 i6'
       refine ⟨_, n6, a6, k6, c6, rfl, by first | rw [SM.out, (z_fine BZ.out).2] | rw [show x + (y + (z + (-x + -y))) = z by omega, (z_fine BZ.out).2], ?_, ?_, by first | assumption | (go_split_ands; assumption)⟩)
    all_goals
      repeat (first
       | (with_reducible exact blk_below' hbx6 (blk_below' (nuc_new _ _) G5))
       | (with_reducible exact blk_below' (nuc_new _ _) G5)
       | (with_reducible exact G5)
       | ((with_reducible refine blk_new ?_); (first | omega | (simp only [sz_alloc, sz_set, sz_drew]; omega) | (focus (simp only [sz_alloc, sz_set, sz_drew]; done))))
       | (with_reducible refine blk_drew ?_)
       | (with_reducible refine blk_setz ?_)
       | ((with_reducible refine blk_below hbx6 ?_ ?_); (first | omega | (simp only [sz_alloc, sz_set, sz_drew]; omega) | (focus (simp only [sz_alloc, sz_set, sz_drew]; done))))
       | ((with_reducible refine blk_below hbx5 ?_ ?_); (first | omega | (simp only [sz_alloc, sz_set, sz_drew]; omega) | (focus (simp only [sz_alloc, sz_set, sz_drew]; done))))
       | ((with_reducible refine blk_below hbx4 ?_ ?_); (first | omega | (simp only [sz_alloc, sz_set, sz_drew]; omega) | (focus (simp only [sz_alloc, sz_set, sz_drew]; done))))
       | ((with_reducible refine blk_lt ?_ ?_); (first | omega | (simp only [sz_alloc, sz_set, sz_drew]; omega) | (focus (simp only [sz_alloc, sz_set, sz_drew]; done))))
       | (with_reducible exact r6)
       | (with_reducible exact r6.below (nuc_new _ _))
       | ((with_reducible refine r6.far (R := _) (T := 25) (x := false) (ao := none) (n := 0) (c := 0) ?_)))
  case rest =>
    obtain ⟨gT, nT, aT, kT, cT, rfl, rfl, hT, rT, hBT⟩ := hcut
    have GA_r := Lib.hid (blk_below' hBT GA_35.out)
    have GB_r := Lib.hid (blk_below' hBT GB_35.out)
    have GC_r := Lib.hid (blk_below' hBT GC_35.out)
    have GX_r := Lib.hid (blk_below' hBT GX_35.out)
    have GL_r := Lib.hid (blk_below' hBT GL_35.out)
    have GM_r := Lib.hid (blk_below' hBT GM_35.out)
    have GN_r := Lib.hid (blk_below' hBT GN_35.out)
    have GO_r := Lib.hid (blk_below' hBT GO_35.out)
    have GZ_r := Lib.hid (blk_below' hBT GZ_35.out)
    have IA_r := Lib.hid (IA_35.out.below hBT)
    have IB_r := Lib.hid (IB_35.out.below hBT)
    have IC_r := Lib.hid (IC_35.out.below hBT)
    have JX_r := Lib.hid (JX_35.out.below hBT)
    have JL_r := Lib.hid (JL_35.out.below hBT)
    have JM_r := Lib.hid (JM_35.out.below hBT)
    have JN_r := Lib.hid (JN_35.out.below hBT)
    have JO_r := Lib.hid (JO_35.out.below hBT)
    have JZ_r := Lib.hid (JZ_35.out.below hBT)
    have JT_r := Lib.hid rT
    have GT_r := Lib.hid hT
    have B_r := Lib.hid (below_of B_35.out hBT)
    clear STAY SM hBT hT rT
    have EL := Lib.hid (Int.add_mul x y z)
    have EZ : Hid (zcmp (x + y - y) x = 0) := Lib.hid (zcmp_eq (by omega))
    have ET : Hid (zcmp z z = 0) := Lib.hid (zcmp_eq rfl)
    obtain ⟨cL0, cL1, dL0, dL1, eL⟩ := blk2 GL_r.out
    obtain ⟨cO0, cO1, dO0, dO1, eO⟩ := blk2 GO_r.out
    go_wp2_with fail
    refine (same_any _ _ (x * z + y * z) _ (by have h := JL_r.out.1; rwa [EL.out] at h) JO_r.out.1).mono ?_
    rintro e w_36 ⟨rfl, hb⟩
    clear cL0 cL1 dL0 dL1 eL cO0 cO1 dO0 dO1 eO
    have GA_36 := Lib.hid (blk_below' hb GA_r.out)
    have GB_36 := Lib.hid (blk_below' hb GB_r.out)
    have GC_36 := Lib.hid (blk_below' hb GC_r.out)
    have GX_36 := Lib.hid (blk_below' hb GX_r.out)
    have GL_36 := Lib.hid (blk_below' hb GL_r.out)
    have GM_36 := Lib.hid (blk_below' hb GM_r.out)
    have GN_36 := Lib.hid (blk_below' hb GN_r.out)
    have GO_36 := Lib.hid (blk_below' hb GO_r.out)
    have GZ_36 := Lib.hid (blk_below' hb GZ_r.out)
    have GT_36 := Lib.hid (blk_below' hb GT_r.out)
    have IA_36 := Lib.hid (IA_r.out.below hb)
    have IB_36 := Lib.hid (IB_r.out.below hb)
    have IC_36 := Lib.hid (IC_r.out.below hb)
    have JX_36 := Lib.hid (JX_r.out.below hb)
    have JL_36 := Lib.hid (JL_r.out.below hb)
    have JM_36 := Lib.hid (JM_r.out.below hb)
    have JN_36 := Lib.hid (JN_r.out.below hb)
    have JO_36 := Lib.hid (JO_r.out.below hb)
    have JZ_36 := Lib.hid (JZ_r.out.below hb)
    have JT_36 := Lib.hid (JT_r.out.below hb)
    have B_36 := Lib.hid (below_of B_r.out hb)
    clear GA_r GB_r GC_r GX_r GL_r GM_r GN_r GO_r GZ_r GT_r IA_r IB_r IC_r JX_r JL_r JM_r JN_r JO_r JZ_r JT_r B_r
    clear hb 
    obtain ⟨cZ0, cZ1, dZ0, dZ1, eZ⟩ := blk2 GZ_36.out
    obtain ⟨cA0, cA1, dA0, dA1, eA⟩ := blk2 GA_36.out
    go_wp2_with fail
    refine (cmpF _ _ (x + y - y) x 0 _ JZ_36.out.2 IA_36.out EZ.out).mono ?_
    rintro e w_37 ⟨rfl, hb⟩
    clear cZ0 cZ1 dZ0 dZ1 eZ cA0 cA1 dA0 dA1 eA
    have GA_37 := Lib.hid (blk_below' hb GA_36.out)
    have GB_37 := Lib.hid (blk_below' hb GB_36.out)
    have GC_37 := Lib.hid (blk_below' hb GC_36.out)
    have GX_37 := Lib.hid (blk_below' hb GX_36.out)
    have GL_37 := Lib.hid (blk_below' hb GL_36.out)
    have GM_37 := Lib.hid (blk_below' hb GM_36.out)
    have GN_37 := Lib.hid (blk_below' hb GN_36.out)
    have GO_37 := Lib.hid (blk_below' hb GO_36.out)
    have GZ_37 := Lib.hid (blk_below' hb GZ_36.out)
    have GT_37 := Lib.hid (blk_below' hb GT_36.out)
    have IA_37 := Lib.hid (IA_36.out.below hb)
    have IB_37 := Lib.hid (IB_36.out.below hb)
    have IC_37 := Lib.hid (IC_36.out.below hb)
    have JX_37 := Lib.hid (JX_36.out.below hb)
    have JL_37 := Lib.hid (JL_36.out.below hb)
    have JM_37 := Lib.hid (JM_36.out.below hb)
    have JN_37 := Lib.hid (JN_36.out.below hb)
    have JO_37 := Lib.hid (JO_36.out.below hb)
    have JZ_37 := Lib.hid (JZ_36.out.below hb)
    have JT_37 := Lib.hid (JT_36.out.below hb)
    have B_37 := Lib.hid (below_of B_36.out hb)
    clear GA_36 GB_36 GC_36 GX_36 GL_36 GM_36 GN_36 GO_36 GZ_36 GT_36 IA_36 IB_36 IC_36 JX_36 JL_36 JM_36 JN_36 JO_36 JZ_36 JT_36 B_36
    clear hb 
    obtain ⟨cT0, cT1, dT0, dT1, eT⟩ := blk2 GT_37.out
    obtain ⟨cC0, cC1, dC0, dC1, eC⟩ := blk2 GC_37.out
    go_wp2_with fail
    refine (cmpF _ _ z z 0 _ JT_37.out.2 IC_37.out ET.out).mono ?_
    rintro e w_38 ⟨rfl, hb⟩
    clear cT0 cT1 dT0 dT1 eT cC0 cC1 dC0 dC1 eC
    have GA_38 := Lib.hid (blk_below' hb GA_37.out)
    have GB_38 := Lib.hid (blk_below' hb GB_37.out)
    have GC_38 := Lib.hid (blk_below' hb GC_37.out)
    have GX_38 := Lib.hid (blk_below' hb GX_37.out)
    have GL_38 := Lib.hid (blk_below' hb GL_37.out)
    have GM_38 := Lib.hid (blk_below' hb GM_37.out)
    have GN_38 := Lib.hid (blk_below' hb GN_37.out)
    have GO_38 := Lib.hid (blk_below' hb GO_37.out)
    have GZ_38 := Lib.hid (blk_below' hb GZ_37.out)
    have GT_38 := Lib.hid (blk_below' hb GT_37.out)
    have IA_38 := Lib.hid (IA_37.out.below hb)
    have IB_38 := Lib.hid (IB_37.out.below hb)
    have IC_38 := Lib.hid (IC_37.out.below hb)
    have JX_38 := Lib.hid (JX_37.out.below hb)
    have JL_38 := Lib.hid (JL_37.out.below hb)
    have JM_38 := Lib.hid (JM_37.out.below hb)
    have JN_38 := Lib.hid (JN_37.out.below hb)
    have JO_38 := Lib.hid (JO_37.out.below hb)
    have JZ_38 := Lib.hid (JZ_37.out.below hb)
    have JT_38 := Lib.hid (JT_37.out.below hb)
    have B_38 := Lib.hid (below_of B_37.out hb)
    clear GA_37 GB_37 GC_37 GX_37 GL_37 GM_37 GN_37 GO_37 GZ_37 GT_37 IA_37 IB_37 IC_37 JX_37 JL_37 JM_37 JN_37 JO_37 JZ_37 JT_37 B_37
    clear hb 
    go_wp2
    go_ret
    exact ⟨rfl, B_38.out⟩
end Go.Proofs.YtckmpnfadpnaeaaDoor
