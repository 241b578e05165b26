/- WholeBezout: the law's own walk. -/
import Derived.Test.YtfdilnfmcpbkgaaGreatDoorE1
import Derived.Test.YtfdilnfmcpbkgaaGreatDoorGA
import Derived.Test.YtfdilnfmcpbkgaaGreatDoorZU
import Derived.Test.YtfdilnfmcpbkgaaGreatDoorY2
set_option linter.unusedVariables false
set_option linter.unusedSimpArgs false
namespace Go.Proofs.YtfdilnfmcpbkgaaGreatDoor
open Go.RowKit Mth

theorem x_bounds (x y : Int) : (xX x y).natAbs ≤ max y.natAbs 1 ∧ (xY x y).natAbs ≤ max x.natAbs 1 := by
  obtain ⟨h, _⟩ := eEnd_inv x.natAbs y.natAbs
  obtain ⟨h1, h2⟩ := h.ab
  unfold xX xY
  generalize eEnd (eStart x.natAbs y.natAbs) = s at *
  simp only
  have e1 : ∀ (n : Bool) (m : Nat) (b : Bool), (if b = true then -sg n m else sg n m).natAbs = m := fun n m b => by cases b <;> simp [natAbs_sg]
  constructor
  · have := e1 s.ng s.a (decide (x < 0))
    simp only [decide_eq_true_eq] at this
    rw [this]; exact h1
  · have := e1 (!s.ng) s.b (decide (y < 0))
    simp only [decide_eq_true_eq] at this
    rw [this]; exact h2
theorem xG_pos (x y : Int) : 0 ≤ xG x y := by rw [xG_gcd]; omega
theorem rC_dvd {a g : Int} (h : g.natAbs ∣ a.natAbs) : rC a g = 0 := by
  have e := amt_rC a g
  rw [Nat.mod_eq_zero_of_dvd h] at e
  omega
/-- all that the walk asks of its numbers -/
structure Bez (x y d : Int) : Prop where
  fx : x.natAbs < Big
  fy : y.natAbs < Big
  fd : d.natAbs < Big
  fm : (x * xX x y).natAbs < Big
  fn : (y * xY x y).natAbs < Big
  fs : (x * xX x y + y * xY x y).natAbs < Big
  fg : (xG x y).natAbs < Big
  fu : (x * d).natAbs < Big
  fv : (y * d).natAbs < Big
  fw : (xG x y * (d.natAbs : Int)).natAbs < Big
  fe : ((Nat.gcd (x * d).natAbs (y * d).natAbs : Nat) : Int) = xG x y * (d.natAbs : Int)
  fz : xG x y = 0 → x = 0 ∧ y = 0
  fp : rC x (xG x y) = 0
  fq : rC y (xG x y) = 0
theorem bez_of {x y d : Int} (hx : x.natAbs < ShN) (hy : y.natAbs < ShN) (hd : d.natAbs < ShN) : Bez x y d := by
  have h1 := shn_big; have h2 := shn_le; have h3 := shn_pos
  have m : ∀ a b : Int, a.natAbs ≤ ShN → b.natAbs ≤ ShN → (a * b).natAbs ≤ ShN * ShN := fun a b ha hb => by
    rw [Int.natAbs_mul]; exact Nat.mul_le_mul ha hb
  obtain ⟨b1, b2⟩ := x_bounds x y
  have gx := xG_gcd x y
  have gle : (Nat.gcd x.natAbs y.natAbs) ≤ ShN := by
    rcases Nat.eq_zero_or_pos x.natAbs with h | h
    · rw [h, Nat.gcd_zero_left]; omega
    · exact Nat.le_trans (Nat.gcd_le_left _ h) (by omega)
  have m1 := m x (xX x y) (by omega) (by omega)
  have m2 := m y (xY x y) (by omega) (by omega)
  have m3 := m x d (by omega) (by omega)
  have m4 := m y d (by omega) (by omega)
  have m5 := m (xG x y) (d.natAbs : Int) (by rw [gx, Int.natAbs_natCast]; exact gle) (by rw [Int.natAbs_natCast]; omega)
  refine ⟨by omega, by omega, by omega, by omega, by omega, by omega, by rw [gx, Int.natAbs_natCast]; omega, by omega, by omega, by omega, ?_, ?_, ?_, ?_⟩
  · rw [gx, Int.natAbs_mul, Int.natAbs_mul, Nat.gcd_mul_right, Int.natCast_mul]
  · intro h
    rw [gx] at h
    have h' : Nat.gcd x.natAbs y.natAbs = 0 := by omega
    have := Nat.gcd_eq_zero_iff.1 h'
    omega
  · exact rC_dvd (by rw [gx, Int.natAbs_natCast]; exact Nat.gcd_dvd_left _ _)
  · exact rC_dvd (by rw [gx, Int.natAbs_natCast]; exact Nat.gcd_dvd_right _ _)
def Res3 (w w' : World) (e : Ending) (z1 z2 z3 : Int) : Prop := ∃ n1 a1 k1 c1 n2 a2 k2 c2 n3 a3 k3 c3, e = .returned (.tuple #[.agg #[.bool n1, .slice a1 k1 c1], .agg #[.bool n2, .slice a2 k2 c2], .agg #[.bool n3, .slice a3 k3 c3], .int .i64 0]) ∧ IntR w' (.agg #[.bool n1, .slice a1 k1 c1]) z1 ∧ IntR w' (.agg #[.bool n2, .slice a2 k2 c2]) z2 ∧ IntR w' (.agg #[.bool n3, .slice a3 k3 c3]) z3 ∧ Below w.heap.size w w'
theorem extF (va vb : Value) (x y : Int) (w : World) (ha : IntV w va x) (hb : IntV w vb y) (hx : x.natAbs < Big) (hy : y.natAbs < Big) : Calls Tryz.prog 6 #[va, vb] w fun e w' => Res3 w w' e (xG x y) (xX x y) (xY x y) := (extI_fine va vb x y w ha hb hx hy).mono fun e w' ⟨v1, v2, v3, he, h1, h2, h3, hb⟩ => by
  obtain ⟨n1, a1, k1, c1, rfl⟩ := h1.1.shape
  obtain ⟨n2, a2, k2, c2, rfl⟩ := h2.1.shape
  obtain ⟨n3, a3, k3, c3, rfl⟩ := h3.1.shape
  exact ⟨n1, a1, k1, c1, n2, a2, k2, c2, n3, a3, k3, c3, he, h1, h2, h3, hb⟩
theorem intl_two {W : World} {g : Nat} {n0 n1 : Bool} {a0 a1 : Option Addr} {k0 c0 k1 c1 : Nat} {z0 z1 : Int}
    (hg : W.heap[g]? = some (.cells #[.bool n0, .slice a0 k0 c0, .bool n1, .slice a1 k1 c1] 25 (0, 0)))
    (h0 : IntV W (.agg #[.bool n0, .slice a0 k0 c0]) z0) (h1 : IntV W (.agg #[.bool n1, .slice a1 k1 c1]) z1) : IntL W (.slice (some ⟨g, 0, none⟩) 2 2) [z0, z1] := by
  refine ⟨_, 2, rfl, Nat.le_refl _, by unfold maxLen; omega, by simp, (fun e => by cases e), fun _ => ⟨g, 0, rfl, (Array.getElem?_eq_some_iff.1 hg).1, fun j hj => ?_⟩⟩
  match j, hj with
  | 0, _ => exact ⟨n0, a0, k0, c0, by rw [cell_of_row _ _ _ _ _ (0, 0) hg]; rfl, by rw [cell_of_row _ _ _ _ _ (0, 0) hg]; rfl, h0⟩
  | 1, _ => exact ⟨n1, a1, k1, c1, by rw [cell_of_row _ _ _ _ _ (0, 0) hg]; rfl, by rw [cell_of_row _ _ _ _ _ (0, 0) hg]; rfl, h1⟩
theorem gcd2F (v : Value) (x y z : Int) (w : World) (h : IntL w v [x, y]) (hx : x.natAbs < Big) (hy : y.natAbs < Big) (hz : ((Nat.gcd x.natAbs y.natAbs : Nat) : Int) = z) : Calls Tryz.prog 13 #[v] w fun e w' => Res1 w w' e z := (gcdI_any v [x, y] w h).mono fun e w' ⟨v', he, hi, hb⟩ => by
  have hf : Fine [x, y] [x, y].length := fun j hj => by
    match j, hj with
    | 0, _ => exact hx
    | 1, _ => exact hy
  obtain ⟨g1, g2⟩ := g_fine hf
  have e3 : gNz [x, y] [x, y].length = Nat.gcd x.natAbs y.natAbs := by simp [gNz]
  rw [e3] at g1
  rw [g1, hz] at hi
  rw [g2] at he
  have hlt : z.natAbs < Big := by rw [← hz, Int.natAbs_natCast]; exact gcd_lt hx hy
  obtain ⟨n, a, k, c, rfl⟩ := hi.shape
  exact ⟨n, a, k, c, he, hi.r hlt, hb⟩
def WBox (W wx : World) (z : Int) (s t : Value) : Prop := ∃ (g : Nat) (n : Bool) (a : Option Addr) (k c : Nat), s = .pointer (some ⟨g, 0, none⟩) ∧ t = .int .i64 0 ∧ W.heap.size ≤ g ∧ wx.heap[g]? = some (.cells #[.bool n, .slice a k c] 25 (0, 0)) ∧ IntR wx (.agg #[.bool n, .slice a k c]) z ∧ Below W.heap.size W wx

theorem intr_drewz {w : World} {v : Value} {z : Int} (h : IntR w v z) : IntR w.drew v z := h
set_option maxHeartbeats 16000000 in
set_option maxRecDepth 100000 in
theorem bezout_walk (w : World) (v0 v1 v2 : Value) (x y z : Int) (hz : TZ10 w) (h0 : IntV w v0 x) (h1 : IntV w v1 y) (h2 : IntV w v2 z) :
    Calls Tryz.prog 4 #[v0, v1, v2] w fun e w' => e = .returned (.bool true) ∧ Below w.heap.size w w' := by
  have HZ := Lib.hid hz
  obtain ⟨n0, a0, k0, c0, rfl⟩ := h0.shape
  obtain ⟨n1, a1, k1, c1, rfl⟩ := h1.shape
  obtain ⟨n2, a2, k2, c2, rfl⟩ := h2.shape
  have IA_0 := Lib.hid h0; have IB_0 := Lib.hid h1; have IC_0 := Lib.hid h2
  clear hz h0 h1 h2
  go_enter Tryz.func4, Tryz.ntmps4
  have B_0 := Lib.hid (Below.refl w.heap.size w)
  obtain ⟨V_1, eV, hV0, hV1, hV2, belV, hszV⟩ := alloc3 w (Obj.cells #[Value.bool n0, Value.slice a0 k0 c0] 25) (Obj.cells #[Value.bool n1, Value.slice a1 k1 c1] 25) (Obj.cells #[Value.bool n2, Value.slice a2 k2 c2] 25)
  have IA_2 := Lib.hid (IA_0.out.below belV)
  have IB_2 := Lib.hid (IB_0.out.below belV)
  have IC_2 := Lib.hid (IC_0.out.below belV)
  have B_2 := Lib.hid (below_of B_0.out belV)
  clear IA_0 IB_0 IC_0 B_0
  have GA_2 : Hid (V_1.heap[w.heap.size]? = some (Obj.cells #[Value.bool n0, Value.slice a0 k0 c0] 25)) := Lib.hid hV0
  have GB_2 : Hid (V_1.heap[w.heap.size + 1]? = some (Obj.cells #[Value.bool n1, Value.slice a1 k1 c1] 25)) := Lib.hid hV1
  have GC_2 : Hid (V_1.heap[w.heap.size + 1 + 1]? = some (Obj.cells #[Value.bool n2, Value.slice a2 k2 c2] 25)) := Lib.hid hV2
  clear belV hszV hV0 hV1 hV2
  go_wp2_with fail
  clear eV
  refine (awake_any _ (HZ.out.below B_2.out)).mono ?_
  rintro e w_3 ⟨rfl, hb⟩
  have GA_3 := Lib.hid (blk_below' hb GA_2.out)
  have GB_3 := Lib.hid (blk_below' hb GB_2.out)
  have GC_3 := Lib.hid (blk_below' hb GC_2.out)
  have IA_3 := Lib.hid (IA_2.out.below hb)
  have IB_3 := Lib.hid (IB_2.out.below hb)
  have IC_3 := Lib.hid (IC_2.out.below hb)
  have B_3 := Lib.hid (below_of B_2.out hb)
  clear GA_2 GB_2 GC_2 IA_2 IB_2 IC_2 B_2
  clear hb 
  by_cases hk0 : k0 ≤ 1000
  rotate_left
  · have hd : decide ((k0 : Int) ≤ 1000) = false := decide_eq_false (by omega)
    obtain ⟨cA0, cA1, dA0, dA1, eA⟩ := blk2 GA_3.out
    go_wp2_with fail
    refine (shortF _ _ _ _ _ false hd).mono ?_
    rintro e w_4 ⟨rfl, hb⟩
    clear cA0 cA1 dA0 dA1 eA
    have GA_4 := Lib.hid (blk_below' hb GA_3.out)
    have GB_4 := Lib.hid (blk_below' hb GB_3.out)
    have GC_4 := Lib.hid (blk_below' hb GC_3.out)
    have IA_4 := Lib.hid (IA_3.out.below hb)
    have IB_4 := Lib.hid (IB_3.out.below hb)
    have IC_4 := Lib.hid (IC_3.out.below hb)
    have B_4 := Lib.hid (below_of B_3.out hb)
    clear GA_3 GB_3 GC_3 IA_3 IB_3 IC_3 B_3
    clear hb 
    clear hd
    go_wp2
    go_ret
    exact ⟨rfl, B_4.out⟩
  have hd0 : decide ((k0 : Int) ≤ 1000) = true := decide_eq_true (by omega)
  have SH0 := Lib.hid (IA_3.out.short hk0)
  obtain ⟨cA0, cA1, dA0, dA1, eA⟩ := blk2 GA_3.out
  go_wp2_with fail
  refine (shortF _ _ _ _ _ true hd0).mono ?_
  rintro e w_4 ⟨rfl, hb⟩
  clear cA0 cA1 dA0 dA1 eA
  have GA_4 := Lib.hid (blk_below' hb GA_3.out)
  have GB_4 := Lib.hid (blk_below' hb GB_3.out)
  have GC_4 := Lib.hid (blk_below' hb GC_3.out)
  have IA_4 := Lib.hid (IA_3.out.below hb)
  have IB_4 := Lib.hid (IB_3.out.below hb)
  have IC_4 := Lib.hid (IC_3.out.below hb)
  have B_4 := Lib.hid (below_of B_3.out hb)
  clear GA_3 GB_3 GC_3 IA_3 IB_3 IC_3 B_3
  clear hb 
  clear hd0 hk0
  by_cases hk1 : k1 ≤ 1000
  rotate_left
  · have hd : decide ((k1 : Int) ≤ 1000) = false := decide_eq_false (by omega)
    obtain ⟨cB0, cB1, dB0, dB1, eB⟩ := blk2 GB_4.out
    go_wp2_with fail
    refine (shortF _ _ _ _ _ false hd).mono ?_
    rintro e w_5 ⟨rfl, hb⟩
    clear cB0 cB1 dB0 dB1 eB
    have GA_5 := Lib.hid (blk_below' hb GA_4.out)
    have GB_5 := Lib.hid (blk_below' hb GB_4.out)
    have GC_5 := Lib.hid (blk_below' hb GC_4.out)
    have IA_5 := Lib.hid (IA_4.out.below hb)
    have IB_5 := Lib.hid (IB_4.out.below hb)
    have IC_5 := Lib.hid (IC_4.out.below hb)
    have B_5 := Lib.hid (below_of B_4.out hb)
    clear GA_4 GB_4 GC_4 IA_4 IB_4 IC_4 B_4
    clear hb 
    clear hd
    go_wp2
    go_ret
    exact ⟨rfl, B_5.out⟩
  have hd1 : decide ((k1 : Int) ≤ 1000) = true := decide_eq_true (by omega)
  have SH1 := Lib.hid (IB_4.out.short hk1)
  obtain ⟨cB0, cB1, dB0, dB1, eB⟩ := blk2 GB_4.out
  go_wp2_with fail
  refine (shortF _ _ _ _ _ true hd1).mono ?_
  rintro e w_5 ⟨rfl, hb⟩
  clear cB0 cB1 dB0 dB1 eB
  have GA_5 := Lib.hid (blk_below' hb GA_4.out)
  have GB_5 := Lib.hid (blk_below' hb GB_4.out)
  have GC_5 := Lib.hid (blk_below' hb GC_4.out)
  have IA_5 := Lib.hid (IA_4.out.below hb)
  have IB_5 := Lib.hid (IB_4.out.below hb)
  have IC_5 := Lib.hid (IC_4.out.below hb)
  have B_5 := Lib.hid (below_of B_4.out hb)
  clear GA_4 GB_4 GC_4 IA_4 IB_4 IC_4 B_4
  clear hb 
  clear hd1 hk1
  by_cases hk2 : k2 ≤ 1000
  rotate_left
  · have hd : decide ((k2 : Int) ≤ 1000) = false := decide_eq_false (by omega)
    obtain ⟨cC0, cC1, dC0, dC1, eC⟩ := blk2 GC_5.out
    go_wp2_with fail
    refine (shortF _ _ _ _ _ false hd).mono ?_
    rintro e w_6 ⟨rfl, hb⟩
    clear cC0 cC1 dC0 dC1 eC
    have GA_6 := Lib.hid (blk_below' hb GA_5.out)
    have GB_6 := Lib.hid (blk_below' hb GB_5.out)
    have GC_6 := Lib.hid (blk_below' hb GC_5.out)
    have IA_6 := Lib.hid (IA_5.out.below hb)
    have IB_6 := Lib.hid (IB_5.out.below hb)
    have IC_6 := Lib.hid (IC_5.out.below hb)
    have B_6 := Lib.hid (below_of B_5.out hb)
    clear GA_5 GB_5 GC_5 IA_5 IB_5 IC_5 B_5
    clear hb 
    clear hd
    go_wp2
    go_ret
    exact ⟨rfl, B_6.out⟩
  have hd2 : decide ((k2 : Int) ≤ 1000) = true := decide_eq_true (by omega)
  have SH2 := Lib.hid (IC_5.out.short hk2)
  obtain ⟨cC0, cC1, dC0, dC1, eC⟩ := blk2 GC_5.out
  go_wp2_with fail
  refine (shortF _ _ _ _ _ true hd2).mono ?_
  rintro e w_6 ⟨rfl, hb⟩
  clear cC0 cC1 dC0 dC1 eC
  have GA_6 := Lib.hid (blk_below' hb GA_5.out)
  have GB_6 := Lib.hid (blk_below' hb GB_5.out)
  have GC_6 := Lib.hid (blk_below' hb GC_5.out)
  have IA_6 := Lib.hid (IA_5.out.below hb)
  have IB_6 := Lib.hid (IB_5.out.below hb)
  have IC_6 := Lib.hid (IC_5.out.below hb)
  have B_6 := Lib.hid (below_of B_5.out hb)
  clear GA_5 GB_5 GC_5 IA_5 IB_5 IC_5 B_5
  clear hb 
  clear hd2 hk2
  have BB := Lib.hid (bez_of SH0.out SH1.out SH2.out)
  clear SH0 SH1 SH2
  obtain ⟨cA0, cA1, dA0, dA1, eA⟩ := blk2 GA_6.out
  obtain ⟨cB0, cB1, dB0, dB1, eB⟩ := blk2 GB_6.out
  go_wp2_with fail
  refine (extF _ _ x y _ IA_6.out IB_6.out BB.out.fx BB.out.fy).mono ?_
  rintro e w_7 ⟨nG, aG, kG, cG, nX, aX, kX, cX, nY, aY, kY, cY, rfl, iG, iX, iY, hb⟩
  clear cA0 cA1 dA0 dA1 eA cB0 cB1 dB0 dB1 eB
  have GA_7 := Lib.hid (blk_below' hb GA_6.out)
  have GB_7 := Lib.hid (blk_below' hb GB_6.out)
  have GC_7 := Lib.hid (blk_below' hb GC_6.out)
  have IA_7 := Lib.hid (IA_6.out.below hb)
  have IB_7 := Lib.hid (IB_6.out.below hb)
  have IC_7 := Lib.hid (IC_6.out.below hb)
  have B_7 := Lib.hid (below_of B_6.out hb)
  clear GA_6 GB_6 GC_6 IA_6 IB_6 IC_6 B_6
  have JG_7 := Lib.hid iG
  have JX_7 := Lib.hid iX
  have JY_7 := Lib.hid iY
  clear hb iG iX iY
  obtain ⟨V_8, eV, hV0, hV1, hV2, belV, hszV⟩ := alloc3 w_7 (Obj.cells #[Value.bool nG, Value.slice aG kG cG] 25) (Obj.cells #[Value.bool nX, Value.slice aX kX cX] 25) (Obj.cells #[Value.bool nY, Value.slice aY kY cY] 25)
  have GA_9 := Lib.hid (blk_below' belV GA_7.out)
  have GB_9 := Lib.hid (blk_below' belV GB_7.out)
  have GC_9 := Lib.hid (blk_below' belV GC_7.out)
  have IA_9 := Lib.hid (IA_7.out.below belV)
  have IB_9 := Lib.hid (IB_7.out.below belV)
  have IC_9 := Lib.hid (IC_7.out.below belV)
  have JG_9 := Lib.hid (JG_7.out.below belV)
  have JX_9 := Lib.hid (JX_7.out.below belV)
  have JY_9 := Lib.hid (JY_7.out.below belV)
  have B_9 := Lib.hid (below_of B_7.out belV)
  clear GA_7 GB_7 GC_7 IA_7 IB_7 IC_7 JG_7 JX_7 JY_7 B_7
  have GG_9 : Hid (V_8.heap[w_7.heap.size]? = some (Obj.cells #[Value.bool nG, Value.slice aG kG cG] 25)) := Lib.hid hV0
  have GX_9 : Hid (V_8.heap[w_7.heap.size + 1]? = some (Obj.cells #[Value.bool nX, Value.slice aX kX cX] 25)) := Lib.hid hV1
  have GY_9 : Hid (V_8.heap[w_7.heap.size + 1 + 1]? = some (Obj.cells #[Value.bool nY, Value.slice aY kY cY] 25)) := Lib.hid hV2
  clear belV hszV hV0 hV1 hV2
  obtain ⟨cA0, cA1, dA0, dA1, eA⟩ := blk2 GA_9.out
  obtain ⟨cX0, cX1, dX0, dX1, eX⟩ := blk2 GX_9.out
  go_wp2_with fail
  clear eV
  refine (mulF _ _ x (xX x y) _ IA_9.out JX_9.out.2 BB.out.fm).mono ?_
  rintro e w_10 ⟨nM, aM, kM, cM, rfl, iM, hb⟩
  clear cA0 cA1 dA0 dA1 eA cX0 cX1 dX0 dX1 eX
  have GA_10 := Lib.hid (blk_below' hb GA_9.out)
  have GB_10 := Lib.hid (blk_below' hb GB_9.out)
  have GC_10 := Lib.hid (blk_below' hb GC_9.out)
  have GG_10 := Lib.hid (blk_below' hb GG_9.out)
  have GX_10 := Lib.hid (blk_below' hb GX_9.out)
  have GY_10 := Lib.hid (blk_below' hb GY_9.out)
  have IA_10 := Lib.hid (IA_9.out.below hb)
  have IB_10 := Lib.hid (IB_9.out.below hb)
  have IC_10 := Lib.hid (IC_9.out.below hb)
  have JG_10 := Lib.hid (JG_9.out.below hb)
  have JX_10 := Lib.hid (JX_9.out.below hb)
  have JY_10 := Lib.hid (JY_9.out.below hb)
  have B_10 := Lib.hid (below_of B_9.out hb)
  clear GA_9 GB_9 GC_9 GG_9 GX_9 GY_9 IA_9 IB_9 IC_9 JG_9 JX_9 JY_9 B_9
  have JM_10 := Lib.hid iM
  clear hb iM
  obtain ⟨V_11, eV, hV0, belV, hszV⟩ := alloc1 w_10 (Obj.cells #[Value.bool nM, Value.slice aM kM cM] 25)
  have GA_12 := Lib.hid (blk_below' belV GA_10.out)
  have GB_12 := Lib.hid (blk_below' belV GB_10.out)
  have GC_12 := Lib.hid (blk_below' belV GC_10.out)
  have GG_12 := Lib.hid (blk_below' belV GG_10.out)
  have GX_12 := Lib.hid (blk_below' belV GX_10.out)
  have GY_12 := Lib.hid (blk_below' belV GY_10.out)
  have IA_12 := Lib.hid (IA_10.out.below belV)
  have IB_12 := Lib.hid (IB_10.out.below belV)
  have IC_12 := Lib.hid (IC_10.out.below belV)
  have JG_12 := Lib.hid (JG_10.out.below belV)
  have JX_12 := Lib.hid (JX_10.out.below belV)
  have JY_12 := Lib.hid (JY_10.out.below belV)
  have JM_12 := Lib.hid (JM_10.out.below belV)
  have B_12 := Lib.hid (below_of B_10.out belV)
  clear GA_10 GB_10 GC_10 GG_10 GX_10 GY_10 IA_10 IB_10 IC_10 JG_10 JX_10 JY_10 JM_10 B_10
  have GM_12 : Hid (V_11.heap[w_10.heap.size]? = some (Obj.cells #[Value.bool nM, Value.slice aM kM cM] 25)) := Lib.hid hV0
  clear belV hszV hV0
  obtain ⟨cB0, cB1, dB0, dB1, eB⟩ := blk2 GB_12.out
  obtain ⟨cY0, cY1, dY0, dY1, eY⟩ := blk2 GY_12.out
  go_wp2_with fail
  clear eV
  refine (mulF _ _ y (xY x y) _ IB_12.out JY_12.out.2 BB.out.fn).mono ?_
  rintro e w_13 ⟨nN, aN, kN, cN, rfl, iN, hb⟩
  clear cB0 cB1 dB0 dB1 eB cY0 cY1 dY0 dY1 eY
  have GA_13 := Lib.hid (blk_below' hb GA_12.out)
  have GB_13 := Lib.hid (blk_below' hb GB_12.out)
  have GC_13 := Lib.hid (blk_below' hb GC_12.out)
  have GG_13 := Lib.hid (blk_below' hb GG_12.out)
  have GX_13 := Lib.hid (blk_below' hb GX_12.out)
  have GY_13 := Lib.hid (blk_below' hb GY_12.out)
  have GM_13 := Lib.hid (blk_below' hb GM_12.out)
  have IA_13 := Lib.hid (IA_12.out.below hb)
  have IB_13 := Lib.hid (IB_12.out.below hb)
  have IC_13 := Lib.hid (IC_12.out.below hb)
  have JG_13 := Lib.hid (JG_12.out.below hb)
  have JX_13 := Lib.hid (JX_12.out.below hb)
  have JY_13 := Lib.hid (JY_12.out.below hb)
  have JM_13 := Lib.hid (JM_12.out.below hb)
  have B_13 := Lib.hid (below_of B_12.out hb)
  clear GA_12 GB_12 GC_12 GG_12 GX_12 GY_12 GM_12 IA_12 IB_12 IC_12 JG_12 JX_12 JY_12 JM_12 B_12
  have JN_13 := Lib.hid iN
  clear hb iN
  obtain ⟨V_14, eV, hV0, belV, hszV⟩ := alloc1 w_13 (Obj.cells #[Value.bool nN, Value.slice aN kN cN] 25)
  have GA_15 := Lib.hid (blk_below' belV GA_13.out)
  have GB_15 := Lib.hid (blk_below' belV GB_13.out)
  have GC_15 := Lib.hid (blk_below' belV GC_13.out)
  have GG_15 := Lib.hid (blk_below' belV GG_13.out)
  have GX_15 := Lib.hid (blk_below' belV GX_13.out)
  have GY_15 := Lib.hid (blk_below' belV GY_13.out)
  have GM_15 := Lib.hid (blk_below' belV GM_13.out)
  have IA_15 := Lib.hid (IA_13.out.below belV)
  have IB_15 := Lib.hid (IB_13.out.below belV)
  have IC_15 := Lib.hid (IC_13.out.below belV)
  have JG_15 := Lib.hid (JG_13.out.below belV)
  have JX_15 := Lib.hid (JX_13.out.below belV)
  have JY_15 := Lib.hid (JY_13.out.below belV)
  have JM_15 := Lib.hid (JM_13.out.below belV)
  have JN_15 := Lib.hid (JN_13.out.below belV)
  have B_15 := Lib.hid (below_of B_13.out belV)
  clear GA_13 GB_13 GC_13 GG_13 GX_13 GY_13 GM_13 IA_13 IB_13 IC_13 JG_13 JX_13 JY_13 JM_13 JN_13 B_13
  have GN_15 : Hid (V_14.heap[w_13.heap.size]? = some (Obj.cells #[Value.bool nN, Value.slice aN kN cN] 25)) := Lib.hid hV0
  clear belV hszV hV0
  obtain ⟨cM0, cM1, dM0, dM1, eM⟩ := blk2 GM_15.out
  obtain ⟨cN0, cN1, dN0, dN1, eN⟩ := blk2 GN_15.out
  go_wp2_with fail
  clear eV
  refine (addF _ _ (x * xX x y) (y * xY x y) _ JM_15.out.2 JN_15.out.2 BB.out.fs).mono ?_
  rintro e w_16 ⟨nS, aS, kS, cS, rfl, iS, hb⟩
  clear cM0 cM1 dM0 dM1 eM cN0 cN1 dN0 dN1 eN
  have GA_16 := Lib.hid (blk_below' hb GA_15.out)
  have GB_16 := Lib.hid (blk_below' hb GB_15.out)
  have GC_16 := Lib.hid (blk_below' hb GC_15.out)
  have GG_16 := Lib.hid (blk_below' hb GG_15.out)
  have GX_16 := Lib.hid (blk_below' hb GX_15.out)
  have GY_16 := Lib.hid (blk_below' hb GY_15.out)
  have GM_16 := Lib.hid (blk_below' hb GM_15.out)
  have GN_16 := Lib.hid (blk_below' hb GN_15.out)
  have IA_16 := Lib.hid (IA_15.out.below hb)
  have IB_16 := Lib.hid (IB_15.out.below hb)
  have IC_16 := Lib.hid (IC_15.out.below hb)
  have JG_16 := Lib.hid (JG_15.out.below hb)
  have JX_16 := Lib.hid (JX_15.out.below hb)
  have JY_16 := Lib.hid (JY_15.out.below hb)
  have JM_16 := Lib.hid (JM_15.out.below hb)
  have JN_16 := Lib.hid (JN_15.out.below hb)
  have B_16 := Lib.hid (below_of B_15.out hb)
  clear GA_15 GB_15 GC_15 GG_15 GX_15 GY_15 GM_15 GN_15 IA_15 IB_15 IC_15 JG_15 JX_15 JY_15 JM_15 JN_15 B_15
  have JS_16 := Lib.hid iS
  clear hb iS
  obtain ⟨V_17, eV, hV0, belV, hszV⟩ := alloc1 w_16 (Obj.cells #[Value.bool nS, Value.slice aS kS cS] 25)
  have GA_18 := Lib.hid (blk_below' belV GA_16.out)
  have GB_18 := Lib.hid (blk_below' belV GB_16.out)
  have GC_18 := Lib.hid (blk_below' belV GC_16.out)
  have GG_18 := Lib.hid (blk_below' belV GG_16.out)
  have GX_18 := Lib.hid (blk_below' belV GX_16.out)
  have GY_18 := Lib.hid (blk_below' belV GY_16.out)
  have GM_18 := Lib.hid (blk_below' belV GM_16.out)
  have GN_18 := Lib.hid (blk_below' belV GN_16.out)
  have IA_18 := Lib.hid (IA_16.out.below belV)
  have IB_18 := Lib.hid (IB_16.out.below belV)
  have IC_18 := Lib.hid (IC_16.out.below belV)
  have JG_18 := Lib.hid (JG_16.out.below belV)
  have JX_18 := Lib.hid (JX_16.out.below belV)
  have JY_18 := Lib.hid (JY_16.out.below belV)
  have JM_18 := Lib.hid (JM_16.out.below belV)
  have JN_18 := Lib.hid (JN_16.out.below belV)
  have JS_18 := Lib.hid (JS_16.out.below belV)
  have B_18 := Lib.hid (below_of B_16.out belV)
  clear GA_16 GB_16 GC_16 GG_16 GX_16 GY_16 GM_16 GN_16 IA_16 IB_16 IC_16 JG_16 JX_16 JY_16 JM_16 JN_16 JS_16 B_16
  have GS_18 : Hid (V_17.heap[w_16.heap.size]? = some (Obj.cells #[Value.bool nS, Value.slice aS kS cS] 25)) := Lib.hid hV0
  clear belV hszV hV0
  obtain ⟨cA0, cA1, dA0, dA1, eA⟩ := blk2 GA_18.out
  obtain ⟨cB0, cB1, dB0, dB1, eB⟩ := blk2 GB_18.out
  go_wp2_with fail
  clear eV
  refine (gcd2F _ x y (xG x y) _ (intl_two (heap_alloc_new V_17 (Obj.cells #[Value.bool n0, Value.slice a0 k0 c0, Value.bool n1, Value.slice a1 k1 c1] 25)) ((IA_18.out).below (nuc_new V_17 (Obj.cells #[Value.bool n0, Value.slice a0 k0 c0, Value.bool n1, Value.slice a1 k1 c1] 25))) ((IB_18.out).below (nuc_new V_17 (Obj.cells #[Value.bool n0, Value.slice a0 k0 c0, Value.bool n1, Value.slice a1 k1 c1] 25)))) BB.out.fx BB.out.fy (xG_gcd x y).symm).mono ?_
  rintro e w_19 ⟨nT, aT, kT, cT, rfl, iT, hb0⟩
  have hb := below_of (nuc_new V_17 (Obj.cells #[Value.bool n0, Value.slice a0 k0 c0, Value.bool n1, Value.slice a1 k1 c1] 25)) hb0
  clear hb0 cA0 cA1 dA0 dA1 eA cB0 cB1 dB0 dB1 eB
  have GA_19 := Lib.hid (blk_below' hb GA_18.out)
  have GB_19 := Lib.hid (blk_below' hb GB_18.out)
  have GC_19 := Lib.hid (blk_below' hb GC_18.out)
  have GG_19 := Lib.hid (blk_below' hb GG_18.out)
  have GX_19 := Lib.hid (blk_below' hb GX_18.out)
  have GY_19 := Lib.hid (blk_below' hb GY_18.out)
  have GM_19 := Lib.hid (blk_below' hb GM_18.out)
  have GN_19 := Lib.hid (blk_below' hb GN_18.out)
  have GS_19 := Lib.hid (blk_below' hb GS_18.out)
  have IA_19 := Lib.hid (IA_18.out.below hb)
  have IB_19 := Lib.hid (IB_18.out.below hb)
  have IC_19 := Lib.hid (IC_18.out.below hb)
  have JG_19 := Lib.hid (JG_18.out.below hb)
  have JX_19 := Lib.hid (JX_18.out.below hb)
  have JY_19 := Lib.hid (JY_18.out.below hb)
  have JM_19 := Lib.hid (JM_18.out.below hb)
  have JN_19 := Lib.hid (JN_18.out.below hb)
  have JS_19 := Lib.hid (JS_18.out.below hb)
  have B_19 := Lib.hid (below_of B_18.out hb)
  clear GA_18 GB_18 GC_18 GG_18 GX_18 GY_18 GM_18 GN_18 GS_18 IA_18 IB_18 IC_18 JG_18 JX_18 JY_18 JM_18 JN_18 JS_18 B_18
  have JT_19 := Lib.hid iT
  clear hb iT
  have LT : Hid (w.heap.size ≤ w_19.heap.size) := Lib.hid B_19.out.size
  obtain ⟨V_20, eV, hV0, belV, hszV⟩ := alloc1 w_19 (Obj.cells #[Value.bool nT, Value.slice aT kT cT] 25)
  have GA_21 := Lib.hid (blk_below' belV GA_19.out)
  have GB_21 := Lib.hid (blk_below' belV GB_19.out)
  have GC_21 := Lib.hid (blk_below' belV GC_19.out)
  have GG_21 := Lib.hid (blk_below' belV GG_19.out)
  have GX_21 := Lib.hid (blk_below' belV GX_19.out)
  have GY_21 := Lib.hid (blk_below' belV GY_19.out)
  have GM_21 := Lib.hid (blk_below' belV GM_19.out)
  have GN_21 := Lib.hid (blk_below' belV GN_19.out)
  have GS_21 := Lib.hid (blk_below' belV GS_19.out)
  have IA_21 := Lib.hid (IA_19.out.below belV)
  have IB_21 := Lib.hid (IB_19.out.below belV)
  have IC_21 := Lib.hid (IC_19.out.below belV)
  have JG_21 := Lib.hid (JG_19.out.below belV)
  have JX_21 := Lib.hid (JX_19.out.below belV)
  have JY_21 := Lib.hid (JY_19.out.below belV)
  have JM_21 := Lib.hid (JM_19.out.below belV)
  have JN_21 := Lib.hid (JN_19.out.below belV)
  have JS_21 := Lib.hid (JS_19.out.below belV)
  have JT_21 := Lib.hid (JT_19.out.below belV)
  have B_21 := Lib.hid (below_of B_19.out belV)
  clear GA_19 GB_19 GC_19 GG_19 GX_19 GY_19 GM_19 GN_19 GS_19 IA_19 IB_19 IC_19 JG_19 JX_19 JY_19 JM_19 JN_19 JS_19 JT_19 B_19
  have GT_21 : Hid (V_20.heap[w_19.heap.size]? = some (Obj.cells #[Value.bool nT, Value.slice aT kT cT] 25)) := Lib.hid hV0
  clear belV hszV hV0
  obtain ⟨cS0, cS1, dS0, dS1, eS⟩ := blk2 GS_21.out
  obtain ⟨cG0, cG1, dG0, dG1, eG⟩ := blk2 GG_21.out
  go_wp2_with fail
  clear eV
  refine (same_any _ _ (xG x y) _ (by have h := JS_21.out.1; rwa [xG_sum] at h) JG_21.out.1).mono ?_
  rintro e w_22 ⟨rfl, hb⟩
  clear cS0 cS1 dS0 dS1 eS cG0 cG1 dG0 dG1 eG
  have GA_22 := Lib.hid (blk_below' hb GA_21.out)
  have GB_22 := Lib.hid (blk_below' hb GB_21.out)
  have GC_22 := Lib.hid (blk_below' hb GC_21.out)
  have GG_22 := Lib.hid (blk_below' hb GG_21.out)
  have GT_22 := Lib.hid (blk_below' hb GT_21.out)
  have IA_22 := Lib.hid (IA_21.out.below hb)
  have IB_22 := Lib.hid (IB_21.out.below hb)
  have IC_22 := Lib.hid (IC_21.out.below hb)
  have JG_22 := Lib.hid (JG_21.out.below hb)
  have JT_22 := Lib.hid (JT_21.out.below hb)
  have B_22 := Lib.hid (below_of B_21.out hb)
  clear GA_21 GB_21 GC_21 GG_21 GX_21 GY_21 GM_21 GN_21 GS_21 GT_21 IA_21 IB_21 IC_21 JG_21 JX_21 JY_21 JM_21 JN_21 JS_21 JT_21 B_21
  clear hb 
  obtain ⟨cT0, cT1, dT0, dT1, eT⟩ := blk2 GT_22.out
  obtain ⟨cG0, cG1, dG0, dG1, eG⟩ := blk2 GG_22.out
  go_wp2_with fail
  refine (same_any _ _ (xG x y) _ JT_22.out.1 JG_22.out.1).mono ?_
  rintro e w_23 ⟨rfl, hb⟩
  clear cT0 cT1 dT0 dT1 eT cG0 cG1 dG0 dG1 eG
  have GA_23 := Lib.hid (blk_below' hb GA_22.out)
  have GB_23 := Lib.hid (blk_below' hb GB_22.out)
  have GC_23 := Lib.hid (blk_below' hb GC_22.out)
  have GG_23 := Lib.hid (blk_below' hb GG_22.out)
  have GT_23 := Lib.hid (blk_below' hb GT_22.out)
  have IA_23 := Lib.hid (IA_22.out.below hb)
  have IB_23 := Lib.hid (IB_22.out.below hb)
  have IC_23 := Lib.hid (IC_22.out.below hb)
  have JG_23 := Lib.hid (JG_22.out.below hb)
  have B_23 := Lib.hid (below_of B_22.out hb)
  clear GA_22 GB_22 GC_22 GG_22 GT_22 IA_22 IB_22 IC_22 JG_22 JT_22 B_22
  clear hb 
  by_cases hg : xG x y = 0
  · have HX := Lib.hid (BB.out.fz hg).1; have HY := Lib.hid (BB.out.fz hg).2; have HG := Lib.hid hg
    clear hg
    obtain ⟨cG0, cG1, dG0, dG1, eG⟩ := blk2 GG_23.out
    go_wp2_with fail
    refine (signF _ (xG x y) 0 _ JG_23.out.2 (by rw [HG.out]; rfl)).mono ?_
    rintro e w_24 ⟨rfl, hb⟩
    clear cG0 cG1 dG0 dG1 eG
    have GA_24 := Lib.hid (blk_below' hb GA_23.out)
    have GB_24 := Lib.hid (blk_below' hb GB_23.out)
    have GC_24 := Lib.hid (blk_below' hb GC_23.out)
    have GG_24 := Lib.hid (blk_below' hb GG_23.out)
    have GT_24 := Lib.hid (blk_below' hb GT_23.out)
    have IA_24 := Lib.hid (IA_23.out.below hb)
    have IB_24 := Lib.hid (IB_23.out.below hb)
    have IC_24 := Lib.hid (IC_23.out.below hb)
    have JG_24 := Lib.hid (JG_23.out.below hb)
    have B_24 := Lib.hid (below_of B_23.out hb)
    clear GA_23 GB_23 GC_23 GG_23 GT_23 IA_23 IB_23 IC_23 JG_23 B_23
    clear hb 
    obtain ⟨cG0, cG1, dG0, dG1, eG⟩ := blk2 GG_24.out
    go_wp2_with fail
    refine (signF _ (xG x y) 0 _ JG_24.out.2 (by rw [HG.out]; rfl)).mono ?_
    rintro e w_25 ⟨rfl, hb⟩
    clear cG0 cG1 dG0 dG1 eG
    have GA_25 := Lib.hid (blk_below' hb GA_24.out)
    have GB_25 := Lib.hid (blk_below' hb GB_24.out)
    have GC_25 := Lib.hid (blk_below' hb GC_24.out)
    have GG_25 := Lib.hid (blk_below' hb GG_24.out)
    have GT_25 := Lib.hid (blk_below' hb GT_24.out)
    have IA_25 := Lib.hid (IA_24.out.below hb)
    have IB_25 := Lib.hid (IB_24.out.below hb)
    have IC_25 := Lib.hid (IC_24.out.below hb)
    have JG_25 := Lib.hid (JG_24.out.below hb)
    have B_25 := Lib.hid (below_of B_24.out hb)
    clear GA_24 GB_24 GC_24 GG_24 GT_24 IA_24 IB_24 IC_24 JG_24 B_24
    clear hb 
    obtain ⟨cA0, cA1, dA0, dA1, eA⟩ := blk2 GA_25.out
    go_wp2_with fail
    refine (signF _ x 0 _ IA_25.out (by rw [HX.out]; rfl)).mono ?_
    rintro e w_26 ⟨rfl, hb⟩
    clear cA0 cA1 dA0 dA1 eA
    have GA_26 := Lib.hid (blk_below' hb GA_25.out)
    have GB_26 := Lib.hid (blk_below' hb GB_25.out)
    have GC_26 := Lib.hid (blk_below' hb GC_25.out)
    have GG_26 := Lib.hid (blk_below' hb GG_25.out)
    have GT_26 := Lib.hid (blk_below' hb GT_25.out)
    have IA_26 := Lib.hid (IA_25.out.below hb)
    have IB_26 := Lib.hid (IB_25.out.below hb)
    have IC_26 := Lib.hid (IC_25.out.below hb)
    have JG_26 := Lib.hid (JG_25.out.below hb)
    have B_26 := Lib.hid (below_of B_25.out hb)
    clear GA_25 GB_25 GC_25 GG_25 GT_25 IA_25 IB_25 IC_25 JG_25 B_25
    clear hb 
    obtain ⟨cB0, cB1, dB0, dB1, eB⟩ := blk2 GB_26.out
    go_wp2_with fail
    refine (signF _ y 0 _ IB_26.out (by rw [HY.out]; rfl)).mono ?_
    rintro e w_27 ⟨rfl, hb⟩
    clear cB0 cB1 dB0 dB1 eB
    have GA_27 := Lib.hid (blk_below' hb GA_26.out)
    have GB_27 := Lib.hid (blk_below' hb GB_26.out)
    have GC_27 := Lib.hid (blk_below' hb GC_26.out)
    have GG_27 := Lib.hid (blk_below' hb GG_26.out)
    have GT_27 := Lib.hid (blk_below' hb GT_26.out)
    have IA_27 := Lib.hid (IA_26.out.below hb)
    have IB_27 := Lib.hid (IB_26.out.below hb)
    have IC_27 := Lib.hid (IC_26.out.below hb)
    have JG_27 := Lib.hid (JG_26.out.below hb)
    have B_27 := Lib.hid (below_of B_26.out hb)
    clear GA_26 GB_26 GC_26 GG_26 GT_26 IA_26 IB_26 IC_26 JG_26 B_26
    clear hb 
    go_wp2
    go_ret
    exact ⟨rfl, B_27.out⟩
  · have HG : Hid (0 < xG x y) := Lib.hid (by have := xG_pos x y; omega)
    clear hg
    obtain ⟨cG0, cG1, dG0, dG1, eG⟩ := blk2 GG_23.out
    go_wp2_with fail
    refine (signF _ (xG x y) 1 _ JG_23.out.2 (zcmp_gt HG.out)).mono ?_
    rintro e w_24 ⟨rfl, hb⟩
    clear cG0 cG1 dG0 dG1 eG
    have GA_24 := Lib.hid (blk_below' hb GA_23.out)
    have GB_24 := Lib.hid (blk_below' hb GB_23.out)
    have GC_24 := Lib.hid (blk_below' hb GC_23.out)
    have GG_24 := Lib.hid (blk_below' hb GG_23.out)
    have GT_24 := Lib.hid (blk_below' hb GT_23.out)
    have IA_24 := Lib.hid (IA_23.out.below hb)
    have IB_24 := Lib.hid (IB_23.out.below hb)
    have IC_24 := Lib.hid (IC_23.out.below hb)
    have JG_24 := Lib.hid (JG_23.out.below hb)
    have B_24 := Lib.hid (below_of B_23.out hb)
    clear GA_23 GB_23 GC_23 GG_23 GT_23 IA_23 IB_23 IC_23 JG_23 B_23
    clear hb 
    obtain ⟨cG0, cG1, dG0, dG1, eG⟩ := blk2 GG_24.out
    go_wp2_with fail
    refine (signF _ (xG x y) 1 _ JG_24.out.2 (zcmp_gt HG.out)).mono ?_
    rintro e w_25 ⟨rfl, hb⟩
    clear cG0 cG1 dG0 dG1 eG
    have GA_25 := Lib.hid (blk_below' hb GA_24.out)
    have GB_25 := Lib.hid (blk_below' hb GB_24.out)
    have GC_25 := Lib.hid (blk_below' hb GC_24.out)
    have GG_25 := Lib.hid (blk_below' hb GG_24.out)
    have GT_25 := Lib.hid (blk_below' hb GT_24.out)
    have IA_25 := Lib.hid (IA_24.out.below hb)
    have IB_25 := Lib.hid (IB_24.out.below hb)
    have IC_25 := Lib.hid (IC_24.out.below hb)
    have JG_25 := Lib.hid (JG_24.out.below hb)
    have B_25 := Lib.hid (below_of B_24.out hb)
    clear GA_24 GB_24 GC_24 GG_24 GT_24 IA_24 IB_24 IC_24 JG_24 B_24
    clear hb 
    obtain ⟨cA0, cA1, dA0, dA1, eA⟩ := blk2 GA_25.out
    obtain ⟨cG0, cG1, dG0, dG1, eG⟩ := blk2 GG_25.out
    go_wp2_with fail
    refine (quoF _ _ x (xG x y) _ IA_25.out JG_25.out.2 BB.out.fx BB.out.fg (by have := HG.out; omega)).mono ?_
    rintro e w_26 ⟨nQ1, aQ1, kQ1, cQ1, nP1, aP1, kP1, cP1, rfl, iQ1, iP1, hb⟩
    clear cA0 cA1 dA0 dA1 eA cG0 cG1 dG0 dG1 eG
    have GA_26 := Lib.hid (blk_below' hb GA_25.out)
    have GB_26 := Lib.hid (blk_below' hb GB_25.out)
    have GC_26 := Lib.hid (blk_below' hb GC_25.out)
    have GG_26 := Lib.hid (blk_below' hb GG_25.out)
    have GT_26 := Lib.hid (blk_below' hb GT_25.out)
    have IA_26 := Lib.hid (IA_25.out.below hb)
    have IB_26 := Lib.hid (IB_25.out.below hb)
    have IC_26 := Lib.hid (IC_25.out.below hb)
    have JG_26 := Lib.hid (JG_25.out.below hb)
    have B_26 := Lib.hid (below_of B_25.out hb)
    clear GA_25 GB_25 GC_25 GG_25 GT_25 IA_25 IB_25 IC_25 JG_25 B_25
    have JP1_26 := Lib.hid iP1
    clear hb iP1
    obtain ⟨V_27, eV, hV0, hV1, belV, hszV⟩ := alloc2 w_26 (Obj.cells #[Value.bool nQ1, Value.slice aQ1 kQ1 cQ1] 25) (Obj.cells #[Value.bool nP1, Value.slice aP1 kP1 cP1] 25)
    have GA_28 := Lib.hid (blk_below' belV GA_26.out)
    have GB_28 := Lib.hid (blk_below' belV GB_26.out)
    have GC_28 := Lib.hid (blk_below' belV GC_26.out)
    have GG_28 := Lib.hid (blk_below' belV GG_26.out)
    have GT_28 := Lib.hid (blk_below' belV GT_26.out)
    have IA_28 := Lib.hid (IA_26.out.below belV)
    have IB_28 := Lib.hid (IB_26.out.below belV)
    have IC_28 := Lib.hid (IC_26.out.below belV)
    have JG_28 := Lib.hid (JG_26.out.below belV)
    have JP1_28 := Lib.hid (JP1_26.out.below belV)
    have B_28 := Lib.hid (below_of B_26.out belV)
    clear GA_26 GB_26 GC_26 GG_26 GT_26 IA_26 IB_26 IC_26 JG_26 JP1_26 B_26
    have GQ1_28 : Hid (V_27.heap[w_26.heap.size]? = some (Obj.cells #[Value.bool nQ1, Value.slice aQ1 kQ1 cQ1] 25)) := Lib.hid hV0
    have GP1_28 : Hid (V_27.heap[w_26.heap.size + 1]? = some (Obj.cells #[Value.bool nP1, Value.slice aP1 kP1 cP1] 25)) := Lib.hid hV1
    clear belV hszV hV0 hV1
    obtain ⟨cB0, cB1, dB0, dB1, eB⟩ := blk2 GB_28.out
    obtain ⟨cG0, cG1, dG0, dG1, eG⟩ := blk2 GG_28.out
    go_wp2_with fail
    clear eV
    refine (quoF _ _ y (xG x y) _ IB_28.out JG_28.out.2 BB.out.fy BB.out.fg (by have := HG.out; omega)).mono ?_
    rintro e w_29 ⟨nQ2, aQ2, kQ2, cQ2, nP2, aP2, kP2, cP2, rfl, iQ2, iP2, hb⟩
    clear cB0 cB1 dB0 dB1 eB cG0 cG1 dG0 dG1 eG
    have GA_29 := Lib.hid (blk_below' hb GA_28.out)
    have GB_29 := Lib.hid (blk_below' hb GB_28.out)
    have GC_29 := Lib.hid (blk_below' hb GC_28.out)
    have GG_29 := Lib.hid (blk_below' hb GG_28.out)
    have GT_29 := Lib.hid (blk_below' hb GT_28.out)
    have GQ1_29 := Lib.hid (blk_below' hb GQ1_28.out)
    have GP1_29 := Lib.hid (blk_below' hb GP1_28.out)
    have IA_29 := Lib.hid (IA_28.out.below hb)
    have IB_29 := Lib.hid (IB_28.out.below hb)
    have IC_29 := Lib.hid (IC_28.out.below hb)
    have JG_29 := Lib.hid (JG_28.out.below hb)
    have JP1_29 := Lib.hid (JP1_28.out.below hb)
    have B_29 := Lib.hid (below_of B_28.out hb)
    clear GA_28 GB_28 GC_28 GG_28 GT_28 GQ1_28 GP1_28 IA_28 IB_28 IC_28 JG_28 JP1_28 B_28
    have JP2_29 := Lib.hid iP2
    clear hb iP2
    obtain ⟨V_30, eV, hV0, hV1, belV, hszV⟩ := alloc2 w_29 (Obj.cells #[Value.bool nQ2, Value.slice aQ2 kQ2 cQ2] 25) (Obj.cells #[Value.bool nP2, Value.slice aP2 kP2 cP2] 25)
    have GA_31 := Lib.hid (blk_below' belV GA_29.out)
    have GB_31 := Lib.hid (blk_below' belV GB_29.out)
    have GC_31 := Lib.hid (blk_below' belV GC_29.out)
    have GG_31 := Lib.hid (blk_below' belV GG_29.out)
    have GT_31 := Lib.hid (blk_below' belV GT_29.out)
    have GQ1_31 := Lib.hid (blk_below' belV GQ1_29.out)
    have GP1_31 := Lib.hid (blk_below' belV GP1_29.out)
    have IA_31 := Lib.hid (IA_29.out.below belV)
    have IB_31 := Lib.hid (IB_29.out.below belV)
    have IC_31 := Lib.hid (IC_29.out.below belV)
    have JG_31 := Lib.hid (JG_29.out.below belV)
    have JP1_31 := Lib.hid (JP1_29.out.below belV)
    have JP2_31 := Lib.hid (JP2_29.out.below belV)
    have B_31 := Lib.hid (below_of B_29.out belV)
    clear GA_29 GB_29 GC_29 GG_29 GT_29 GQ1_29 GP1_29 IA_29 IB_29 IC_29 JG_29 JP1_29 JP2_29 B_29
    have GQ2_31 : Hid (V_30.heap[w_29.heap.size]? = some (Obj.cells #[Value.bool nQ2, Value.slice aQ2 kQ2 cQ2] 25)) := Lib.hid hV0
    have GP2_31 : Hid (V_30.heap[w_29.heap.size + 1]? = some (Obj.cells #[Value.bool nP2, Value.slice aP2 kP2 cP2] 25)) := Lib.hid hV1
    clear belV hszV hV0 hV1
    obtain ⟨cP10, cP11, dP10, dP11, eP1⟩ := blk2 GP1_31.out
    go_wp2_with fail
    clear eV
    refine (signF _ (rC x (xG x y)) 0 _ JP1_31.out.2 (by rw [BB.out.fp]; rfl)).mono ?_
    rintro e w_32 ⟨rfl, hb⟩
    clear cP10 cP11 dP10 dP11 eP1
    have GA_32 := Lib.hid (blk_below' hb GA_31.out)
    have GB_32 := Lib.hid (blk_below' hb GB_31.out)
    have GC_32 := Lib.hid (blk_below' hb GC_31.out)
    have GG_32 := Lib.hid (blk_below' hb GG_31.out)
    have GT_32 := Lib.hid (blk_below' hb GT_31.out)
    have GQ1_32 := Lib.hid (blk_below' hb GQ1_31.out)
    have GP1_32 := Lib.hid (blk_below' hb GP1_31.out)
    have GQ2_32 := Lib.hid (blk_below' hb GQ2_31.out)
    have GP2_32 := Lib.hid (blk_below' hb GP2_31.out)
    have IA_32 := Lib.hid (IA_31.out.below hb)
    have IB_32 := Lib.hid (IB_31.out.below hb)
    have IC_32 := Lib.hid (IC_31.out.below hb)
    have JG_32 := Lib.hid (JG_31.out.below hb)
    have JP1_32 := Lib.hid (JP1_31.out.below hb)
    have JP2_32 := Lib.hid (JP2_31.out.below hb)
    have B_32 := Lib.hid (below_of B_31.out hb)
    clear GA_31 GB_31 GC_31 GG_31 GT_31 GQ1_31 GP1_31 GQ2_31 GP2_31 IA_31 IB_31 IC_31 JG_31 JP1_31 JP2_31 B_31
    clear hb 
    obtain ⟨cP20, cP21, dP20, dP21, eP2⟩ := blk2 GP2_32.out
    go_wp2_with fail
    refine (signF _ (rC y (xG x y)) 0 _ JP2_32.out.2 (by rw [BB.out.fq]; rfl)).mono ?_
    rintro e w_33 ⟨rfl, hb⟩
    clear cP20 cP21 dP20 dP21 eP2
    have GA_33 := Lib.hid (blk_below' hb GA_32.out)
    have GB_33 := Lib.hid (blk_below' hb GB_32.out)
    have GC_33 := Lib.hid (blk_below' hb GC_32.out)
    have GG_33 := Lib.hid (blk_below' hb GG_32.out)
    have GT_33 := Lib.hid (blk_below' hb GT_32.out)
    have IA_33 := Lib.hid (IA_32.out.below hb)
    have IB_33 := Lib.hid (IB_32.out.below hb)
    have IC_33 := Lib.hid (IC_32.out.below hb)
    have JG_33 := Lib.hid (JG_32.out.below hb)
    have B_33 := Lib.hid (below_of B_32.out hb)
    clear GA_32 GB_32 GC_32 GG_32 GT_32 GQ1_32 GP1_32 GQ2_32 GP2_32 IA_32 IB_32 IC_32 JG_32 JP1_32 JP2_32 B_32
    clear hb 
    obtain ⟨cA0, cA1, dA0, dA1, eA⟩ := blk2 GA_33.out
    obtain ⟨cC0, cC1, dC0, dC1, eC⟩ := blk2 GC_33.out
    go_wp2_with fail
    refine (mulF _ _ x z _ IA_33.out IC_33.out BB.out.fu).mono ?_
    rintro e w_34 ⟨nU, aU, kU, cU, rfl, iU, hb⟩
    clear cA0 cA1 dA0 dA1 eA cC0 cC1 dC0 dC1 eC
    have GA_34 := Lib.hid (blk_below' hb GA_33.out)
    have GB_34 := Lib.hid (blk_below' hb GB_33.out)
    have GC_34 := Lib.hid (blk_below' hb GC_33.out)
    have GG_34 := Lib.hid (blk_below' hb GG_33.out)
    have GT_34 := Lib.hid (blk_below' hb GT_33.out)
    have IA_34 := Lib.hid (IA_33.out.below hb)
    have IB_34 := Lib.hid (IB_33.out.below hb)
    have IC_34 := Lib.hid (IC_33.out.below hb)
    have JG_34 := Lib.hid (JG_33.out.below hb)
    have B_34 := Lib.hid (below_of B_33.out hb)
    clear GA_33 GB_33 GC_33 GG_33 GT_33 IA_33 IB_33 IC_33 JG_33 B_33
    have JU_34 := Lib.hid iU
    clear hb iU
    obtain ⟨V_35, eV, hV0, belV, hszV⟩ := alloc1 w_34 (Obj.cells #[Value.bool nU, Value.slice aU kU cU] 25)
    have GA_36 := Lib.hid (blk_below' belV GA_34.out)
    have GB_36 := Lib.hid (blk_below' belV GB_34.out)
    have GC_36 := Lib.hid (blk_below' belV GC_34.out)
    have GG_36 := Lib.hid (blk_below' belV GG_34.out)
    have GT_36 := Lib.hid (blk_below' belV GT_34.out)
    have IA_36 := Lib.hid (IA_34.out.below belV)
    have IB_36 := Lib.hid (IB_34.out.below belV)
    have IC_36 := Lib.hid (IC_34.out.below belV)
    have JG_36 := Lib.hid (JG_34.out.below belV)
    have JU_36 := Lib.hid (JU_34.out.below belV)
    have B_36 := Lib.hid (below_of B_34.out belV)
    clear GA_34 GB_34 GC_34 GG_34 GT_34 IA_34 IB_34 IC_34 JG_34 JU_34 B_34
    have GU_36 : Hid (V_35.heap[w_34.heap.size]? = some (Obj.cells #[Value.bool nU, Value.slice aU kU cU] 25)) := Lib.hid hV0
    clear belV hszV hV0
    obtain ⟨cB0, cB1, dB0, dB1, eB⟩ := blk2 GB_36.out
    obtain ⟨cC0, cC1, dC0, dC1, eC⟩ := blk2 GC_36.out
    go_wp2_with fail
    clear eV
    refine (mulF _ _ y z _ IB_36.out IC_36.out BB.out.fv).mono ?_
    rintro e w_37 ⟨nV, aV, kV, cV, rfl, iV, hb⟩
    clear cB0 cB1 dB0 dB1 eB cC0 cC1 dC0 dC1 eC
    have GA_37 := Lib.hid (blk_below' hb GA_36.out)
    have GB_37 := Lib.hid (blk_below' hb GB_36.out)
    have GC_37 := Lib.hid (blk_below' hb GC_36.out)
    have GG_37 := Lib.hid (blk_below' hb GG_36.out)
    have GT_37 := Lib.hid (blk_below' hb GT_36.out)
    have GU_37 := Lib.hid (blk_below' hb GU_36.out)
    have IA_37 := Lib.hid (IA_36.out.below hb)
    have IB_37 := Lib.hid (IB_36.out.below hb)
    have IC_37 := Lib.hid (IC_36.out.below hb)
    have JG_37 := Lib.hid (JG_36.out.below hb)
    have JU_37 := Lib.hid (JU_36.out.below hb)
    have B_37 := Lib.hid (below_of B_36.out hb)
    clear GA_36 GB_36 GC_36 GG_36 GT_36 GU_36 IA_36 IB_36 IC_36 JG_36 JU_36 B_36
    have JV_37 := Lib.hid iV
    clear hb iV
    obtain ⟨V_38, eV, hV0, belV, hszV⟩ := alloc1 w_37 (Obj.cells #[Value.bool nV, Value.slice aV kV cV] 25)
    have GA_39 := Lib.hid (blk_below' belV GA_37.out)
    have GB_39 := Lib.hid (blk_below' belV GB_37.out)
    have GC_39 := Lib.hid (blk_below' belV GC_37.out)
    have GG_39 := Lib.hid (blk_below' belV GG_37.out)
    have GT_39 := Lib.hid (blk_below' belV GT_37.out)
    have GU_39 := Lib.hid (blk_below' belV GU_37.out)
    have IA_39 := Lib.hid (IA_37.out.below belV)
    have IB_39 := Lib.hid (IB_37.out.below belV)
    have IC_39 := Lib.hid (IC_37.out.below belV)
    have JG_39 := Lib.hid (JG_37.out.below belV)
    have JU_39 := Lib.hid (JU_37.out.below belV)
    have JV_39 := Lib.hid (JV_37.out.below belV)
    have B_39 := Lib.hid (below_of B_37.out belV)
    clear GA_37 GB_37 GC_37 GG_37 GT_37 GU_37 IA_37 IB_37 IC_37 JG_37 JU_37 JV_37 B_37
    have GV_39 : Hid (V_38.heap[w_37.heap.size]? = some (Obj.cells #[Value.bool nV, Value.slice aV kV cV] 25)) := Lib.hid hV0
    clear belV hszV hV0
    obtain ⟨cG0, cG1, dG0, dG1, eG⟩ := blk2 GG_39.out
    obtain ⟨cC0, cC1, dC0, dC1, eC⟩ := blk2 GC_39.out
    go_wp2_with fail
    clear eV
    have STAY : Hid (∀ w', Below V_38.heap.size V_38 w' → w'.cell? ⟨w_7.heap.size, 0, none⟩ = some (.bool nG) ∧ w'.cell? ⟨w_7.heap.size, 1, none⟩ = some (.slice aG kG cG) ∧ w'.cell? ⟨w.heap.size + 1 + 1, 0, none⟩ = some (.bool n2) ∧ w'.cell? ⟨w.heap.size + 1 + 1, 1, none⟩ = some (.slice a2 k2 c2) ∧ Below V_38.heap.size V_38 w' ∧ V_38.heap.size ≤ w'.heap.size) := Lib.hid (fun w' h => ⟨cell_to h cG0 eG, cell_to h cG1 eG, cell_to h cC0 eC, cell_to h cC1 eC, h, h.size⟩)
    have AB : Hid (∀ w1, Below V_38.heap.size V_38 w1 → Calls Tryz.prog 16 #[.agg #[.bool n2, .slice a2 k2 c2]] w1 fun e w' => Res0 w1 w' e (z.natAbs : Int)) := Lib.hid (fun w1 h => absF _ z w1 (IC_39.out.below h) BB.out.fd)
    have ML : Hid (∀ v w1, Below V_38.heap.size V_38 w1 → IntR w1 v (z.natAbs : Int) → Calls Tryz.prog 11 #[.agg #[.bool nG, .slice aG kG cG], v] w1 fun e w' => Res1 w1 w' e (xG x y * (z.natAbs : Int))) := Lib.hid (fun v w1 h hv => mulF _ _ (xG x y) (z.natAbs : Int) w1 (JG_39.out.below h).2 hv.2 BB.out.fw)
    have hB0 := (Below.refl V_38.heap.size V_38).drew
    clear cG0 cG1 dG0 dG1 eG cC0 cC1 dC0 dC1 eC
    go_cut [27, 16] (fun s t wx => WBox V_38 wx (xG x y * (z.natAbs : Int)) s t)
    case first =>
      go_region_held3 (fun w' => w'.cell? ⟨w_7.heap.size, 0, none⟩ = some (.bool nG) ∧ w'.cell? ⟨w_7.heap.size, 1, none⟩ = some (.slice aG kG cG) ∧ w'.cell? ⟨w.heap.size + 1 + 1, 0, none⟩ = some (.bool n2) ∧ w'.cell? ⟨w.heap.size + 1 + 1, 1, none⟩ = some (.slice a2 k2 c2) ∧ Below V_38.heap.size V_38 w' ∧ V_38.heap.size ≤ w'.heap.size)
        (((try go_split_ands); refine STAY.out _ ?_; repeat (first | (with_reducible assumption) | (with_reducible exact Below.refl _ _) | (with_reducible refine Below.drew ?_) | (with_reducible exact below_to (by with_reducible assumption) (by with_reducible assumption)) | ((with_reducible refine Below.alloc ?_ ?_ _); rotate_left; (focus (first | omega | (simp; done) | (simp; omega)))) | ((with_reducible refine Below.setCell ?_ ?_ _); rotate_left; (focus (first | omega | (simp; done) | (simp; omega)))))))
        (first
        | (go_at_call 16; go_split_ands; (with_reducible refine Calls.mono (AB.out _ (by with_reducible assumption)) ?_); rintro e w5 ⟨m5, d5, l5, e5, rfl, ii5, hb5⟩; have hk5 := below_to hb5 (by with_reducible assumption); have hz5 := hk5.size; obtain ⟨hc5, hf5⟩ := bcell hb5; have hy5 := hb5.size; (try simp only [sz_alloc, sz_set, sz_drew] at hy5); (try (have hqV_385 : V_38.heap.size < w5.heap.size := by omega)); (try (have hrV_385 : V_38.heap.size + 1 < w5.heap.size := by omega)))
        | (go_at_call 11; go_split_ands; (with_reducible refine Calls.mono (ML.out _ _ (by with_reducible assumption) ?_) ?_); ((repeat (first | (with_reducible assumption) | (with_reducible refine intr_allocz ?_) | (with_reducible refine intr_drewz ?_)))); rintro e w6 ⟨m6, d6, l6, e6, rfl, ii6, hb6⟩; have hk6 := below_to hb6 (by with_reducible assumption); have hz6 := hk6.size; obtain ⟨hc6, hf6⟩ := bcell hb6; have hy6 := hb6.size; (try simp only [sz_alloc, sz_set, sz_drew] at hy6); (try (have hqV_386 : V_38.heap.size < w6.heap.size := by omega)); (try (have hrV_386 : V_38.heap.size + 1 < w6.heap.size := by omega)); (try (have hqw56 : w5.heap.size < w6.heap.size := by omega)); (try (have hrw56 : w5.heap.size + 1 < w6.heap.size := by omega))))
      all_goals
        (go_wp2_with fail
         go_meet
         clear hc5 hf5 hc6 hf6
         refine ⟨_, m6, d6, l6, e6, rfl, rfl, ?_, ?_, ?_, ?_⟩)
      all_goals
        repeat (first | (with_reducible assumption) | ((with_reducible refine blk_newz ?_); (first | omega | (simp only [sz_alloc, sz_set, sz_drew]; omega) | (focus (simp only [sz_alloc, sz_set, sz_drew]; done)))) | ((with_reducible refine blk_ltz ?_ ?_); (first | omega | (simp only [sz_alloc, sz_set, sz_drew]; omega) | (focus (simp only [sz_alloc, sz_set, sz_drew]; done)))) | (with_reducible refine blk_own2z ?_) | ((with_reducible refine blk_twoz ?_ ?_); (first | omega | (simp only [sz_alloc, sz_set, sz_drew]; omega) | (focus (simp only [sz_alloc, sz_set, sz_drew]; done)))) | (with_reducible refine blk_drew ?_) | ((with_reducible refine blk_below hb6 ?_ ?_); (first | omega | (simp only [sz_alloc, sz_set, sz_drew]; omega) | (focus (simp only [sz_alloc, sz_set, sz_drew]; done)))) | ((with_reducible refine blk_below hb5 ?_ ?_); (first | omega | (simp only [sz_alloc, sz_set, sz_drew]; omega) | (focus (simp only [sz_alloc, sz_set, sz_drew]; done)))) | (with_reducible refine intr_allocz ?_) | (with_reducible refine intr_set2z ?_ ?_) | (with_reducible refine intr_callz hb6 ?_) | (with_reducible refine intr_callz hb5 ?_) | (with_reducible exact Below.refl _ _) | (with_reducible refine Below.drew ?_) | ((with_reducible refine Below.alloc ?_ ?_ _); rotate_left; (focus (first | omega | (simp; done) | (simp; omega)))) | ((with_reducible refine Below.setCell ?_ ?_ _); rotate_left; (focus (first | omega | (simp; done) | (simp; omega)))) | (first | omega | (simp only [sz_alloc, sz_set, sz_drew]; omega) | (focus (simp only [sz_alloc, sz_set, sz_drew]; done))))
    case rest =>
      obtain ⟨gW, nW, aW, kW, cW, rfl, rfl, hgW, hGW, hIW, hbW⟩ := hcut
      generalize wc = wW at *
      have NT : Hid (gW ≠ w_19.heap.size) := Lib.hid (by have := (Array.getElem?_eq_some_iff.1 GT_39.out).1; omega)
      have GT_40 := Lib.hid (blk_below' hbW GT_39.out)
      have GU_40 := Lib.hid (blk_below' hbW GU_39.out)
      have GV_40 := Lib.hid (blk_below' hbW GV_39.out)
      have JU_40 := Lib.hid (JU_39.out.below hbW)
      have JV_40 := Lib.hid (JV_39.out.below hbW)
      have B_40 := Lib.hid (below_of B_39.out hbW)
      clear GA_39 GB_39 GC_39 GG_39 GT_39 GU_39 GV_39 IA_39 IB_39 IC_39 JG_39 JU_39 JV_39 B_39
      have GW_40 := Lib.hid hGW; have JW_40 := Lib.hid hIW
      clear hgW hGW hIW hbW AB ML STAY hB0
      obtain ⟨cU0, cU1, dU0, dU1, eU⟩ := blk2 GU_40.out
      obtain ⟨cV0, cV1, dV0, dV1, eV⟩ := blk2 GV_40.out
      go_wp2_with fail
      refine (gcd2F _ (x * z) (y * z) (xG x y * (z.natAbs : Int)) _ (intl_two (heap_alloc_new wW (Obj.cells #[Value.bool nU, Value.slice aU kU cU, Value.bool nV, Value.slice aV kV cV] 25)) ((JU_40.out.2).below (nuc_new wW (Obj.cells #[Value.bool nU, Value.slice aU kU cU, Value.bool nV, Value.slice aV kV cV] 25))) ((JV_40.out.2).below (nuc_new wW (Obj.cells #[Value.bool nU, Value.slice aU kU cU, Value.bool nV, Value.slice aV kV cV] 25)))) BB.out.fu BB.out.fv BB.out.fe).mono ?_
      rintro e w_41 ⟨nR, aR, kR, cR, rfl, iR, hb0⟩
      have hb := below_of (nuc_new wW (Obj.cells #[Value.bool nU, Value.slice aU kU cU, Value.bool nV, Value.slice aV kV cV] 25)) hb0
      clear hb0 cU0 cU1 dU0 dU1 eU cV0 cV1 dV0 dV1 eV
      have GT_41 := Lib.hid (blk_below' hb GT_40.out)
      have GU_41 := Lib.hid (blk_below' hb GU_40.out)
      have GV_41 := Lib.hid (blk_below' hb GV_40.out)
      have GW_41 := Lib.hid (blk_below' hb GW_40.out)
      have JU_41 := Lib.hid (JU_40.out.below hb)
      have JV_41 := Lib.hid (JV_40.out.below hb)
      have JW_41 := Lib.hid (JW_40.out.below hb)
      have B_41 := Lib.hid (below_of B_40.out hb)
      clear GT_40 GU_40 GV_40 GW_40 JU_40 JV_40 JW_40 B_40
      have JR_41 := Lib.hid iR
      clear hb iR
      clear GU_41
      clear GV_41
      clear JU_41 JV_41
      obtain ⟨y0, y1, z0, z1, ye⟩ := blk2 GT_41.out
      obtain ⟨V_42, eV⟩ : ∃ V, (w_41.setCell ⟨w_19.heap.size, 0, none⟩ (.bool nR)).setCell ⟨w_19.heap.size, 1, none⟩ (.slice aR kR cR) = V := ⟨_, rfl⟩
      have GT_42 : Hid (V_42.heap[w_19.heap.size]? = some (Obj.cells #[Value.bool nR, Value.slice aR kR cR] 25)) := Lib.hid (by rw [← eV]; exact blk_set (blk_set GT_41.out rfl) rfl)
      have GW_42 : Hid (V_42.heap[gW]? = some (Obj.cells #[Value.bool nW, Value.slice aW kW cW] 25)) := Lib.hid (by rw [← eV]; exact blk_far2 GW_41.out NT.out)
      have JW_42 := Lib.hid (eV ▸ (JW_41.out.far (y0 := .bool nR) (y1 := .slice aR kR cR) GT_41.out))
      have JR_42 := Lib.hid (eV ▸ (JR_41.out.far (y0 := .bool nR) (y1 := .slice aR kR cR) GT_41.out))
      have B_42 : Hid (Below w.heap.size w V_42) := Lib.hid (by rw [← eV]; exact set_below (set_below B_41.out LT.out) LT.out)
      clear GT_41 GW_41 JW_41 JR_41 B_41
      obtain ⟨cT0, cT1, dT0, dT1, eT⟩ := blk2 GT_42.out
      obtain ⟨cW0, cW1, dW0, dW1, eW⟩ := blk2 GW_42.out
      go_wp2_with fail
      clear eV y0 y1 z0 z1 ye
      refine (same_any _ _ (xG x y * (z.natAbs : Int)) _ JR_42.out.1 JW_42.out.1).mono ?_
      rintro e w_43 ⟨rfl, hb⟩
      clear cT0 cT1 dT0 dT1 eT cW0 cW1 dW0 dW1 eW
      have GT_43 := Lib.hid (blk_below' hb GT_42.out)
      have GW_43 := Lib.hid (blk_below' hb GW_42.out)
      have JW_43 := Lib.hid (JW_42.out.below hb)
      have JR_43 := Lib.hid (JR_42.out.below hb)
      have B_43 := Lib.hid (below_of B_42.out hb)
      clear GT_42 GW_42 JW_42 JR_42 B_42
      clear hb 
      go_wp2
      go_ret
      exact ⟨rfl, B_43.out⟩
end Go.Proofs.YtfdilnfmcpbkgaaGreatDoor
