/- tribunalref02: gcd of two amounts. -/
import Derived.Test.YtfdilnfmcpbkgaaGreatDoorYQ
import Derived.Test.YtfdilnfmcpbkgaaGreatDoorYP
import Derived.Test.YtfdilnfmcpbkgaaGreatDoorZT
set_option linter.unusedVariables false
set_option linter.unusedSimpArgs false
namespace Go.Proofs.YtfdilnfmcpbkgaaGreatDoor
open Go.RowKit Mth

theorem rC_nat (a b : Nat) : rC (a : Int) (b : Int) = ((a % b : Nat) : Int) := by
  unfold rC
  rw [Int.natAbs_natCast, Int.natAbs_natCast, sgn_nat]
  rfl
theorem ZV.len0 {w : World} {ao : Option Addr} {n : Bool} {k c b : Nat} (h : ZV w (.agg #[.bool n, .slice ao k c]) (b : Int)) : k = 0 ↔ b = 0 := by
  obtain ⟨_, ys, _, hl, ht, hv, rfl⟩ := h.parts
  rw [Int.natAbs_natCast] at hv
  constructor
  · intro h0; obtain rfl : ys = [] := List.eq_nil_of_length_eq_zero h0; rw [← hv]; rfl
  · intro h0
    rcases Nat.eq_zero_or_pos ys.length with h1 | h1
    · exact h1
    · have h2 := val_ge_top (B := B16) ht h1
      have h3 : 0 < B16 ^ (ys.length - 1) := Nat.pow_pos (by unfold B16; omega)
      omega
/-- not too great for the reference (a name: the bound itself must not stand open in a walk) -/
structure LtD (b : Nat) : Prop where
  out : b < HugeD
/-- what gcd's loop holds -/
def RgO (w wr : World) (G : Nat) : Prop := ∃ (a b : Nat) (x y : Option Addr) (m1 c1 m2 c2 : Nat), wr.heap[w.heap.size]? = some (.cells #[.bool false, .slice x m1 c1] 58 (0, 0)) ∧ wr.heap[w.heap.size + 1]? = some (.cells #[.bool false, .slice y m2 c2] 58 (0, 0)) ∧
  wr.heap[w.heap.size + 1 + 1]? = some (.cells #[.bool false, .slice none 0 0] 58 (0, 0)) ∧ ZV wr (.agg #[.bool false, .slice x m1 c1]) a ∧ ZV wr (.agg #[.bool false, .slice y m2 c2]) b ∧ Nat.gcd a b = G ∧ LtD b ∧ Below w.heap.size w wr
theorem blk_own2 {w : World} {g : Nat} {a b x y : Value} {T : TypeId} (h : w.heap[g]? = some (.cells #[a, b] T (0, 0))) : ((w.setCell ⟨g, 0, none⟩ x).setCell ⟨g, 1, none⟩ y).heap[g]? = some (.cells #[x, y] T (0, 0)) :=
  heap_setCell_same _ g 1 _ _ y (heap_setCell_same w g 0 _ _ x h)
theorem zv_false {w : World} {v : Value} {n : Nat} (h : ZV w v (sg false n)) : ∃ ao k c, v = .agg #[.bool false, .slice ao k c] ∧ ZV w v (n : Int) := by
  have h' : ZV w v (n : Int) := h
  obtain ⟨m, ao, k, c, rfl⟩ := h'.shape
  obtain ⟨e, _⟩ := h'.parts
  rw [sgn_nat] at e
  subst e
  exact ⟨ao, k, c, rfl, h'⟩
def bIn (w : World) (g : Nat) : Nat := match w.cell? ⟨g, 1, none⟩ with | some v => numIn16 w v | none => 0
theorem bIn_eq {w : World} {g : Nat} {n : Bool} {y : Option Addr} {m c b : Nat} {T : TypeId} (h : w.heap[g]? = some (.cells #[.bool n, .slice y m c] T (0, 0))) (hz : ZV w (.agg #[.bool n, .slice y m c]) (b : Int)) : bIn w g = b := by
  obtain ⟨_, h1, _⟩ := blk2 h
  obtain ⟨_, ys, s, l, t, e, _⟩ := hz.parts
  unfold bIn
  rw [h1]
  simp only
  rw [numIn16_eq s, e, Int.natAbs_natCast]

set_option maxHeartbeats 4000000 in
set_option maxRecDepth 100000 in
theorem rgcd2_any (va vb : Value) (x y : Int) (w : World) (ha : ZV w va x) (hb : ZV w vb y) (hy : y.natAbs < HugeD) :
    Calls Tryz.prog 48 #[va, vb] w fun e w' => ∃ v', e = .returned v' ∧ ZV w' v' ((Nat.gcd x.natAbs y.natAbs : Nat) : Int) ∧ Below w.heap.size w w' := by
  obtain ⟨n1, a1, k1, c1, rfl⟩ := ha.shape
  obtain ⟨n2, a2, k2, c2, rfl⟩ := hb.shape
  have QA : Hid (QNum w (.slice a1 k1 c1) x.natAbs) := Lib.hid (by obtain ⟨_, ys, s, l, t, e, _⟩ := ha.parts; exact ⟨ys, s, l, t, e⟩)
  have QB : Hid (QNum w (.slice a2 k2 c2) y.natAbs) := Lib.hid (by obtain ⟨_, ys, s, l, t, e, _⟩ := hb.parts; exact ⟨ys, s, l, t, e⟩)
  have HY : Hid (LtD y.natAbs) := Lib.hid ⟨hy⟩
  clear ha hb hy
  go_enter Tryz.func48, Tryz.ntmps48
  go_wp2_with fail
  obtain ⟨W, eW, h1, h2, h3, bel, hsz⟩ := alloc3 w (Obj.cells #[Value.bool n1, Value.slice a1 k1 c1] 58) (Obj.cells #[Value.bool n2, Value.slice a2 k2 c2] 58) (Obj.cells #[Value.bool false, Value.slice none 0 0] 58)
  rw [eW]
  have B := Lib.hid bel
  have HB1 := Lib.hid h2
  have HR1 : Hid (W.heap[w.heap.size + 1 + 1]? = _) := Lib.hid h3
  have HA1 := Lib.hid h1
  have hsz' : w.heap.size + 1 + 1 < W.heap.size := hsz
  clear eW h1 h2 h3 bel hsz
  refine (qmake false _ x.natAbs W (QA.out.below B.out)).mono ?_
  rintro e w1 ⟨v1, rfl, z1, hb1⟩
  obtain ⟨d1, l1, e1, rfl, z1'⟩ := zv_false z1
  have hA1 := blk_below' hb1 HA1.out
  obtain ⟨p0, p1, f0, f1, _⟩ := blk2 hA1
  obtain ⟨V1, eV1⟩ : ∃ V, (w1.setCell ⟨w.heap.size, 0, none⟩ (.bool false)).setCell ⟨w.heap.size, 1, none⟩ (.slice d1 l1 e1) = V := ⟨_, rfl⟩
  have A2 : Hid (V1.heap[w.heap.size]? = some (.cells #[.bool false, .slice d1 l1 e1] 58 (0, 0))) := Lib.hid (by rw [← eV1]; exact blk_own2 hA1)
  have B2 : Hid (V1.heap[w.heap.size + 1]? = some (.cells #[.bool n2, .slice a2 k2 c2] 58 (0, 0))) := Lib.hid (by rw [← eV1]; exact blk_two (blk_below' hb1 HB1.out) (by omega))
  have R2 : Hid (V1.heap[w.heap.size + 1 + 1]? = some (.cells #[.bool false, .slice none 0 0] 58 (0, 0))) := Lib.hid (by rw [← eV1]; exact blk_two (blk_below' hb1 HR1.out) (by omega))
  have Z2 : Hid (ZV V1 (.agg #[.bool false, .slice d1 l1 e1]) (x.natAbs : Int)) := Lib.hid (by rw [← eV1]; exact z1'.far hA1)
  have BV1 : Hid (Below w.heap.size w V1) := Lib.hid (by rw [← eV1]; exact ((below_of B.out hb1).setCell (p := ⟨w.heap.size, 0, none⟩) (Nat.le_refl _) _).setCell (p := ⟨w.heap.size, 1, none⟩) (Nat.le_refl _) _)
  obtain ⟨q0, q1, _, _, _⟩ := blk2 B2.out
  clear hA1 z1 z1' hb1 HA1 HB1 HR1
  go_wp2_with fail
  clear eV1 p0 p1 f0 f1
  refine (qmake false _ y.natAbs V1 (QB.out.below BV1.out)).mono ?_
  rintro e w2 ⟨v2, rfl, z2, hb2⟩
  obtain ⟨d2, l2, e2, rfl, z2'⟩ := zv_false z2
  have hB2 := blk_below' hb2 B2.out
  obtain ⟨p0, p1, f0, f1, _⟩ := blk2 hB2
  obtain ⟨V2, eV2⟩ : ∃ V, (w2.setCell ⟨w.heap.size + 1, 0, none⟩ (.bool false)).setCell ⟨w.heap.size + 1, 1, none⟩ (.slice d2 l2 e2) = V := ⟨_, rfl⟩
  have ST : Hid (RgO w V2 (Nat.gcd x.natAbs y.natAbs)) := Lib.hid (by
    rw [← eV2]
    refine ⟨x.natAbs, y.natAbs, d1, d2, l1, e1, l2, e2, blk_two (blk_below' hb2 A2.out) (by omega), blk_own2 hB2, blk_two (blk_below' hb2 R2.out) (by omega), (Z2.out.below hb2).far hB2, z2'.far hB2, rfl, HY.out, ?_⟩
    exact ((below_of BV1.out hb2).setCell (p := ⟨w.heap.size + 1, 0, none⟩) (by simp) _).setCell (p := ⟨w.heap.size + 1, 1, none⟩) (by simp) _)
  clear hB2 z2 z2' hb2 A2 B2 R2 Z2 BV1 q0 q1
  go_wp2_with fail
  clear eV2 p0 p1 f0 f1
  go_loopw [] (fun wr => RgO w wr (Nat.gcd x.natAbs y.natAbs)) (fun wr => bIn wr (w.heap.size + 1))
  case atStart => exact ST.out
  case round =>
    obtain ⟨a, b, xa, ya, m1, c1, m2, c2, hA, hB, hR, zA, zB, hG, hlt, hbel⟩ := hrel
    have HL := Lib.hid (zB.len0)
    have HM := Lib.hid (bIn_eq hB zB)
    obtain ⟨p0, p1, f0, f1, _⟩ := blk2 hA
    obtain ⟨q0, q1, g0, g1, _⟩ := blk2 hB
    obtain ⟨r0, r1, s0, s1, _⟩ := blk2 hR
    have HA := Lib.hid hA; have HB := Lib.hid hB; have HR := Lib.hid hR; have ZA := Lib.hid zA; have ZB := Lib.hid zB; have HG := Lib.hid hG; have HLT := Lib.hid hlt; have BB := Lib.hid hbel
    clear hA hB hR zA zB hG hlt hbel
    by_cases h0 : b = 0
    · have hd : ¬ 0 < m2 := by have := HL.out.2 h0; omega
      have E : Hid (a = Nat.gcd x.natAbs y.natAbs) := Lib.hid (by rw [← HG.out, h0, Nat.gcd_zero_right])
      clear h0
      go_wp2
      refine bodyPost_ret (v := .agg #[.bool false, .slice xa m1 c1]) ?_ rfl ⟨_, rfl, by rw [← E.out]; exact ZA.out.far HR.out, (BB.out.setCell (p := ⟨w.heap.size + 1 + 1, 0, none⟩) (by simp; omega) _).setCell (p := ⟨w.heap.size + 1 + 1, 1, none⟩) (by simp; omega) _⟩
      simp [results, Tryz.results48, go_sem, *]
    · have hd : 0 < m2 := by have := HL.out.1; omega
      have CU := Lib.hid (cut_any _ _ (a : Int) (b : Int) wr ZA.out ZB.out (by rw [Int.natAbs_natCast]; exact HLT.out.out) (by omega))
      have NZ : Hid (0 < b) := Lib.hid (by omega)
      clear h0
      go_wp2_with fail
      refine CU.out.mono ?_
      rintro e w3 ⟨vq, vr, rfl, zq, zr, hb3⟩
      rw [rC_nat] at zr
      obtain ⟨nq, aq, kq, cq, rfl⟩ := zq.shape
      obtain ⟨ar, kr, cr, rfl, zr'⟩ := zv_false (w := w3) (v := vr) (n := a % b) zr
      have hz3 := hb3.size
      obtain ⟨U, eU, hQ, hRb, belU, hsU⟩ := alloc2 w3 (Obj.cells #[Value.bool nq, Value.slice aq kq cq] 58) (Obj.cells #[Value.bool false, Value.slice ar kr cr] 58)
      have hAu := blk_below' belU (blk_below' hb3 HA.out)
      have hBu := blk_below' belU (blk_below' hb3 HB.out)
      have hRu := blk_below' belU (blk_below' hb3 HR.out)
      have hlw : w.heap.size + 1 + 1 < w3.heap.size := Nat.lt_of_lt_of_le (Array.getElem?_eq_some_iff.1 HR.out).1 hz3
      obtain ⟨P0, P1, F0, F1, _⟩ := blk2 hAu
      obtain ⟨Q0, Q1, G0, G1, _⟩ := blk2 hBu
      obtain ⟨S0, S1, _, _, _⟩ := blk2 hRb
      obtain ⟨X1, eX1⟩ : ∃ V, (U.setCell ⟨w.heap.size, 0, none⟩ (.bool false)).setCell ⟨w.heap.size, 1, none⟩ (.slice ya m2 c2) = V := ⟨_, rfl⟩
      have hA4 : X1.heap[w.heap.size]? = some (.cells #[.bool false, .slice ya m2 c2] 58 (0, 0)) := by rw [← eX1]; exact blk_own2 hAu
      have hB4 : X1.heap[w.heap.size + 1]? = some (.cells #[.bool false, .slice ya m2 c2] 58 (0, 0)) := by rw [← eX1]; exact blk_two hBu (by omega)
      have hR4 : X1.heap[w.heap.size + 1 + 1]? = some (.cells #[.bool false, .slice none 0 0] 58 (0, 0)) := by rw [← eX1]; exact blk_two hRu (by omega)
      have hC4 : X1.heap[w3.heap.size + 1]? = some (.cells #[.bool false, .slice ar kr cr] 58 (0, 0)) := by rw [← eX1]; exact blk_two hRb (by omega)
      have zB4 : ZV X1 (.agg #[.bool false, .slice ya m2 c2]) (b : Int) := by rw [← eX1]; exact ((ZB.out.below hb3).below belU).far hAu
      have zR4 : ZV X1 (.agg #[.bool false, .slice ar kr cr]) ((a % b : Nat) : Int) := by rw [← eX1]; exact (zr'.below belU).far hAu
      have B4 : Below w.heap.size w X1 := by rw [← eX1]; exact ((below_of (below_of BB.out hb3) belU).setCell (p := ⟨w.heap.size, 0, none⟩) (Nat.le_refl _) _).setCell (p := ⟨w.heap.size, 1, none⟩) (Nat.le_refl _) _
      obtain ⟨T0, T1, I0, I1, _⟩ := blk2 hB4
      obtain ⟨C0, C1, _, _, _⟩ := blk2 hC4
      have REL : Hid (RgO w ((X1.setCell ⟨w.heap.size + 1, 0, none⟩ (.bool false)).setCell ⟨w.heap.size + 1, 1, none⟩ (.slice ar kr cr)) (Nat.gcd x.natAbs y.natAbs) ∧ bIn ((X1.setCell ⟨w.heap.size + 1, 0, none⟩ (.bool false)).setCell ⟨w.heap.size + 1, 1, none⟩ (.slice ar kr cr)) (w.heap.size + 1) < b) := Lib.hid (by
        have h5 := blk_own2 (x := .bool false) (y := .slice ar kr cr) hB4
        have z5 := zR4.far (y0 := .bool false) (y1 := .slice ar kr cr) hB4
        refine ⟨⟨b, a % b, ya, ar, m2, c2, kr, cr, blk_two hA4 (by omega), h5, blk_two hR4 (by omega), zB4.far hB4, z5, by rw [← HG.out, Nat.gcd_comm a b, Nat.gcd_rec b a, Nat.gcd_comm], ⟨Nat.lt_trans (Nat.mod_lt _ NZ.out) HLT.out.out⟩, ?_⟩, ?_⟩
        · exact (B4.setCell (p := ⟨w.heap.size + 1, 0, none⟩) (by simp) _).setCell (p := ⟨w.heap.size + 1, 1, none⟩) (by simp) _
        · rw [bIn_eq h5 z5]; exact Nat.mod_lt _ NZ.out)
      clear zq zr zr' hb3 hQ hRb belU hsU hAu hBu hRu hA4 hB4 hR4 hC4 zB4 zR4 B4 CU
      go_wp2
      go_roundw
      case rel => exact REL.out.1
      case measure => rw [HM.out]; exact REL.out.2
end Go.Proofs.YtfdilnfmcpbkgaaGreatDoor
