/- RI2 RH RK. -/
import Derived.Test.YthgmebnihpjnoaaGreatDoorQB1
import Derived.Test.YthgmebnihpjnoaaGreatDoorYB4
import Derived.Test.YthgmebnihpjnoaaGreatDoorY2
import Derived.Deep.RegionWith
set_option linter.unusedVariables false
set_option linter.unusedSimpArgs false
/- What is long for tribunalref03. -/
namespace Go.Proofs.YthgmebnihpjnoaaGreatDoor
open Go.RowKit Mth

theorem zv_longR {w : World} {n : Bool} {ao : Option Addr} {k c : Nat} {z : Int} (h : ZV w (.agg #[.bool n, .slice ao k c]) z) : 4096 < k ↔ BigR ≤ z.natAbs := by
  obtain ⟨_, ys, h1, h2, h3, h4, rfl⟩ := h.parts
  have := hlong_gen (m := 4 * maxR) h2 h3
  rw [← b64_b16, h4] at this
  exact this
set_option maxRecDepth 100000 in
theorem long3_any (v : Value) (z : Int) (r : Bool) (w : World) (h : ZV w v z) (hr : decide (BigR ≤ z.natAbs) = r) : Calls Tryz.prog 40 #[v] w fun e w' => e = .returned (.bool r) ∧ Below w.heap.size w w' := by
  obtain ⟨n, ao, k, c, rfl⟩ := h.shape
  have hl := zv_longR h
  have E : Hid (decide ((4096 : Int) < (k : Int)) = r) := Lib.hid (by
    rw [← hr]
    by_cases hb : BigR ≤ z.natAbs
    · rw [decide_eq_true hb, decide_eq_true (by have := hl.2 hb; omega)]
    · rw [decide_eq_false hb, decide_eq_false (fun h => hb (hl.1 (by omega)))])
  clear h hl hr
  go_enter Tryz.func40, Tryz.ntmps40
  go_wp2
  go_ret
  exact ⟨by rw [← E.out]; rfl, (Below.refl _ _).alloc (Nat.le_refl _) _⟩
end Go.Proofs.YthgmebnihpjnoaaGreatDoor

/- tribunalref03: gcd. -/
namespace Go.Proofs.YthgmebnihpjnoaaGreatDoor
open Go.RowKit Mth

theorem bIn_abs {w : World} {g : Nat} {n : Bool} {y : Option Addr} {m c : Nat} {b : Int} {T : TypeId} (h : w.heap[g]? = some (.cells #[.bool n, .slice y m c] T (0, 0))) (hz : ZV w (.agg #[.bool n, .slice y m c]) b) : bIn w g = b.natAbs := by
  obtain ⟨_, h1, _⟩ := blk2 h
  obtain ⟨_, ys, s, l, t, e, _⟩ := hz.parts
  unfold bIn
  rw [h1]
  simp only
  rw [numIn16_eq s, e]
theorem ZV.lenz {w : World} {ao : Option Addr} {n : Bool} {k c : Nat} {b : Int} (h : ZV w (.agg #[.bool n, .slice ao k c]) b) : k = 0 ↔ b = 0 := by
  obtain ⟨_, ys, s, l, t, e, rfl⟩ := h.parts
  constructor
  · intro h0
    have : ys = [] := List.eq_nil_of_length_eq_zero h0
    rw [this] at e
    have : (0 : Nat) = b.natAbs := e
    omega
  · rintro rfl
    by_cases h1 : 0 < ys.length
    · have h2 := val_ge_top (B := B16) t h1
      have h3 : 0 < B16 ^ (ys.length - 1) := Nat.pow_pos (by unfold B16; omega)
      rw [e] at h2
      have : (0 : Int).natAbs = 0 := rfl
      omega
    · omega
/-- what gcd's loop holds -/
def Rg3 (w wr : World) (G : Nat) : Prop := ∃ (a b : Int) (n1 : Bool) (x : Option Addr) (m1 c1 : Nat) (n2 : Bool) (y : Option Addr) (m2 c2 : Nat), wr.heap[w.heap.size]? = some (.cells #[.bool n1, .slice x m1 c1] 66 (0, 0)) ∧ wr.heap[w.heap.size + 1]? = some (.cells #[.bool n2, .slice y m2 c2] 66 (0, 0)) ∧
  wr.heap[w.heap.size + 1 + 1]? = some (.cells #[.bool false, .slice none 0 0] 66 (0, 0)) ∧ ZV wr (.agg #[.bool n1, .slice x m1 c1]) a ∧ ZV wr (.agg #[.bool n2, .slice y m2 c2]) b ∧ Nat.gcd a.natAbs b.natAbs = G ∧ LtD b.natAbs ∧ Below w.heap.size w wr

set_option maxHeartbeats 8000000 in
set_option maxRecDepth 100000 in
theorem rgcd3_any (va vb : Value) (x y : Int) (w : World) (ha : ZV w va x) (hb : ZV w vb y) (hy : y.natAbs < HugeD) :
    Calls Tryz.prog 47 #[va, vb] w fun e w' => ∃ v', e = .returned v' ∧ ZV w' v' ((Nat.gcd x.natAbs y.natAbs : Nat) : Int) ∧ Below w.heap.size w w' := by
  obtain ⟨n1, a1, k1, c1, rfl⟩ := ha.shape
  obtain ⟨n2, a2, k2, c2, rfl⟩ := hb.shape
  have HA := Lib.hid ha; have HB := Lib.hid hb; have HY : Hid (LtD y.natAbs) := Lib.hid ⟨hy⟩
  clear ha hb hy
  go_enter Tryz.func47, Tryz.ntmps47
  go_wp2_with fail
  obtain ⟨W, eW, h1, h2, h3, bel, hsz⟩ := alloc3 w (Obj.cells #[Value.bool n1, Value.slice a1 k1 c1] 66) (Obj.cells #[Value.bool n2, Value.slice a2 k2 c2] 66) (Obj.cells #[Value.bool false, Value.slice none 0 0] 66)
  rw [eW]
  have ST : Hid (Rg3 w W (Nat.gcd x.natAbs y.natAbs)) := Lib.hid ⟨x, y, n1, a1, k1, c1, n2, a2, k2, c2, h1, h2, h3, HA.out.below bel, HB.out.below bel, rfl, HY.out, bel⟩
  have hsz' : w.heap.size + 1 + 1 < W.heap.size := hsz
  clear eW h1 h2 h3 bel hsz HA HB HY
  go_loopw [] (fun wr => Rg3 w wr (Nat.gcd x.natAbs y.natAbs)) (fun wr => bIn wr (w.heap.size + 1))
  case atStart => exact ST.out
  case round =>
    obtain ⟨a, b, m1, xa, j1, e1, m2, ya, j2, e2, hA, hB, hR, zA, zB, hG, hlt, hbel⟩ := hrel
    have HL := Lib.hid (zB.lenz)
    have HM := Lib.hid (bIn_abs hB zB)
    obtain ⟨p0, p1, f0, f1, _⟩ := blk2 hA
    obtain ⟨q0, q1, g0, g1, _⟩ := blk2 hB
    have HA := Lib.hid hA; have HB := Lib.hid hB; have HR := Lib.hid hR; have ZA := Lib.hid zA; have ZB := Lib.hid zB; have HG := Lib.hid hG; have HLT := Lib.hid hlt; have BB := Lib.hid hbel
    have hszr : w.heap.size + 1 + 1 < wr.heap.size := (Array.getElem?_eq_some_iff.1 hR).1
    clear hA hB hR zA zB hG hlt hbel
    by_cases h0 : b = 0
    · have hd : ¬ 0 < j2 := by have := HL.out.2 h0; omega
      have E : Hid (a.natAbs = Nat.gcd x.natAbs y.natAbs) := Lib.hid (by rw [← HG.out, h0]; simp)
      have MK : Hid (∀ w1, Below wr.heap.size wr w1 → Calls Tryz.prog 80 #[.bool false, .slice xa j1 e1] w1 fun e w' => ∃ v', e = .returned v' ∧ ZV w' v' (sg false a.natAbs) ∧ Below w1.heap.size w1 w') := Lib.hid (fun w1 h => qmake false _ a.natAbs w1 (by obtain ⟨_, ys, s, l, t, e, _⟩ := ZA.out.parts; exact ⟨ys, s.below h, l, t, e⟩))
      have MW := Lib.hid (MK.out wr (Below.refl _ _))
      clear h0 MK q0 g0 g1 f0 f1
      go_wp2_with fail
      refine MW.out.mono ?_
      rintro e w3 ⟨v3, rfl, z3, hb3⟩
      obtain ⟨d3, l3, t3, rfl, z3'⟩ := zv_false z3
      have hR3 := blk_below' hb3 HR.out
      obtain ⟨r0, r1, s0, s1, _⟩ := blk2 hR3
      have Z3 := Lib.hid (z3'.far (y0 := .bool false) (y1 := .slice d3 l3 t3) hR3)
      have B3 := Lib.hid (below_of BB.out hb3)
      have hle : w.heap.size ≤ w.heap.size + 1 + 1 := by omega
      clear z3 z3' hR3 hb3
      go_wp2
      refine bodyPost_ret (v := .agg #[.bool false, .slice d3 l3 t3]) ?_ rfl ⟨_, rfl, by rw [← E.out]; exact Z3.out, (B3.out.setCell (p := ⟨w.heap.size + 1 + 1, 0, none⟩) hle _).setCell (p := ⟨w.heap.size + 1 + 1, 1, none⟩) hle _⟩
      simp [results, Tryz.results47, go_sem, *]
    · have hd : 0 < j2 := by have := HL.out.1; omega
      have CU := Lib.hid (cut_any _ _ a b wr ZA.out ZB.out HLT.out.out h0)
      have NZ : Hid (0 < b.natAbs) := Lib.hid (by omega)
      clear h0
      go_wp2_with fail
      refine CU.out.mono ?_
      rintro e w3 ⟨vq, vr, rfl, zq, zr, hb3⟩
      obtain ⟨nq, aq, kq, cq, rfl⟩ := zq.shape
      obtain ⟨nr, ar, kr, cr, rfl⟩ := zr.shape
      have hz3 := hb3.size
      obtain ⟨U, eU, hQ, hRb, belU, hsU⟩ := alloc2 w3 (Obj.cells #[Value.bool nq, Value.slice aq kq cq] 66) (Obj.cells #[Value.bool nr, Value.slice ar kr cr] 66)
      have AU := Lib.hid (blk_below' belU (blk_below' hb3 HA.out)); have BU := Lib.hid (blk_below' belU (blk_below' hb3 HB.out)); have RU := Lib.hid (blk_below' belU (blk_below' hb3 HR.out))
      have ZBU := Lib.hid ((ZB.out.below hb3).below belU)
      have BBU := Lib.hid (below_of (below_of BB.out hb3) belU)
      have QR : Hid (QNum U (.slice ar kr cr) (a.natAbs % b.natAbs)) := Lib.hid (by
        obtain ⟨_, ys, s, l, t, e, _⟩ := (zr.below belU).parts
        rw [amt_rC] at e
        exact ⟨ys, s, l, t, e⟩)
      have HRb : Hid (U.heap[w3.heap.size + 1]? = _) := Lib.hid hRb
      have MK : Hid (∀ w1, Below U.heap.size U w1 → Calls Tryz.prog 80 #[.bool false, .slice ar kr cr] w1 fun e w' => ∃ v', e = .returned v' ∧ ZV w' v' (sg false (a.natAbs % b.natAbs)) ∧ Below w1.heap.size w1 w') := Lib.hid (fun w1 h => qmake false _ _ w1 (QR.out.below h))
      clear zq zr hb3 hQ hRb belU CU p0 p1 f0 f1 q0 q1 g0 g1 ZA ZB HA HB HR
      go_wp2_with fail
      try rw [eU]
      clear eU
      obtain ⟨P0, P1, F0, F1, lP⟩ := blk2 AU.out
      obtain ⟨Q0, Q1, G0, G1, lQ⟩ := blk2 BU.out
      obtain ⟨S0, S1, _, _, lS⟩ := blk2 HRb.out
      have hBd := (Below.refl U.heap.size U).drew
      go_region_with (first
        | (go_at_call 80; refine (MK.out _ hBd).mono ?_; rintro e w4 ⟨v4, rfl, z4, hb4⟩; obtain ⟨d4, l4, e4, rfl, z4'⟩ := zv_false z4; have hb4' : Below U.heap.size U w4 := below_to hb4 hBd; obtain ⟨PP0, PP1, FF0, FF1, lPP⟩ := blk2 (blk_below' hb4' AU.out); obtain ⟨QQ0, QQ1, GG0, GG1, lQQ⟩ := blk2 (blk_below' hb4' BU.out)))
      all_goals
        have REL : Hid (Rg3 w ((((w4.setCell ⟨w.heap.size, 0, none⟩ (.bool m2)).setCell ⟨w.heap.size, 1, none⟩ (.slice ya j2 e2)).setCell ⟨w.heap.size + 1, 0, none⟩ (.bool false)).setCell ⟨w.heap.size + 1, 1, none⟩ (.slice d4 l4 e4)) (Nat.gcd x.natAbs y.natAbs) ∧ bIn ((((w4.setCell ⟨w.heap.size, 0, none⟩ (.bool m2)).setCell ⟨w.heap.size, 1, none⟩ (.slice ya j2 e2)).setCell ⟨w.heap.size + 1, 0, none⟩ (.bool false)).setCell ⟨w.heap.size + 1, 1, none⟩ (.slice d4 l4 e4)) (w.heap.size + 1) < b.natAbs) := Lib.hid (by
          have hA4 := blk_below' hb4' AU.out
          have hB4 := blk_below' hb4' BU.out
          have hR4 := blk_below' hb4' RU.out
          have bA : IsB w4 w.heap.size 66 := ⟨_, _, _, _, hA4⟩
          have bB : IsB w4 (w.heap.size + 1) 66 := ⟨_, _, _, _, hB4⟩
          have z5 : ZV ((((w4.setCell ⟨w.heap.size, 0, none⟩ (.bool m2)).setCell ⟨w.heap.size, 1, none⟩ (.slice ya j2 e2)).setCell ⟨w.heap.size + 1, 0, none⟩ (.bool false)).setCell ⟨w.heap.size + 1, 1, none⟩ (.slice d4 l4 e4)) (.agg #[.bool false, .slice d4 l4 e4]) ((a.natAbs % b.natAbs : Nat) : Int) := zv_two (zv_two z4' bA) (bB.far (by omega))
          have h5 := blk_own2 (x := .bool false) (y := .slice d4 l4 e4) (blk_two (y0 := .bool m2) (y1 := .slice ya j2 e2) hB4 (show w.heap.size + 1 ≠ w.heap.size by omega))
          refine ⟨⟨b, ((a.natAbs % b.natAbs : Nat) : Int), m2, ya, j2, e2, false, d4, l4, e4, blk_two (blk_own2 hA4) (by omega), h5, blk_two (blk_two hR4 (by omega)) (by omega), zv_two (zv_two (ZBU.out.below hb4') bA) (bB.far (by omega)), z5, ?_, ?_, ?_⟩, ?_⟩
          · rw [Int.natAbs_natCast, ← HG.out, Nat.gcd_comm b.natAbs]; exact (Nat.gcd_rec b.natAbs a.natAbs).symm.trans (Nat.gcd_comm _ _)
          · rw [Int.natAbs_natCast]; exact ⟨Nat.lt_trans (Nat.mod_lt _ NZ.out) HLT.out.out⟩
          · exact ((((below_of BBU.out hb4').setCell (p := ⟨w.heap.size, 0, none⟩) (by simp) _).setCell (p := ⟨w.heap.size, 1, none⟩) (by simp) _).setCell (p := ⟨w.heap.size + 1, 0, none⟩) (by simp) _).setCell (p := ⟨w.heap.size + 1, 1, none⟩) (by simp) _
          · rw [bIn_abs h5 z5, Int.natAbs_natCast]; exact Nat.mod_lt _ NZ.out)
        clear z4 z4' hb4 hb4'
        go_wp2
        go_roundw
        case rel => exact REL.out.1
        case measure => rw [HM.out]; exact REL.out.2
end Go.Proofs.YthgmebnihpjnoaaGreatDoor

/- tribunalref03: Low. -/
namespace Go.Proofs.YthgmebnihpjnoaaGreatDoor
open Go.RowKit Mth

theorem Sl.ne4 {w : World} {k : IntKind} {v : Value} {xs : List Nat} {R b off : Nat} {T : TypeId} {x x' : Bool} {ao ao' : Option Addr} {n c n' c' : Nat} {cap : Nat} (h : Sl w k v xs) (hR : w.heap[R]? = some (.cells #[.bool x, .slice ao n c, .bool x', .slice ao' n' c'] T (0, 0))) (e : v = .slice (some ⟨b, off, none⟩) xs.length cap) (hp : 0 < xs.length) : b ≠ R := by
  rintro rfl
  obtain ⟨ao', cap', e', _, _, _, _, h5⟩ := h
  obtain ⟨b', off', e2, _, hc⟩ := h5 hp
  rw [e] at e'
  simp only [Value.slice.injEq] at e'
  obtain ⟨rfl, _, _⟩ := e'
  simp only [Option.some.injEq, Addr.mk.injEq] at e2
  obtain ⟨rfl, rfl, _⟩ := e2
  have := hc 0 hp
  rw [cell_of_row w b _ _ _ (0, 0) hR] at this
  have h2 : off + 0 < 4 := (Array.getElem?_eq_some_iff.1 this).1
  have : off = 0 ∨ off = 1 ∨ off = 2 ∨ off = 3 := by omega
  rcases this with rfl | rfl | rfl | rfl <;> simp at this
theorem ZV.far4 {w : World} {v y0 y1 y2 y3 : Value} {z : Int} {R : Nat} {T : TypeId} {x x' : Bool} {ao ao' : Option Addr} {n c n' c' : Nat} (h : ZV w v z) (hR : w.heap[R]? = some (.cells #[.bool x, .slice ao n c, .bool x', .slice ao' n' c'] T (0, 0))) : ZV ((((w.setCell ⟨R, 0, none⟩ y0).setCell ⟨R, 1, none⟩ y1).setCell ⟨R, 2, none⟩ y2).setCell ⟨R, 3, none⟩ y3) v z := by
  obtain ⟨u, e, ys, h1, h2⟩ := h
  have hne : ∀ b off cap, u = .slice (some ⟨b, off, none⟩) ys.length cap → 0 < ys.length → b ≠ R := fun b off cap e hp => h1.ne4 hR e hp
  exact ⟨u, e, ys, (((h1.set_far hne).set_far hne).set_far hne).set_far hne, h2⟩
theorem blk4q {w : World} {g : Nat} {a b c d : Value} {T : TypeId} (h : w.heap[g]? = some (.cells #[a, b, c, d] T (0, 0))) :
    (w.cell? ⟨g, 0, none⟩ = some a ∧ w.cell? ⟨g, 1, none⟩ = some b ∧ w.cell? ⟨g, 2, none⟩ = some c ∧ w.cell? ⟨g, 3, none⟩ = some d) ∧ (w.frozen? ⟨g, 0, none⟩ = false ∧ w.frozen? ⟨g, 1, none⟩ = false ∧ w.frozen? ⟨g, 2, none⟩ = false ∧ w.frozen? ⟨g, 3, none⟩ = false) ∧ g < w.heap.size := by
  refine ⟨⟨?_, ?_, ?_, ?_⟩, ⟨frozen_of_row w g 0 _ _ h, frozen_of_row w g 1 _ _ h, frozen_of_row w g 2 _ _ h, frozen_of_row w g 3 _ _ h⟩, (Array.getElem?_eq_some_iff.1 h).1⟩ <;> (rw [cell_of_row w g _ _ _ (0, 0) h]; rfl)
theorem alloc1q (w : World) (o : Obj) : ∃ W, w.alloc o = W ∧ W.heap[w.heap.size]? = some o ∧ Below w.heap.size w W ∧ w.heap.size < W.heap.size :=
  ⟨_, rfl, heap_alloc_new w o, (Below.refl _ _).alloc (Nat.le_refl _) _, by simp⟩
/-- the reference's fraction in memory -/
def QV (w : World) (v : Value) (x : Int) (d : Nat) : Prop := ∃ (m : Bool) (a : Option Addr) (k c : Nat) (m' : Bool) (a' : Option Addr) (k' c' : Nat), v = .agg #[.bool m, .slice a k c, .bool m', .slice a' k' c'] ∧ ZV w (.agg #[.bool m, .slice a k c]) x ∧ ZV w (.agg #[.bool m', .slice a' k' c']) (d : Int)
theorem QV.below {w w' : World} {v : Value} {x : Int} {d : Nat} (h : QV w v x d) (hb : Below w.heap.size w w') : QV w' v x d := by
  obtain ⟨m, a, k, c, m', a', k', c', e, h1, h2⟩ := h
  exact ⟨m, a, k, c, m', a', k', c', e, h1.below hb, h2.below hb⟩
theorem low_qC (x : Int) {d : Nat} (h : 0 < d) : qC x ((Nat.gcd x.natAbs d : Nat) : Int) = lowN x d ∧ qC (d : Int) ((Nat.gcd x.natAbs d : Nat) : Int) = (lowD x d : Int) := by
  unfold qC lowN lowD
  rw [sgn_nat, sgn_nat, Int.natAbs_natCast, Int.natAbs_natCast]
  refine ⟨by cases sgn x <;> rfl, rfl⟩

set_option maxRecDepth 100000 in
set_option maxHeartbeats 4000000 in
theorem rlow_any (va vb : Value) (x : Int) (d : Nat) (w : World) (ha : ZV w va x) (hb : ZV w vb (d : Int)) (h0 : 0 < d) (hd : d < HugeD) :
    Calls Tryz.prog 61 #[va, vb] w fun e w' => ∃ v', e = .returned v' ∧ QV w' v' (lowN x d) (lowD x d) ∧ Below w.heap.size w w' := by
  obtain ⟨n1, a1, k1, c1, rfl⟩ := ha.shape
  obtain ⟨n2, a2, k2, c2, rfl⟩ := hb.shape
  obtain ⟨e2, _⟩ := hb.parts
  rw [sgn_nat] at e2
  subst e2
  have HA := Lib.hid ha; have HB := Lib.hid hb
  have hg0 : (((Nat.gcd x.natAbs d : Nat) : Int)) ≠ 0 := by have := gcd_posD (n := x.natAbs) h0; omega
  have hg1 : (((Nat.gcd x.natAbs d : Nat) : Int)).natAbs < HugeD := by rw [Int.natAbs_natCast]; exact Nat.lt_of_le_of_lt (Nat.gcd_le_right _ h0) hd
  have LQ := Lib.hid (low_qC x h0)
  have GC : Hid (∀ w1, Below w.heap.size w w1 → Calls Tryz.prog 47 #[.agg #[.bool n1, .slice a1 k1 c1], .agg #[.bool false, .slice a2 k2 c2]] w1 fun e w' => ∃ v', e = .returned v' ∧ ZV w' v' ((Nat.gcd x.natAbs d : Nat) : Int) ∧ Below w1.heap.size w1 w') :=
    Lib.hid (fun w1 h => by have := rgcd3_any _ _ x (d : Int) w1 (HA.out.below h) (HB.out.below h) (by rw [Int.natAbs_natCast]; exact hd); rwa [Int.natAbs_natCast] at this)
  have CA : Hid (∀ v w1, Below w.heap.size w w1 → ZV w1 v ((Nat.gcd x.natAbs d : Nat) : Int) → Calls Tryz.prog 90 #[.agg #[.bool n1, .slice a1 k1 c1], v] w1 fun e w' => ∃ v1 v2, e = .returned (.tuple #[v1, v2]) ∧ ZV w' v1 (lowN x d) ∧ ZV w' v2 (rC x ((Nat.gcd x.natAbs d : Nat) : Int)) ∧ Below w1.heap.size w1 w') :=
    Lib.hid (fun v w1 h hv => by rw [← LQ.out.1]; exact cut_any _ _ x _ w1 (HA.out.below h) hv hg1 hg0)
  have CB : Hid (∀ v w1, Below w.heap.size w w1 → ZV w1 v ((Nat.gcd x.natAbs d : Nat) : Int) → Calls Tryz.prog 90 #[.agg #[.bool false, .slice a2 k2 c2], v] w1 fun e w' => ∃ v1 v2, e = .returned (.tuple #[v1, v2]) ∧ ZV w' v1 (lowD x d : Int) ∧ ZV w' v2 (rC (d : Int) ((Nat.gcd x.natAbs d : Nat) : Int)) ∧ Below w1.heap.size w1 w') :=
    Lib.hid (fun v w1 h hv => by rw [← LQ.out.2]; exact cut_any _ _ (d : Int) _ w1 (HB.out.below h) hv hg1 hg0)
  clear ha hb hg0 hg1 HA HB h0 hd LQ
  go_enter Tryz.func61, Tryz.ntmps61
  go_wp2_with fail
  obtain ⟨W, eW, h1, h2, h3, bel, hsz⟩ := alloc3 w (Obj.cells #[Value.bool n1, Value.slice a1 k1 c1] 66) (Obj.cells #[Value.bool false, Value.slice a2 k2 c2] 66) (Obj.cells #[Value.bool false, Value.slice none 0 0, Value.bool false, Value.slice none 0 0] 71)
  try rw [eW]
  have BW := Lib.hid bel; have H1 := Lib.hid h1; have H2 := Lib.hid h2; have H3 : Hid (W.heap[w.heap.size + 1 + 1]? = _) := Lib.hid h3
  obtain ⟨p0, p1, _, _, lp⟩ := blk2 h1
  obtain ⟨q0, q1, _, _, lq⟩ := blk2 h2
  clear eW h1 h2 h3 bel hsz
  try go_wp2_with fail
  refine (GC.out W BW.out).mono ?_
  rintro e w3 ⟨v3, rfl, z3, hb3⟩
  obtain ⟨n3, a3, k3, c3, rfl⟩ := z3.shape
  obtain ⟨U, eU, hG, belU, hsU⟩ := alloc1q w3 (Obj.cells #[Value.bool n3, Value.slice a3 k3 c3] 66)
  have BU := Lib.hid (below_of (below_of BW.out hb3) belU)
  have ZU := Lib.hid (z3.below belU)
  have U1 := Lib.hid (blk_below' belU (blk_below' hb3 H1.out)); have U2 := Lib.hid (blk_below' belU (blk_below' hb3 H2.out)); have U3 := Lib.hid (blk_below' belU (blk_below' hb3 H3.out)); have UG := Lib.hid hG
  have hz3 := hb3.size
  clear p0 p1 q0 q1
  obtain ⟨p0, p1, _, _, lp'⟩ := blk2 U1.out
  obtain ⟨g0, g1, _, _, lg'⟩ := blk2 hG
  clear z3 hb3 hG belU H1 H2 H3 BW
  go_wp2_with fail
  try rw [eU]
  clear eU p0 p1 g0 g1
  refine (CA.out _ U BU.out ZU.out).mono ?_
  rintro e w4 ⟨v4, v5, rfl, z4, z5, hb4⟩
  obtain ⟨n4, a4, k4, c4, rfl⟩ := z4.shape
  obtain ⟨n5, a5, k5, c5, rfl⟩ := z5.shape
  obtain ⟨Y, eY, hQ, -, belY, hsY⟩ := alloc2 w4 (Obj.cells #[Value.bool n4, Value.slice a4 k4 c4] 66) (Obj.cells #[Value.bool n5, Value.slice a5 k5 c5] 66)
  have BY := Lib.hid (below_of (below_of BU.out hb4) belY)
  have ZY := Lib.hid ((ZU.out.below hb4).below belY)
  have ZN := Lib.hid (z4.below belY)
  have Y2 := Lib.hid (blk_below' belY (blk_below' hb4 U2.out)); have Y3 := Lib.hid (blk_below' belY (blk_below' hb4 U3.out)); have YG := Lib.hid (blk_below' belY (blk_below' hb4 UG.out)); have YQ := Lib.hid hQ
  have hz4 := hb4.size
  obtain ⟨q0, q1, _, _, lq2⟩ := blk2 Y2.out
  obtain ⟨g0, g1, _, _, lg2⟩ := blk2 YG.out
  clear z4 z5 hb4 hQ belY U1 U2 U3 UG BU ZU
  go_wp2_with fail
  try rw [eY]
  clear eY q0 q1 g0 g1
  refine (CB.out _ Y BY.out ZY.out).mono ?_
  rintro e w6 ⟨v6, v7, rfl, z6, z7, hb6⟩
  obtain ⟨n6, a6, k6, c6, rfl⟩ := z6.shape
  obtain ⟨n7, a7, k7, c7, rfl⟩ := z7.shape
  obtain ⟨X, eX, hP, -, belX, hsX⟩ := alloc2 w6 (Obj.cells #[Value.bool n6, Value.slice a6 k6 c6] 66) (Obj.cells #[Value.bool n7, Value.slice a7 k7 c7] 66)
  have BX := Lib.hid (below_of (below_of BY.out hb6) belX)
  have hX2 := blk_below' belX (blk_below' hb6 Y2.out); have hX3 := blk_below' belX (blk_below' hb6 Y3.out); have hXQ := blk_below' belX (blk_below' hb6 YQ.out)
  have F1 := Lib.hid (((ZN.out.below hb6).below belX).far4 (y0 := .bool n4) (y1 := .slice a4 k4 c4) (y2 := .bool n6) (y3 := .slice a6 k6 c6) hX3)
  have F2 := Lib.hid ((z6.below belX).far4 (y0 := .bool n4) (y1 := .slice a4 k4 c4) (y2 := .bool n6) (y3 := .slice a6 k6 c6) hX3)
  have hz6 := hb6.size
  clear z6 z7 hb6 belX Y2 Y3 YG YQ BY ZY ZN
  obtain ⟨q0, q1, _, _, lq3⟩ := blk2 hX2
  obtain ⟨s0, s1, _, _, ls3⟩ := blk2 hXQ
  obtain ⟨t0, t1, _, _, lt3⟩ := blk2 hP
  obtain ⟨⟨r0, r1, r2, r3⟩, ⟨f0, f1, f2, f3⟩, lr3⟩ := blk4q hX3
  clear hX2 hX3 hXQ hP
  have hle : w.heap.size ≤ w.heap.size + 1 + 1 := by omega
  go_wp2
  refine bodyPost_ret (v := .agg #[.bool n4, .slice a4 k4 c4, .bool n6, .slice a6 k6 c6]) ?_ rfl ⟨_, rfl, ⟨_, _, _, _, _, _, _, _, rfl, F1.out, F2.out⟩, (((BX.out.setCell (p := ⟨w.heap.size + 1 + 1, 0, none⟩) hle _).setCell (p := ⟨w.heap.size + 1 + 1, 1, none⟩) hle _).setCell (p := ⟨w.heap.size + 1 + 1, 2, none⟩) hle _).setCell (p := ⟨w.heap.size + 1 + 1, 3, none⟩) hle _⟩
  simp [results, Tryz.results61, go_sem, *]
end Go.Proofs.YthgmebnihpjnoaaGreatDoor
