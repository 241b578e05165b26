/- tribunalref02: Cut, two. -/
import Derived.Test.YtfdilnfmcpbkgaaGreatDoorYL
set_option linter.unusedVariables false
set_option linter.unusedSimpArgs false
namespace Go.Proofs.YtfdilnfmcpbkgaaGreatDoor
open Go.RowKit Mth

/-- a block of a sign and a slice -/
def IsB (w : World) (R : Nat) (T : TypeId) : Prop := ∃ x ao n c, w.heap[R]? = some (.cells #[.bool x, .slice ao n c] T (0, 0))
theorem IsB.call {w w' : World} {R : Nat} {T : TypeId} (h : IsB w R T) (hb : Below w.heap.size w w') : IsB w' R T := by
  obtain ⟨x, a, n, c, h⟩ := h
  exact ⟨x, a, n, c, (hb.block R (Array.getElem?_eq_some_iff.1 h).1).trans h⟩
theorem blk_two {w : World} {g R : Nat} {y0 y1 : Value} {o : Obj} (h : w.heap[g]? = some o) (hne : g ≠ R) : ((w.setCell ⟨R, 0, none⟩ y0).setCell ⟨R, 1, none⟩ y1).heap[g]? = some o := by
  rw [heap_setCell_other _ ⟨R, 1, none⟩ g _ hne, heap_setCell_other _ ⟨R, 0, none⟩ g _ hne]; exact h
theorem IsB.set {w : World} {R : Nat} {T : TypeId} (h : IsB w R T) (x : Bool) (ao : Option Addr) (n c : Nat) : IsB ((w.setCell ⟨R, 0, none⟩ (.bool x)).setCell ⟨R, 1, none⟩ (.slice ao n c)) R T := by
  obtain ⟨y, a, m, d, h⟩ := h
  exact ⟨_, _, _, _, heap_setCell_same _ R 1 _ _ (.slice ao n c) (heap_setCell_same w R 0 _ _ (.bool x) h)⟩
theorem IsB.far {w : World} {R Q : Nat} {T : TypeId} {y0 y1 : Value} (h : IsB w R T) (hne : R ≠ Q) : IsB ((w.setCell ⟨Q, 0, none⟩ y0).setCell ⟨Q, 1, none⟩ y1) R T := by
  obtain ⟨y, a, m, d, h⟩ := h
  exact ⟨y, a, m, d, blk_two h hne⟩
/-- two boxes stay, two result blocks are the call's to write -/
def Z2 (w w' : World) (A B R1 R2 : Nat) (oa ob : Obj) (T : TypeId) : Prop := Below w.heap.size w w' ∧ w'.heap[A]? = some oa ∧ w'.heap[B]? = some ob ∧ IsB w' R1 T ∧ IsB w' R2 T
theorem Z2.call {w w1 w2 : World} {A B R1 R2 : Nat} {oa ob : Obj} {T : TypeId} (h : Z2 w w1 A B R1 R2 oa ob T) (hb : Below w1.heap.size w1 w2) : Z2 w w2 A B R1 R2 oa ob T :=
  ⟨below_of h.1 hb, (hb.block _ (Array.getElem?_eq_some_iff.1 h.2.1).1).trans h.2.1, (hb.block _ (Array.getElem?_eq_some_iff.1 h.2.2.1).1).trans h.2.2.1, h.2.2.2.1.call hb, h.2.2.2.2.call hb⟩
theorem Z2.drew {w w1 : World} {A B R1 R2 : Nat} {oa ob : Obj} {T : TypeId} (h : Z2 w w1 A B R1 R2 oa ob T) : Z2 w w1.drew A B R1 R2 oa ob T := ⟨h.1.drew, h.2⟩
theorem Z2.set1 {w w1 : World} {A B R1 R2 : Nat} {oa ob : Obj} {T : TypeId} {x : Bool} {ao : Option Addr} {n c : Nat} (h : Z2 w w1 A B R1 R2 oa ob T) (h1 : w.heap.size ≤ R1) (hA : A ≠ R1) (hB : B ≠ R1) (h2 : R2 ≠ R1) :
    Z2 w ((w1.setCell ⟨R1, 0, none⟩ (.bool x)).setCell ⟨R1, 1, none⟩ (.slice ao n c)) A B R1 R2 oa ob T :=
  ⟨(h.1.setCell (p := ⟨R1, 0, none⟩) h1 _).setCell (p := ⟨R1, 1, none⟩) h1 _, blk_two h.2.1 hA, blk_two h.2.2.1 hB, h.2.2.2.1.set _ _ _ _, h.2.2.2.2.far h2⟩
theorem Z2.set2 {w w1 : World} {A B R1 R2 : Nat} {oa ob : Obj} {T : TypeId} {x : Bool} {ao : Option Addr} {n c : Nat} (h : Z2 w w1 A B R1 R2 oa ob T) (h1 : w.heap.size ≤ R2) (hA : A ≠ R2) (hB : B ≠ R2) (h2 : R1 ≠ R2) :
    Z2 w ((w1.setCell ⟨R2, 0, none⟩ (.bool x)).setCell ⟨R2, 1, none⟩ (.slice ao n c)) A B R1 R2 oa ob T :=
  ⟨(h.1.setCell (p := ⟨R2, 0, none⟩) h1 _).setCell (p := ⟨R2, 1, none⟩) h1 _, blk_two h.2.1 hA, blk_two h.2.2.1 hB, h.2.2.2.1.far h2, h.2.2.2.2.set _ _ _ _⟩
theorem zv_two {w : World} {v y0 y1 : Value} {z : Int} {R : Nat} {T : TypeId} (h : ZV w v z) (hR : IsB w R T) : ZV ((w.setCell ⟨R, 0, none⟩ y0).setCell ⟨R, 1, none⟩ y1) v z := by
  obtain ⟨x, a, n, c, hR⟩ := hR
  exact h.far hR
/-- Make of an amount -/
theorem qmake (g : Bool) (u : Value) (m : Nat) (w : World) (h : QNum w u m) : Calls Tryz.prog 27 #[.bool g, u] w fun e w' => ∃ v', e = .returned v' ∧ ZV w' v' (sg g m) ∧ Below w.heap.size w w' := by
  obtain ⟨ys, s, l, _, rfl⟩ := h
  refine (make_any g u ys w s l).mono ?_
  rintro e w' ⟨v', he, hz, hb⟩
  exact ⟨v', he, hz.below hb, hb⟩
theorem QNum.below' {w w' : World} {v : Value} {n : Nat} (h : QNum w v n) (hb : Below w.heap.size w w') : QNum w' v n := h.below hb

set_option maxHeartbeats 4000000 in
set_option maxRecDepth 100000 in
theorem cut_any (va vb : Value) (x y : Int) (w : World) (ha : ZV w va x) (hb : ZV w vb y) (hy : y.natAbs < HugeD) (h0 : y ≠ 0) :
    Calls Tryz.prog 29 #[va, vb] w fun e w' => ∃ v1 v2, e = .returned (.tuple #[v1, v2]) ∧ ZV w' v1 (qC x y) ∧ ZV w' v2 (rC x y) ∧ Below w.heap.size w w' := by
  obtain ⟨n1, a1, k1, c1, rfl⟩ := ha.shape
  obtain ⟨n2, a2, k2, c2, rfl⟩ := hb.shape
  obtain ⟨rfl, xs, s1, l1, t1, e1, rfl⟩ := ha.parts
  obtain ⟨rfl, ys, s2, l2, t2, e2, rfl⟩ := hb.parts
  have HDIV : Hid (∀ w1, Below w.heap.size w w1 → Calls Tryz.prog 54 #[.slice a1 xs.length c1, .slice a2 ys.length c2] w1 fun e w' => ∃ vq vr, e = .returned (.tuple #[vq, vr]) ∧ QNum w' vq (x.natAbs / y.natAbs) ∧ QNum w' vr (x.natAbs % y.natAbs) ∧ Below w1.heap.size w1 w') := Lib.hid (fun w1 hb => by
    have h := divD_any _ _ xs y.natAbs w1 (s1.below hb) l1 (qlen_of ⟨ys, s2.below hb, l2, t2, e2⟩ hy) (by omega)
    rwa [e1] at h)
  clear ha hb s1 s2 l1 l2 t1 t2 e1 e2 hy h0
  generalize xs.length = k1 at *
  generalize ys.length = k2 at *
  go_enter Tryz.func29, Tryz.ntmps29
  go_wp2_with fail
  obtain ⟨W, eW, h1, h2, h3, h4, bel, hsz⟩ := alloc4 w (Obj.cells #[Value.bool (sgn x), Value.slice a1 k1 c1] 58) (Obj.cells #[Value.bool (sgn y), Value.slice a2 k2 c2] 58) (Obj.cells #[Value.bool false, Value.slice none 0 0] 58) (Obj.cells #[Value.bool false, Value.slice none 0 0] 58)
  rw [eW]
  have Z0 : Hid (Z2 w W w.heap.size (w.heap.size + 1) (w.heap.size + 1 + 1) (w.heap.size + 1 + 1 + 1) (Obj.cells #[Value.bool (sgn x), Value.slice a1 k1 c1] 58) (Obj.cells #[Value.bool (sgn y), Value.slice a2 k2 c2] 58) 58) := Lib.hid ⟨bel, h1, h2, ⟨_, _, _, _, h3⟩, ⟨_, _, _, _, h4⟩⟩
  have B := Lib.hid bel
  clear eW h1 h2 h3 h4 bel hsz
  refine (HDIV.out W B.out).mono ?_
  rintro e w1 ⟨vq, vr, rfl, hq, hr, hb1⟩
  obtain ⟨aq, kq, cq, rfl⟩ := hq.shape
  obtain ⟨ar, kr, cr, rfl⟩ := hr.shape
  have Z1 := Lib.hid (Z0.out.call hb1)
  have HQ := Lib.hid (show QNum w1.drew (.slice aq kq cq) (x.natAbs / y.natAbs) from hq); have HR := Lib.hid (show QNum w1.drew (.slice ar kr cr) (x.natAbs % y.natAbs) from hr)
  obtain ⟨P, hP⟩ : ∃ P : World → Prop, P = fun w' => Z2 w w' w.heap.size (w.heap.size + 1) (w.heap.size + 1 + 1) (w.heap.size + 1 + 1 + 1) (Obj.cells #[Value.bool (sgn x), Value.slice a1 k1 c1] 58) (Obj.cells #[Value.bool (sgn y), Value.slice a2 k2 c2] 58) 58 := ⟨_, rfl⟩
  have PC : Hid (∀ u v, P u → Below u.heap.size u v → P v) := Lib.hid (by rw [hP]; exact fun u v h hb => h.call hb)
  have PS1 : Hid (∀ (u : World) (x : Bool) (ao : Option Addr) (n c : Nat), P u → P ((u.setCell ⟨w.heap.size + 1 + 1, 0, none⟩ (.bool x)).setCell ⟨w.heap.size + 1 + 1, 1, none⟩ (.slice ao n c))) := Lib.hid (by rw [hP]; exact fun u x ao n c h => h.set1 (by omega) (by omega) (by omega) (by omega))
  have PS2 : Hid (∀ (u : World) (x : Bool) (ao : Option Addr) (n c : Nat), P u → P ((u.setCell ⟨w.heap.size + 1 + 1 + 1, 0, none⟩ (.bool x)).setCell ⟨w.heap.size + 1 + 1 + 1, 1, none⟩ (.slice ao n c))) := Lib.hid (by rw [hP]; exact fun u x ao n c h => h.set2 (by omega) (by omega) (by omega) (by omega))
  have STAY : Hid (∀ w', P w' → w'.cell? ⟨w.heap.size, 0, none⟩ = some (.bool (sgn x)) ∧ w'.cell? ⟨w.heap.size + 1, 0, none⟩ = some (.bool (sgn y)) ∧ P w') :=
    Lib.hid (by rw [hP]; exact fun w' h => ⟨(blk2 h.2.1).1, (blk2 h.2.2.1).1, h⟩)
  have PR : Hid (∀ w', P w' → Below w.heap.size w w' ∧ IsB w' (w.heap.size + 1 + 1) 58 ∧ IsB w' (w.heap.size + 1 + 1 + 1) 58) := Lib.hid (by rw [hP]; exact fun w' h => ⟨h.1, h.2.2.2.1, h.2.2.2.2⟩)
  have hZ0 : P w1.drew := by rw [hP]; exact Z1.out.drew
  clear hP Z1
  obtain ⟨p0, p1, hZ⟩ := STAY.out _ hZ0
  clear hq hr hb1 Z0
  go_wp2_with fail
  go_region_held3 (fun w' => w'.cell? ⟨w.heap.size, 0, none⟩ = some (.bool (sgn x)) ∧ w'.cell? ⟨w.heap.size + 1, 0, none⟩ = some (.bool (sgn y)) ∧ P w')
    ((try go_split_ands; refine STAY.out _ ?_; first | (with_reducible assumption) | (with_reducible exact PS1.out _ _ _ _ _ (by assumption)) | (with_reducible exact PS2.out _ _ _ _ _ (by assumption)) | (with_reducible exact PC.out _ _ (by assumption) (by assumption))))
    (first
    | (go_at_call 27; go_split_ands; first
      | (have hr2' := hr2; (with_reducible refine Calls.mono (qmake _ (.slice ar kr cr) (x.natAbs % y.natAbs) _ ?_) ?_); (exact hr2'); rintro e w3 ⟨v3, rfl, z3, b3⟩; obtain ⟨n3, d3, l3, e3, rfl⟩ := z3.shape; have z2' := z2.below b3; obtain ⟨BW, q1, q2⟩ := PR.out _ (PC.out _ _ (by assumption) b3); have HQ1 := Lib.hid q1; have HQ2 := Lib.hid q2; have HBW := Lib.hid BW; obtain ⟨_, _, _, _, r1⟩ := q1; obtain ⟨_, _, _, _, r2⟩ := q2; obtain ⟨u0, u1, g0, g1, _⟩ := blk2 r1; obtain ⟨u2, u3, g2, g3, _⟩ := blk2 r2; clear r1 r2 BW)
      | ((with_reducible refine Calls.mono (qmake _ (.slice aq kq cq) (x.natAbs / y.natAbs) _ ?_) ?_); (exact HQ.out); rintro e w2 ⟨v2, rfl, z2, b2⟩; obtain ⟨n2, d2, l2, e2, rfl⟩ := z2.shape; have hr2 := HR.out.below' b2)))
  have hne : w.heap.size + 1 + 1 + 1 ≠ w.heap.size + 1 + 1 := by omega
  have F1 := Lib.hid (zv_two (y0 := .bool n3) (y1 := .slice d3 l3 e3) (zv_two (y0 := .bool n2) (y1 := .slice d2 l2 e2) z2' HQ1.out) (HQ2.out.far hne))
  have F2 := Lib.hid (zv_two (y0 := .bool n3) (y1 := .slice d3 l3 e3) (zv_two (y0 := .bool n2) (y1 := .slice d2 l2 e2) z3 HQ1.out) (HQ2.out.far hne))
  have l2' : w.heap.size ≤ w.heap.size + 1 + 1 := by omega
  have l3' : w.heap.size ≤ w.heap.size + 1 + 1 + 1 := by omega
  have F3 := Lib.hid ((((HBW.out.setCell (p := ⟨w.heap.size + 1 + 1, 0, none⟩) l2' (.bool n2)).setCell (p := ⟨w.heap.size + 1 + 1, 1, none⟩) l2' (.slice d2 l2 e2)).setCell (p := ⟨w.heap.size + 1 + 1 + 1, 0, none⟩) l3' (.bool n3)).setCell (p := ⟨w.heap.size + 1 + 1 + 1, 1, none⟩) l3' (.slice d3 l3 e3))
  go_wp2
  refine bodyPost_ret (v := .tuple #[.agg #[.bool n2, .slice d2 l2 e2], .agg #[.bool n3, .slice d3 l3 e3]]) ?_ rfl ⟨_, _, rfl, F1.out, F2.out, F3.out⟩
  simp [results, Tryz.results29, go_sem, *]
end Go.Proofs.YtfdilnfmcpbkgaaGreatDoor
