/- tribunalref02: Plus. -/
import Derived.Test.YtckmpnfadpnaeaaDoorYF
import Derived.Deep.RegionHeld3
set_option linter.unusedVariables false
set_option linter.unusedSimpArgs false
namespace Go.Proofs.YtckmpnfadpnaeaaDoor
open Go.RowKit Mth

def Ld : Nat := 16400000
def HugeD : Nat := B16 ^ Ld
theorem len_d' {L : Nat} {xs : List Nat} (t : Top xs) (h : val B16 xs < B16 ^ L) : xs.length ≤ L := length_of_val B16_pos t L h
theorem len_d {xs : List Nat} (t : Top xs) (h : val B16 xs < HugeD) : xs.length ≤ 16500000 := by
  have := len_d' (L := Ld) t h
  unfold Ld at this; omega
/-- one block of a sign and a slice is the call's to write -/
def Zk (W w' : World) (R : Nat) (T : TypeId) : Prop := W.grownBy w' (some R) ∧ ∃ x ao n c, w'.heap[R]? = some (.cells #[.bool x, .slice ao n c] T (0, 0))
theorem zk_start {W : World} {R : Nat} {T : TypeId} {x : Bool} {ao : Option Addr} {n c : Nat} (h : W.heap[R]? = some (.cells #[.bool x, .slice ao n c] T (0, 0))) : Zk W W.drew R T := ⟨⟨rfl, rfl, rfl, Nat.le_refl _, fun _ _ _ => rfl⟩, _, _, _, _, h⟩
theorem zk_refl {W : World} {R : Nat} {T : TypeId} {x : Bool} {ao : Option Addr} {n c : Nat} (h : W.heap[R]? = some (.cells #[.bool x, .slice ao n c] T (0, 0))) : Zk W W R T := ⟨World.grownBy.refl _ _, _, _, _, _, h⟩
theorem Zk.drew {W w1 : World} {R : Nat} {T : TypeId} (h : Zk W w1 R T) : Zk W w1.drew R T := ⟨grown_trans' h.1 ⟨rfl, rfl, rfl, Nat.le_refl _, fun _ _ _ => rfl⟩, h.2⟩
theorem Zk.call {W w1 w2 : World} {R : Nat} {T : TypeId} (h : Zk W w1 R T) (hb : Below w1.heap.size w1 w2) : Zk W w2 R T := by
  obtain ⟨h1, x, a, n, c, h2⟩ := h
  exact ⟨grown_trans' h1 (grown_of_below hb _), x, a, n, c, (hb.block _ (Array.getElem?_eq_some_iff.1 h2).1).trans h2⟩
theorem grown_set (w1 : World) (R j : Nat) (y : Value) : w1.grownBy (w1.setCell ⟨R, j, none⟩ y) (some R) :=
  ⟨rfl, rfl, rfl, by simp, fun i _ hk => heap_setCell_other w1 ⟨R, j, none⟩ i _ (fun e => hk (by simp [e]))⟩
theorem Zk.set {W w1 : World} {R : Nat} {T : TypeId} {x : Bool} {ao : Option Addr} {n c : Nat} (h : Zk W w1 R T) : Zk W ((w1.setCell ⟨R, 0, none⟩ (.bool x)).setCell ⟨R, 1, none⟩ (.slice ao n c)) R T := by
  obtain ⟨h1, y, a, m, d, h2⟩ := h
  have k1 := heap_setCell_same w1 R 0 _ _ (.bool x) h2
  have k2 := heap_setCell_same _ R 1 _ _ (.slice ao n c) k1
  exact ⟨grown_trans' (grown_trans' h1 (grown_set _ _ _ _)) (grown_set _ _ _ _), _, _, _, _, k2⟩
theorem Zk.cell {W w1 : World} {R b o : Nat} {T : TypeId} {v : Value} (h : Zk W w1 R T) (hc : W.cell? ⟨b, o, none⟩ = some v) (hne : b ≠ R) : w1.cell? ⟨b, o, none⟩ = some v := h.1.cell hc (by simpa using hne)
theorem Zk.below {w W w1 : World} {R : Nat} {T : TypeId} (h : Zk W w1 R T) (hb : Below w.heap.size w W) (hR : w.heap.size ≤ R) : Below w.heap.size w w1 := below_of_grown hb h.1 hR hb.size

theorem plus_same {x y : Int} (h : sgn x = sgn y) : sg (sgn x) (x.natAbs + y.natAbs) = x + y := by
  by_cases hx : x < 0
  · have hy : y < 0 := of_sgn_true (h ▸ sgn_neg hx)
    rw [sgn_neg hx, sg_true]; omega
  · have hy : ¬ y < 0 := fun hy => by rw [sgn_pos (by omega), sgn_neg hy] at h; cases h
    rw [sgn_pos (by omega), sg_false]; omega
theorem plus_left {x y : Int} (h : sgn x ≠ sgn y) (hl : y.natAbs ≤ x.natAbs) : sg (sgn x) (x.natAbs - y.natAbs) = x + y := by
  by_cases hx : x < 0
  · have hy : ¬ y < 0 := fun hy => h (by rw [sgn_neg hx, sgn_neg hy])
    rw [sgn_neg hx, sg_true]; omega
  · have hy : y < 0 := by
      by_cases hy : y < 0
      · exact hy
      · exact absurd (by rw [sgn_pos (by omega), sgn_pos (by omega)]) h
    rw [sgn_pos (by omega), sg_false]; omega

set_option maxHeartbeats 2000000 in
set_option maxRecDepth 100000 in
theorem plus_any2 (va vb : Value) (x y : Int) (w : World) (ha : ZV w va x) (hb : ZV w vb y) (hx : x.natAbs < HugeD) (hy : y.natAbs < HugeD) :
    Calls Tryd.prog 45 #[va, vb] w fun e w' => ∃ v', e = .returned v' ∧ ZV w' v' (x + y) ∧ Below w.heap.size w w' := by
  obtain ⟨n1, a1, k1, c1, rfl⟩ := ha.shape
  obtain ⟨n2, a2, k2, c2, rfl⟩ := hb.shape
  obtain ⟨rfl, xs, s1, l1, t1, e1, rfl⟩ := ha.parts
  obtain ⟨rfl, ys, s2, l2, t2, e2, rfl⟩ := hb.parts
  rw [← e1] at hx; rw [← e2] at hy
  have HADD : Hid (∀ w1, Below w.heap.size w w1 → Calls Tryd.prog 71 #[.slice a1 xs.length c1, .slice a2 ys.length c2] w1 fun e w' => ∃ v', e = .returned v' ∧ DNum w' v' (x.natAbs + y.natAbs) ∧ Below w1.heap.size w1 w') := Lib.hid (fun w1 hb => by
    rw [← e1, ← e2]; exact addD_any _ _ xs ys w1 (s1.below hb) (s2.below hb) l1 l2 (len_d t1 hx) (len_d t2 hy))
  have HSUB : Hid (y.natAbs ≤ x.natAbs → ∀ w1, Below w.heap.size w w1 → Calls Tryd.prog 73 #[.slice a1 xs.length c1, .slice a2 ys.length c2] w1 fun e w' => ∃ v', e = .returned v' ∧ DNum w' v' (x.natAbs - y.natAbs) ∧ Below w1.heap.size w1 w') := Lib.hid (fun h w1 hb => by
    rw [← e1, ← e2] at *
    exact (subD_any _ _ xs ys w1 (s1.below hb) (s2.below hb) l1 l2 t2 h).mono fun e w' ⟨v', h1, ⟨zs, h2, h3, _, h4⟩, h5⟩ => ⟨v', h1, ⟨zs, h2, h3, h4⟩, h5⟩)
  have HSUB' : Hid (x.natAbs ≤ y.natAbs → ∀ w1, Below w.heap.size w w1 → Calls Tryd.prog 73 #[.slice a2 ys.length c2, .slice a1 xs.length c1] w1 fun e w' => ∃ v', e = .returned v' ∧ DNum w' v' (y.natAbs - x.natAbs) ∧ Below w1.heap.size w1 w') := Lib.hid (fun h w1 hb => by
    rw [← e1, ← e2] at *
    exact (subD_any _ _ ys xs w1 (s2.below hb) (s1.below hb) l2 l1 t1 h).mono fun e w' ⟨v', h1, ⟨zs, h2, h3, _, h4⟩, h5⟩ => ⟨v', h1, ⟨zs, h2, h3, h4⟩, h5⟩)
  have HCMP : Hid (∀ w1, Below w.heap.size w w1 → Calls Tryd.prog 72 #[.slice a1 xs.length c1, .slice a2 ys.length c2] w1 fun e w' => e = .returned (.int .i64 (cmp3 x.natAbs y.natAbs)) ∧ Below w1.heap.size w1 w') := Lib.hid (fun w1 hb => by
    rw [← e1, ← e2]; exact cmpD_any _ _ xs ys w1 (s1.below hb) (s2.below hb) l1 l2 t1 t2)
  clear ha hb s1 s2 l1 l2 t1 t2 e1 e2 hx hy
  generalize xs.length = k1 at *
  generalize ys.length = k2 at *
  go_enter Tryd.func45, Tryd.ntmps45
  by_cases hs : sgn x = sgn y
  · have hd : (sgn x == sgn y) = true := by rw [hs]; simp
    have E := Lib.hid (plus_same hs)
    clear hs
    go_wp2_with fail
    obtain ⟨W, eW, h1, h2, h3, bel, hsz⟩ := alloc3 w (Obj.cells #[Value.bool (sgn x), Value.slice a1 k1 c1] 62) (Obj.cells #[Value.bool (sgn y), Value.slice a2 k2 c2] 62) (Obj.cells #[Value.bool false, Value.slice none 0 0] 62)
    rw [eW]
    obtain ⟨p0, p1, _, _, _⟩ := blk2 h1
    obtain ⟨q0, q1, _, _, _⟩ := blk2 h2
    have STAY : Hid (∀ w', Zk W w' (w.heap.size + 1 + 1) 62 → w'.cell? ⟨w.heap.size, 0, none⟩ = some (.bool (sgn x)) ∧ w'.cell? ⟨w.heap.size, 1, none⟩ = some (.slice a1 k1 c1) ∧ w'.cell? ⟨w.heap.size + 1, 0, none⟩ = some (.bool (sgn y)) ∧ w'.cell? ⟨w.heap.size + 1, 1, none⟩ = some (.slice a2 k2 c2) ∧ Zk W w' (w.heap.size + 1 + 1) 62) :=
      Lib.hid (fun w' h => ⟨h.cell p0 (by omega), h.cell p1 (by omega), h.cell q0 (by omega), h.cell q1 (by omega), h⟩)
    have ZB : Hid (∀ w', Zk W w' (w.heap.size + 1 + 1) 62 → Below w.heap.size w w') := Lib.hid (fun w' h => h.below bel (by omega))
    have Z0 := zk_start h3
    obtain ⟨s0, s1, s2, s3, _⟩ := STAY.out _ Z0
    clear eW h1 h2 h3 p0 p1 q0 q1
    go_region_held3 (fun w' => w'.cell? ⟨w.heap.size, 0, none⟩ = some (.bool (sgn x)) ∧ w'.cell? ⟨w.heap.size, 1, none⟩ = some (.slice a1 k1 c1) ∧ w'.cell? ⟨w.heap.size + 1, 0, none⟩ = some (.bool (sgn y)) ∧ w'.cell? ⟨w.heap.size + 1, 1, none⟩ = some (.slice a2 k2 c2) ∧ Zk W w' (w.heap.size + 1 + 1) 62)
      ((try go_split_ands; refine STAY.out _ ?_; first | assumption | exact Zk.call (by assumption) (by assumption) | exact Zk.set (by assumption)))
      (first
      | (go_at_call 71; go_split_ands; refine (HADD.out _ (ZB.out _ (by assumption))).mono ?_; rintro e w3 ⟨v3, rfl, hn, hb3⟩; obtain ⟨zs, hsl, hlim, hval⟩ := hn; obtain ⟨a3, c3, rfl⟩ := hsl.shape)
      | (go_at_call 67; go_split_ands; refine (make_any _ _ zs _ (by assumption) (by assumption)).mono ?_; rintro e w4 ⟨v4, rfl, hz, hb4⟩; replace hz := hz.below hb4; rw [hval, E.out] at hz; obtain ⟨_, b6, a6, l6, c6, hR⟩ := Zk.call ‹Zk _ _ _ _› hb4; obtain ⟨b5, a5, l5, c5, rfl⟩ := hz.shape; have hzf := hz.far (y0 := .bool b5) (y1 := .slice a5 l5 c5) hR; obtain ⟨u0, u1, g0, g1, _⟩ := blk2 hR))
    go_wp2
    refine bodyPost_ret (v := .agg #[.bool b5, .slice a5 l5 c5]) ?_ rfl ⟨_, rfl, ‹ZV ((World.setCell _ _ _).setCell _ _) _ _›, ZB.out _ (by first | assumption | (go_split_ands; assumption) | exact Zk.set (by assumption))⟩
    simp [results, Tryd.results45, go_sem, *]
  · have hd : (sgn x == sgn y) = false := by rw [beq_eq_false_iff_ne]; exact hs
    by_cases hl : y.natAbs ≤ x.natAbs
    · have E := Lib.hid (plus_left hs hl)
      have HS := Lib.hid (HSUB.out hl)
      have hcm : 0 ≤ cmp3 x.natAbs y.natAbs := by unfold cmp3; rw [if_neg (by omega)]; split <;> omega
      clear hs hl
      go_wp2_with fail
      obtain ⟨W, eW, h1, h2, h3, bel, hsz⟩ := alloc3 w (Obj.cells #[Value.bool (sgn x), Value.slice a1 k1 c1] 62) (Obj.cells #[Value.bool (sgn y), Value.slice a2 k2 c2] 62) (Obj.cells #[Value.bool false, Value.slice none 0 0] 62)
      rw [eW]
      obtain ⟨p0, p1, _, _, _⟩ := blk2 h1
      obtain ⟨q0, q1, _, _, _⟩ := blk2 h2
      have STAY : Hid (∀ w', Zk W w' (w.heap.size + 1 + 1) 62 → w'.cell? ⟨w.heap.size, 0, none⟩ = some (.bool (sgn x)) ∧ w'.cell? ⟨w.heap.size, 1, none⟩ = some (.slice a1 k1 c1) ∧ w'.cell? ⟨w.heap.size + 1, 0, none⟩ = some (.bool (sgn y)) ∧ w'.cell? ⟨w.heap.size + 1, 1, none⟩ = some (.slice a2 k2 c2) ∧ Zk W w' (w.heap.size + 1 + 1) 62) :=
        Lib.hid (fun w' h => ⟨h.cell p0 (by omega), h.cell p1 (by omega), h.cell q0 (by omega), h.cell q1 (by omega), h⟩)
      have ZB : Hid (∀ w', Zk W w' (w.heap.size + 1 + 1) 62 → Below w.heap.size w w') := Lib.hid (fun w' h => h.below bel (by omega))
      refine (HCMP.out W bel).mono ?_
      rintro e w1 ⟨rfl, hb1⟩
      have Z0 := ((zk_refl h3).call hb1).drew
      obtain ⟨s0, s1, s2, s3, _⟩ := STAY.out _ Z0
      obtain ⟨r0, r1, r2, r3, _⟩ := STAY.out _ ((zk_refl h3).call hb1)
      clear eW h1 h2 h3 p0 p1 q0 q1
      go_wp2_with fail
      go_region_held3 (fun w' => w'.cell? ⟨w.heap.size, 0, none⟩ = some (.bool (sgn x)) ∧ w'.cell? ⟨w.heap.size, 1, none⟩ = some (.slice a1 k1 c1) ∧ w'.cell? ⟨w.heap.size + 1, 0, none⟩ = some (.bool (sgn y)) ∧ w'.cell? ⟨w.heap.size + 1, 1, none⟩ = some (.slice a2 k2 c2) ∧ Zk W w' (w.heap.size + 1 + 1) 62)
        ((try go_split_ands; refine STAY.out _ ?_; first | assumption | exact Zk.call (by assumption) (by assumption) | exact Zk.set (by assumption)))
        (first
        | (go_at_call 73; go_split_ands; refine (HS.out _ (ZB.out _ (by assumption))).mono ?_; rintro e w3 ⟨v3, rfl, hn, hb3⟩; obtain ⟨zs, hsl, hlim, hval⟩ := hn; obtain ⟨a3, c3, rfl⟩ := hsl.shape)
        | (go_at_call 67; go_split_ands; refine (make_any _ _ zs _ (by assumption) (by assumption)).mono ?_; rintro e w4 ⟨v4, rfl, hz, hb4⟩; replace hz := hz.below hb4; rw [hval, E.out] at hz; obtain ⟨_, b6, a6, l6, c6, hR⟩ := Zk.call ‹Zk _ _ _ _› hb4; obtain ⟨b5, a5, l5, c5, rfl⟩ := hz.shape; have hzf := hz.far (y0 := .bool b5) (y1 := .slice a5 l5 c5) hR; obtain ⟨u0, u1, g0, g1, _⟩ := blk2 hR))
      go_wp2
      refine bodyPost_ret (v := .agg #[.bool b5, .slice a5 l5 c5]) ?_ rfl ⟨_, rfl, ‹ZV ((World.setCell _ _ _).setCell _ _) _ _›, ZB.out _ (by first | assumption | (go_split_ands; assumption) | exact Zk.set (by assumption))⟩
      simp [results, Tryd.results45, go_sem, *]
    · have E := Lib.hid (plus_left (x := y) (y := x) (fun e => hs e.symm) (by omega))
      have HS := Lib.hid (HSUB'.out (by omega))
      have hcm : cmp3 x.natAbs y.natAbs < 0 := by unfold cmp3; rw [if_pos (by omega)]; omega
      rw [Int.add_comm y x] at E
      clear hs hl
      go_wp2_with fail
      obtain ⟨W, eW, h1, h2, h3, bel, hsz⟩ := alloc3 w (Obj.cells #[Value.bool (sgn x), Value.slice a1 k1 c1] 62) (Obj.cells #[Value.bool (sgn y), Value.slice a2 k2 c2] 62) (Obj.cells #[Value.bool false, Value.slice none 0 0] 62)
      rw [eW]
      obtain ⟨p0, p1, _, _, _⟩ := blk2 h1
      obtain ⟨q0, q1, _, _, _⟩ := blk2 h2
      have STAY : Hid (∀ w', Zk W w' (w.heap.size + 1 + 1) 62 → w'.cell? ⟨w.heap.size, 0, none⟩ = some (.bool (sgn x)) ∧ w'.cell? ⟨w.heap.size, 1, none⟩ = some (.slice a1 k1 c1) ∧ w'.cell? ⟨w.heap.size + 1, 0, none⟩ = some (.bool (sgn y)) ∧ w'.cell? ⟨w.heap.size + 1, 1, none⟩ = some (.slice a2 k2 c2) ∧ Zk W w' (w.heap.size + 1 + 1) 62) :=
        Lib.hid (fun w' h => ⟨h.cell p0 (by omega), h.cell p1 (by omega), h.cell q0 (by omega), h.cell q1 (by omega), h⟩)
      have ZB : Hid (∀ w', Zk W w' (w.heap.size + 1 + 1) 62 → Below w.heap.size w w') := Lib.hid (fun w' h => h.below bel (by omega))
      refine (HCMP.out W bel).mono ?_
      rintro e w1 ⟨rfl, hb1⟩
      have Z0 := ((zk_refl h3).call hb1).drew
      obtain ⟨s0, s1, s2, s3, _⟩ := STAY.out _ Z0
      obtain ⟨r0, r1, r2, r3, _⟩ := STAY.out _ ((zk_refl h3).call hb1)
      clear eW h1 h2 h3 p0 p1 q0 q1
      go_wp2_with fail
      go_region_held3 (fun w' => w'.cell? ⟨w.heap.size, 0, none⟩ = some (.bool (sgn x)) ∧ w'.cell? ⟨w.heap.size, 1, none⟩ = some (.slice a1 k1 c1) ∧ w'.cell? ⟨w.heap.size + 1, 0, none⟩ = some (.bool (sgn y)) ∧ w'.cell? ⟨w.heap.size + 1, 1, none⟩ = some (.slice a2 k2 c2) ∧ Zk W w' (w.heap.size + 1 + 1) 62)
        ((try go_split_ands; refine STAY.out _ ?_; first | assumption | exact Zk.call (by assumption) (by assumption) | exact Zk.set (by assumption)))
        (first
        | (go_at_call 73; go_split_ands; refine (HS.out _ (ZB.out _ (by assumption))).mono ?_; rintro e w3 ⟨v3, rfl, hn, hb3⟩; obtain ⟨zs, hsl, hlim, hval⟩ := hn; obtain ⟨a3, c3, rfl⟩ := hsl.shape)
        | (go_at_call 67; go_split_ands; refine (make_any _ _ zs _ (by assumption) (by assumption)).mono ?_; rintro e w4 ⟨v4, rfl, hz, hb4⟩; replace hz := hz.below hb4; rw [hval, E.out] at hz; obtain ⟨_, b6, a6, l6, c6, hR⟩ := Zk.call ‹Zk _ _ _ _› hb4; obtain ⟨b5, a5, l5, c5, rfl⟩ := hz.shape; have hzf := hz.far (y0 := .bool b5) (y1 := .slice a5 l5 c5) hR; obtain ⟨u0, u1, g0, g1, _⟩ := blk2 hR))
      go_wp2
      refine bodyPost_ret (v := .agg #[.bool b5, .slice a5 l5 c5]) ?_ rfl ⟨_, rfl, ‹ZV ((World.setCell _ _ _).setCell _ _) _ _›, ZB.out _ (by first | assumption | (go_split_ands; assumption) | exact Zk.set (by assumption))⟩
      simp [results, Tryd.results45, go_sem, *]
end Go.Proofs.YtckmpnfadpnaeaaDoor
