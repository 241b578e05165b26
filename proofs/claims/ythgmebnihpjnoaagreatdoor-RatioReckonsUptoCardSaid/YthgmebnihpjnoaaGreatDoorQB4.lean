/- RU RW RV RY RLA RLM. -/
import Derived.Test.YthgmebnihpjnoaaGreatDoorQB3
import Derived.Test.YthgmebnihpjnoaaGreatDoorQB2
import Derived.Test.YthgmebnihpjnoaaGreatDoorQB1
import Derived.Test.YthgmebnihpjnoaaGreatDoorY2
import Derived.Test.YthgmebnihpjnoaaGreatDoorZB4
import Derived.Test.YthgmebnihpjnoaaGreatDoorBackMath
set_option linter.unusedVariables false
set_option linter.unusedSimpArgs false
/- Package ratio: Cmp (written by genru.py). -/
namespace Go.Proofs.YthgmebnihpjnoaaGreatDoor
open Go.RowKit Mth

theorem blk_own3z {w : World} {g : Nat} {x y z : Value} {T : TypeId} (h : w.heap[g]? = some (.cells #[.bool false, .slice none 0 0, .slice none 0 0] T (0, 0))) : (((w.setCell ⟨g, 0, none⟩ x).setCell ⟨g, 1, none⟩ y).setCell ⟨g, 2, none⟩ z).heap[g]? = some (.cells #[x, y, z] T (0, 0)) :=
  heap_setCell_same _ g 2 _ _ z (heap_setCell_same _ g 1 _ _ y (heap_setCell_same w g 0 _ _ x h))
theorem blk_threez {w : World} {g R : Nat} {y0 y1 y2 : Value} {o : Obj} (hne : g ≠ R) (h : w.heap[g]? = some o) : (((w.setCell ⟨R, 0, none⟩ y0).setCell ⟨R, 1, none⟩ y1).setCell ⟨R, 2, none⟩ y2).heap[g]? = some o := by
  rw [heap_setCell_other _ ⟨R, 2, none⟩ g _ hne, heap_setCell_other _ ⟨R, 1, none⟩ g _ hne, heap_setCell_other _ ⟨R, 0, none⟩ g _ hne]; exact h
theorem fr_allocz {w : World} {v : Value} {x : Int} {d : Nat} {o : Obj} (h : FrV w v x d) : FrV (w.alloc o) v x d := h.below ((Below.refl _ _).alloc (Nat.le_refl _) _)
theorem fr_drewz {w : World} {v : Value} {x : Int} {d : Nat} (h : FrV w v x d) : FrV w.drew v x d := h
theorem fr_callz {w w' : World} {v : Value} {x : Int} {d : Nat} (hb : Below w.heap.size w w') (h : FrV w v x d) : FrV w' v x d := h.below hb
theorem fr_set3z {w : World} {v y0 y1 y2 : Value} {x : Int} {d R : Nat} (h : FrV w v x d) (hR : w.heap[R]? = some (.cells #[.bool false, .slice none 0 0, .slice none 0 0] 84 (0, 0))) : FrV (((w.setCell ⟨R, 0, none⟩ y0).setCell ⟨R, 1, none⟩ y1).setCell ⟨R, 2, none⟩ y2) v x d := h.far3 hR
/-- two fractions in two boxes -/
def Fr2 (W wx : World) (x1 : Int) (d1 : Nat) (x2 : Int) (d2 : Nat) (s t : Value) : Prop := ∃ (bg bh : Nat) (f1 : Option Addr) (g1 h1 : Nat) (p1 : Option Addr) (q1 r1 : Nat) (f2 : Option Addr) (g2 h2 : Nat) (p2 : Option Addr) (q2 r2 : Nat), s = .pointer (some ⟨bg, 0, none⟩) ∧ t = .pointer (some ⟨bh, 0, none⟩) ∧
  wx.heap[bg]? = some (.cells #[.bool (sgn x1), .slice f1 g1 h1, .slice p1 q1 r1] 84 (0, 0)) ∧ wx.heap[bh]? = some (.cells #[.bool (sgn x2), .slice f2 g2 h2, .slice p2 q2 r2] 84 (0, 0)) ∧ FrV wx (.agg #[.bool (sgn x1), .slice f1 g1 h1, .slice p1 q1 r1]) x1 d1 ∧ FrV wx (.agg #[.bool (sgn x2), .slice f2 g2 h2, .slice p2 q2 r2]) x2 d2 ∧ Below W.heap.size W wx
set_option maxHeartbeats 2000000 in
set_option maxRecDepth 100000 in
theorem ncmp_is (va vb : Value) (x y : Int) (w : World) (ha : IntV w va x) (hb : IntV w vb y) : Calls Tryz.prog 53 #[va, vb] w fun e w' => e = .returned (.int .i64 (zcmp x y)) ∧ Below w.heap.size w w' := by
  obtain ⟨n1, a1, k1, c1, rfl⟩ := ha.shape
  obtain ⟨n2, a2, k2, c2, rfl⟩ := hb.shape
  have ML : Hid (∀ w1, Below w.heap.size w w1 → Calls Tryz.prog 33 #[.agg #[.bool n1, .slice a1 k1 c1], .agg #[.bool n2, .slice a2 k2 c2]] w1 fun e w' => e = .returned (.int .i64 (zcmp x y)) ∧ Below w1.heap.size w1 w') := Lib.hid (fun w1 hw => cmpF _ _ x y _ w1 (ha.below hw) (hb.below hw) rfl)
  clear ha hb
  go_enter Tryz.func53, Tryz.ntmps53
  obtain ⟨W, eW, h1, h2, bel, hsz⟩ := alloc2 w (Obj.cells #[Value.bool n1, Value.slice a1 k1 c1] 82) (Obj.cells #[Value.bool n2, Value.slice a2 k2 c2] 82)
  obtain ⟨p0, p1, _, _, _⟩ := blk2 h1
  obtain ⟨q0, q1, _, _, _⟩ := blk2 h2
  have BW := Lib.hid bel
  have MW := Lib.hid (ML.out W bel)
  generalize zcmp x y = z at *
  clear h1 h2 bel ML
  go_wp2_with fail
  try rw [eW]
  clear eW
  refine MW.out.mono ?_
  rintro e w1 ⟨rfl, hb1⟩
  have B1 := Lib.hid (below_of BW.out hb1)
  clear hb1 p0 p1 q0 q1
  go_wp2
  go_ret
  exact ⟨rfl, B1.out⟩
/-- what Cmp says of two -/
def CmpO (x1 : Int) (d1 : Nat) (x2 : Int) (d2 : Nat) (z E : Int) : Prop :=
  ((d1 = 0 ∨ d2 = 0) ∧ z = 0 ∧ E = 11) ∨ (0 < d1 ∧ 0 < d2 ∧ (longQ (x1, d1) ∨ longQ (x2, d2)) ∧ z = 0 ∧ E = 5) ∨ (0 < d1 ∧ 0 < d2 ∧ ¬ longQ (x1, d1) ∧ ¬ longQ (x2, d2) ∧ z = zcmp (x1 * d2) (x2 * d1) ∧ E = 0)
theorem rzero_two {v u : Value} {x y : Int} {d e : Nat} : rzero [(v, x, d), (u, y, e)] ↔ (d = 0 ∨ e = 0) := by
  unfold rzero; simp
theorem rlong_two {v u : Value} {x y : Int} {d e : Nat} : rlong [(v, x, d), (u, y, e)] ↔ (longQ (x, d) ∨ longQ (y, e)) := by
  unfold rlong rlong1 longQ; simp
set_option maxHeartbeats 16000000 in
set_option maxRecDepth 100000 in
theorem rcmp_any (va vb : Value) (x1 x2 : Int) (d1 d2 : Nat) (w : World) (ha : RatV w va x1 d1) (hb : RatV w vb x2 d2) : Calls Tryz.prog 18 #[va, vb] w fun e w' => ∃ z E : Int, e = .returned (.tuple #[.int .i64 z, .int .i64 E]) ∧ CmpO x1 d1 x2 d2 z E ∧ Below w.heap.size w w' := by
  have H1 := Lib.hid ha; have H2 := Lib.hid hb
  obtain ⟨m1, a1, k1, c1, s1, t1, u1, xs1, ys1, rfl, -⟩ := ha
  obtain ⟨m2, a2, k2, c2, s2, t2, u2, xs2, ys2, rfl, -⟩ := hb
  obtain ⟨W2, eW2, h1, h2, b2, hz2⟩ := alloc2 w (Obj.cells #[.bool m1, .slice a1 k1 c1, .slice s1 t1 u1] 27) (Obj.cells #[.bool m2, .slice a2 k2 c2, .slice s2 t2 u2] 27)
  have hs2 : W2.heap.size = w.heap.size + 1 + 1 := by rw [← eW2]; simp
  obtain ⟨W, eW, g1, bW, hzW⟩ := alloc1 W2 (Obj.cells #[.bool m1, .slice a1 k1 c1, .slice s1 t1 u1, .bool m2, .slice a2 k2 c2, .slice s2 t2 u2] 27)
  have HA := Lib.hid (blk_below' bW h1); have HB : Hid (W.heap[w.heap.size + 1]? = _) := Lib.hid (blk_below' bW h2)
  have BW := Lib.hid (below_of b2 bW)
  have CK := Lib.hid (check_any _ _ W (ral_two g1 (H1.out.below BW.out) (H2.out.below BW.out)) (by simp))
  obtain ⟨⟨p0, p1, p2⟩, _, _⟩ := blk3 h1
  obtain ⟨⟨q0, q1, q2⟩, _, _⟩ := blk3 h2
  rw [hs2] at CK
  clear h1 h2 b2 g1 bW
  go_enter Tryz.func18, Tryz.ntmps18
  go_wp2_with fail
  refine CK.out.mono ?_
  rintro e w1 ⟨E, rfl, hE, b1⟩
  have A1 := Lib.hid (blk_below' b1 HA.out); have C1 := Lib.hid (blk_below' b1 HB.out); have B1 := Lib.hid (below_of BW.out b1)
  have hsz1 : w.heap.size + 1 + 1 < w1.heap.size := by have := b1.size; omega
  clear b1 p0 p1 p2 q0 q1 q2 CK HA HB BW eW eW2 hzW hz2 hs2
  unfold ChkO at hE
  rw [rzero_two, rlong_two] at hE
  rcases hE with ⟨hd, rfl⟩ | ⟨hd, hl, rfl⟩ | ⟨hd, hl, rfl⟩
  · have HD := Lib.hid hd
    clear hd
    go_wp2
    go_ret2
    exact ⟨_, _, rfl, .inl ⟨HD.out, rfl, rfl⟩, B1.out⟩
  · have HD : Hid (0 < d1 ∧ 0 < d2) := Lib.hid (by omega)
    have HL := Lib.hid hl
    clear hd hl
    go_wp2
    go_ret2
    exact ⟨_, _, rfl, .inr (.inl ⟨HD.out.1, HD.out.2, HL.out, rfl, rfl⟩), B1.out⟩
  · have HD : Hid (0 < d1 ∧ 0 < d2) := Lib.hid (by omega)
    have HL : Hid (¬ longQ (x1, d1) ∧ ¬ longQ (x2, d2)) := Lib.hid ⟨fun h => hl (.inl h), fun h => hl (.inr h)⟩
    have RD1 : Hid (∀ u, Below w1.heap.size w1 u → Calls Tryz.prog 50 #[.agg #[.bool m1, .slice a1 k1 c1, .slice s1 t1 u1]] u fun e w' => ∃ v', e = .returned v' ∧ FrV w' v' x1 d1 ∧ Below u.heap.size u w') := Lib.hid (fun u hu => rread_any _ x1 d1 u (H1.out.below (below_of B1.out hu)))
    have RD2 : Hid (∀ u, Below w1.heap.size w1 u → Calls Tryz.prog 50 #[.agg #[.bool m2, .slice a2 k2 c2, .slice s2 t2 u2]] u fun e w' => ∃ v', e = .returned v' ∧ FrV w' v' x2 d2 ∧ Below u.heap.size u w') := Lib.hid (fun u hu => rread_any _ x2 d2 u (H2.out.below (below_of B1.out hu)))
    obtain ⟨⟨p0, p1, p2⟩, _, lp⟩ := blk3 A1.out
    obtain ⟨⟨q0, q1, q2⟩, _, lq⟩ := blk3 C1.out
    have STAY : Hid (∀ w', Below w1.heap.size w1 w' → w'.cell? ⟨w.heap.size, 0, none⟩ = some (.bool m1) ∧ w'.cell? ⟨w.heap.size, 1, none⟩ = some (.slice a1 k1 c1) ∧ w'.cell? ⟨w.heap.size, 2, none⟩ = some (.slice s1 t1 u1) ∧ w'.cell? ⟨w.heap.size + 1, 0, none⟩ = some (.bool m2) ∧ w'.cell? ⟨w.heap.size + 1, 1, none⟩ = some (.slice a2 k2 c2) ∧ w'.cell? ⟨w.heap.size + 1, 2, none⟩ = some (.slice s2 t2 u2) ∧ Below w1.heap.size w1 w' ∧ w1.heap.size ≤ w'.heap.size) := Lib.hid (fun w' h => ⟨cell_to h p0 lp, cell_to h p1 lp, cell_to h p2 lp, cell_to h q0 lq, cell_to h q1 lq, cell_to h q2 lq, h, h.size⟩)
    have hB0 := (Below.refl w1.heap.size w1).drew
    have FT : Hid (Fits x1 x2 d1 d2 ∧ x1.natAbs < Big ∧ x2.natAbs < Big ∧ d1 < Big ∧ d2 < Big) := Lib.hid (by
      have hn := HL.out
      unfold longQ at hn
      exact ⟨fits_of (by omega) (by omega) (by omega) (by omega), bigR_lt (by omega), bigR_lt (by omega), bigR_lt (by omega), bigR_lt (by omega)⟩)
    clear hd hl p0 p1 p2 q0 q1 q2
    go_wp2_with fail
    go_cut [7, 8] (fun s t wx => Fr2 w1 wx x1 d1 x2 d2 s t)
    case first =>
      go_region_held3 (fun w' => w'.cell? ⟨w.heap.size, 0, none⟩ = some (.bool m1) ∧ w'.cell? ⟨w.heap.size, 1, none⟩ = some (.slice a1 k1 c1) ∧ w'.cell? ⟨w.heap.size, 2, none⟩ = some (.slice s1 t1 u1) ∧ w'.cell? ⟨w.heap.size + 1, 0, none⟩ = some (.bool m2) ∧ w'.cell? ⟨w.heap.size + 1, 1, none⟩ = some (.slice a2 k2 c2) ∧ w'.cell? ⟨w.heap.size + 1, 2, none⟩ = some (.slice s2 t2 u2) ∧ Below w1.heap.size w1 w' ∧ w1.heap.size ≤ w'.heap.size)
        (((try go_split_ands); refine STAY.out _ ?_; repeat (first | (with_reducible assumption) | (with_reducible exact Below.refl _ _) | (with_reducible refine Below.drew ?_) | (with_reducible exact below_to (by with_reducible assumption) (by with_reducible assumption)) | ((with_reducible refine Below.alloc ?_ ?_ _); rotate_left; (focus (first | omega | (simp; done) | (simp; omega)))) | ((with_reducible refine Below.setCell ?_ ?_ _); rotate_left; (focus (first | omega | (simp; done) | (simp; omega)))))))
        (first
        | (go_at_call 50; go_split_ands; first
          | ((with_reducible refine Calls.mono (RD1.out _ (by with_reducible assumption)) ?_); rintro e wA ⟨vA, rfl, jjA, hbA⟩; obtain ⟨f1, g1, h1, p1, q1, r1, rfl, ma, mb⟩ := jjA; have jj1 : FrV wA (.agg #[.bool (sgn x1), .slice f1 g1 h1, .slice p1 q1 r1]) x1 d1 := ⟨f1, g1, h1, p1, q1, r1, rfl, ma, mb⟩; clear ma mb; have hkA := below_to hbA (by with_reducible assumption); have hzA := hkA.size; obtain ⟨hcA, hfA⟩ := bcell hbA; have hyA := hbA.size; (try simp only [sz_alloc, sz_set, sz_drew] at hyA); (try (have hqw1A : w1.heap.size < wA.heap.size := by omega)); (try (have hrw1A : w1.heap.size + 1 < wA.heap.size := by omega)))
          | ((with_reducible refine Calls.mono (RD2.out _ (by with_reducible assumption)) ?_); rintro e wB ⟨vB, rfl, jjB, hbB⟩; obtain ⟨f2, g2, h2, p2, q2, r2, rfl, ma, mb⟩ := jjB; have jj2 : FrV wB (.agg #[.bool (sgn x2), .slice f2 g2 h2, .slice p2 q2 r2]) x2 d2 := ⟨f2, g2, h2, p2, q2, r2, rfl, ma, mb⟩; clear ma mb; have hkB := below_to hbB (by with_reducible assumption); have hzB := hkB.size; obtain ⟨hcB, hfB⟩ := bcell hbB; have hyB := hbB.size; (try simp only [sz_alloc, sz_set, sz_drew] at hyB); (try (have hqw1B : w1.heap.size < wB.heap.size := by omega)); (try (have hrw1B : w1.heap.size + 1 < wB.heap.size := by omega)); (try (have hqwAB : wA.heap.size < wB.heap.size := by omega)); (try (have hrwAB : wA.heap.size + 1 < wB.heap.size := by omega)))))
      all_goals
        (go_wp2_with fail
         go_meet
         clear hcA hfA hcB hfB
         refine ⟨_, _, f1, g1, h1, p1, q1, r1, f2, g2, h2, p2, q2, r2, rfl, rfl, ?_, ?_, ?_, ?_, ?_⟩)
      all_goals
        repeat (first | (with_reducible assumption) | ((with_reducible refine blk_newz ?_); (first | omega | (simp only [sz_alloc, sz_set, sz_drew]; omega) | (focus (simp only [sz_alloc, sz_set, sz_drew]; done)))) | ((with_reducible refine blk_ltz ?_ ?_); (first | omega | (simp only [sz_alloc, sz_set, sz_drew]; omega) | (focus (simp only [sz_alloc, sz_set, sz_drew]; done)))) | (with_reducible refine blk_own3z ?_) | ((with_reducible refine blk_threez ?_ ?_); (first | omega | (simp only [sz_alloc, sz_set, sz_drew]; omega) | (focus (simp only [sz_alloc, sz_set, sz_drew]; done)))) | (with_reducible refine blk_drew ?_) | ((with_reducible refine blk_below hbB ?_ ?_); (first | omega | (simp only [sz_alloc, sz_set, sz_drew]; omega) | (focus (simp only [sz_alloc, sz_set, sz_drew]; done)))) | ((with_reducible refine blk_below hbA ?_ ?_); (first | omega | (simp only [sz_alloc, sz_set, sz_drew]; omega) | (focus (simp only [sz_alloc, sz_set, sz_drew]; done)))) | (with_reducible refine fr_allocz ?_) | (with_reducible refine fr_drewz ?_) | (with_reducible refine fr_set3z ?_ ?_) | (with_reducible refine fr_callz hbB ?_) | (with_reducible refine fr_callz hbA ?_) | (with_reducible exact Below.refl _ _) | (with_reducible refine Below.drew ?_) | ((with_reducible refine Below.alloc ?_ ?_ _); rotate_left; (focus (first | omega | (simp; done) | (simp; omega)))) | ((with_reducible refine Below.setCell ?_ ?_ _); rotate_left; (focus (first | omega | (simp; done) | (simp; omega)))) | (first | omega | (simp only [sz_alloc, sz_set, sz_drew]; omega) | (focus (simp only [sz_alloc, sz_set, sz_drew]; done))))
    case rest =>
      obtain ⟨bg, bh, f1, g1, h1, p1, q1, r1, f2, g2, h2, p2, q2, r2, rfl, rfl, hG, hH, hf1, hf2, hbc⟩ := hcut
      generalize wc = V at *
      have F1 := (FrV.two hf1 FT.out.2.1 FT.out.2.2.2.1).2
      have F2 := (FrV.two hf2 FT.out.2.2.1 FT.out.2.2.2.2).2
      have T1 : Hid (∀ u, Below V.heap.size V u → Calls Tryz.prog 51 #[.agg #[.bool (sgn x1), .slice f1 g1 h1], .agg #[.bool false, .slice p2 q2 r2]] u fun e w' => Res0 u w' e (x1 * d2)) := Lib.hid (fun u h => ntimes_is _ _ x1 (d2 : Int) u (F1.1.below h).2 (F2.2.below h).2 FT.out.1.a)
      have T2 : Hid (∀ u, Below V.heap.size V u → Calls Tryz.prog 51 #[.agg #[.bool (sgn x2), .slice f2 g2 h2], .agg #[.bool false, .slice p1 q1 r1]] u fun e w' => Res0 u w' e (x2 * d1)) := Lib.hid (fun u h => ntimes_is _ _ x2 (d1 : Int) u (F2.1.below h).2 (F1.2.below h).2 FT.out.1.b)
      have CM : Hid (∀ va vb u, IntR u va (x1 * d2) → IntR u vb (x2 * d1) → Calls Tryz.prog 53 #[va, vb] u fun e w' => e = .returned (.int .i64 (zcmp (x1 * d2) (x2 * d1))) ∧ Below u.heap.size u w') := Lib.hid (fun va vb u h1 h2 => ncmp_is va vb _ _ u h1.2 h2.2)
      have BV := Lib.hid (below_of B1.out hbc)
      obtain ⟨⟨y0, y1, y2⟩, _, lG⟩ := blk3 hG
      obtain ⟨⟨z0, z1, z2⟩, _, lH⟩ := blk3 hH
      have STAY2 : Hid (∀ w', Below V.heap.size V w' → w'.cell? ⟨bg, 0, none⟩ = some (.bool (sgn x1)) ∧ w'.cell? ⟨bg, 1, none⟩ = some (.slice f1 g1 h1) ∧ w'.cell? ⟨bg, 2, none⟩ = some (.slice p1 q1 r1) ∧ w'.cell? ⟨bh, 0, none⟩ = some (.bool (sgn x2)) ∧ w'.cell? ⟨bh, 1, none⟩ = some (.slice f2 g2 h2) ∧ w'.cell? ⟨bh, 2, none⟩ = some (.slice p2 q2 r2) ∧ Below V.heap.size V w') := Lib.hid (fun w' h => ⟨cell_to h y0 lG, cell_to h y1 lG, cell_to h y2 lG, cell_to h z0 lH, cell_to h z1 lH, cell_to h z2 lH, h⟩)
      have hB1 := (Below.refl V.heap.size V).drew
      have hfn := field_num1
      have ED : Hid (CmpO x1 d1 x2 d2 (zcmp (x1 * d2) (x2 * d1)) 0) := Lib.hid (.inr (.inr ⟨HD.out.1, HD.out.2, HL.out.1, HL.out.2, rfl, rfl⟩))
      generalize zcmp (x1 * d2) (x2 * d1) = zz at *
      clear hG hH hf1 hf2 F1 F2 hbc y0 y1 y2 z0 z1 z2 RD1 RD2 STAY hB0 hsz1 lp lq
      go_wp2_with fail
      go_region_held3 (fun w' => w'.cell? ⟨bg, 0, none⟩ = some (.bool (sgn x1)) ∧ w'.cell? ⟨bg, 1, none⟩ = some (.slice f1 g1 h1) ∧ w'.cell? ⟨bg, 2, none⟩ = some (.slice p1 q1 r1) ∧ w'.cell? ⟨bh, 0, none⟩ = some (.bool (sgn x2)) ∧ w'.cell? ⟨bh, 1, none⟩ = some (.slice f2 g2 h2) ∧ w'.cell? ⟨bh, 2, none⟩ = some (.slice p2 q2 r2) ∧ Below V.heap.size V w')
        (((try go_split_ands); refine STAY2.out _ ?_; repeat (first | (with_reducible assumption) | (with_reducible exact Below.refl _ _) | (with_reducible refine Below.drew ?_) | (with_reducible exact below_to (by with_reducible assumption) (by with_reducible assumption)) | ((with_reducible refine Below.alloc ?_ ?_ _); rotate_left; (focus (first | omega | (simp; done) | (simp; omega)))) | ((with_reducible refine Below.setCell ?_ ?_ _); rotate_left; (focus (first | omega | (simp; done) | (simp; omega)))))))
        (first
        | (go_at_call 52; go_split_ands; first
          | ((with_reducible refine Calls.mono (below_is (sgn x2) f2 g2 h2 p2 q2 r2 _) ?_); rintro e wA ⟨rfl, hbA⟩; have hkA := below_to hbA (by with_reducible assumption); have hzA := hkA.size; obtain ⟨hcA, hfA⟩ := bcell hbA; have hyA := hbA.size; (try simp only [sz_alloc, sz_set, sz_drew] at hyA); (try (have hqVA : V.heap.size < wA.heap.size := by omega)); (try (have hrVA : V.heap.size + 1 < wA.heap.size := by omega)))
          | ((with_reducible refine Calls.mono (below_is (sgn x1) f1 g1 h1 p1 q1 r1 _) ?_); rintro e wC ⟨rfl, hbC⟩; have hkC := below_to hbC (by with_reducible assumption); have hzC := hkC.size; obtain ⟨hcC, hfC⟩ := bcell hbC; have hyC := hbC.size; (try simp only [sz_alloc, sz_set, sz_drew] at hyC); (try (have hqVC : V.heap.size < wC.heap.size := by omega)); (try (have hrVC : V.heap.size + 1 < wC.heap.size := by omega)); (try (have hqwAC : wA.heap.size < wC.heap.size := by omega)); (try (have hrwAC : wA.heap.size + 1 < wC.heap.size := by omega)); (try (have hqwBC : wB.heap.size < wC.heap.size := by omega)); (try (have hrwBC : wB.heap.size + 1 < wC.heap.size := by omega))))
        | (go_at_call 51; go_split_ands; first
          | ((with_reducible refine Calls.mono (T1.out _ (by with_reducible assumption)) ?_); rintro e wB ⟨mB, dB, lB, eB, rfl, jj1, hbB⟩; have hkB := below_to hbB (by with_reducible assumption); have hzB := hkB.size; obtain ⟨hcB, hfB⟩ := bcell hbB; have hyB := hbB.size; (try simp only [sz_alloc, sz_set, sz_drew] at hyB); (try (have hqVB : V.heap.size < wB.heap.size := by omega)); (try (have hrVB : V.heap.size + 1 < wB.heap.size := by omega)); (try (have hqwAB : wA.heap.size < wB.heap.size := by omega)); (try (have hrwAB : wA.heap.size + 1 < wB.heap.size := by omega)))
          | ((with_reducible refine Calls.mono (T2.out _ (by with_reducible assumption)) ?_); rintro e wD ⟨mD, dD, lD, eD, rfl, jj2, hbD⟩; have hkD := below_to hbD (by with_reducible assumption); have hzD := hkD.size; obtain ⟨hcD, hfD⟩ := bcell hbD; have hyD := hbD.size; (try simp only [sz_alloc, sz_set, sz_drew] at hyD); (try (have hqVD : V.heap.size < wD.heap.size := by omega)); (try (have hrVD : V.heap.size + 1 < wD.heap.size := by omega)); (try (have hqwAD : wA.heap.size < wD.heap.size := by omega)); (try (have hrwAD : wA.heap.size + 1 < wD.heap.size := by omega)); (try (have hqwBD : wB.heap.size < wD.heap.size := by omega)); (try (have hrwBD : wB.heap.size + 1 < wD.heap.size := by omega)); (try (have hqwCD : wC.heap.size < wD.heap.size := by omega)); (try (have hrwCD : wC.heap.size + 1 < wD.heap.size := by omega))))
        | (go_at_call 53; go_split_ands; (with_reducible refine Calls.mono (CM.out _ _ _ ?_ ?_) ?_); ((repeat (first | (with_reducible assumption) | (with_reducible refine ri_allocz ?_) | (with_reducible refine ri_drewz ?_) | (with_reducible refine ri_callz hbD ?_) | (with_reducible refine ri_callz hbC ?_) | (with_reducible refine ri_callz hbB ?_)))); rintro e wE ⟨rfl, hbE⟩; have hkE := below_to hbE (by with_reducible assumption); have hzE := hkE.size; obtain ⟨hcE, hfE⟩ := bcell hbE; have hyE := hbE.size; (try simp only [sz_alloc, sz_set, sz_drew] at hyE); (try (have hqVE : V.heap.size < wE.heap.size := by omega)); (try (have hrVE : V.heap.size + 1 < wE.heap.size := by omega)); (try (have hqwAE : wA.heap.size < wE.heap.size := by omega)); (try (have hrwAE : wA.heap.size + 1 < wE.heap.size := by omega)); (try (have hqwBE : wB.heap.size < wE.heap.size := by omega)); (try (have hrwBE : wB.heap.size + 1 < wE.heap.size := by omega)); (try (have hqwCE : wC.heap.size < wE.heap.size := by omega)); (try (have hrwCE : wC.heap.size + 1 < wE.heap.size := by omega)); (try (have hqwDE : wD.heap.size < wE.heap.size := by omega)); (try (have hrwDE : wD.heap.size + 1 < wE.heap.size := by omega))))
      all_goals
        (go_wp2
         go_ret2
         exact ⟨_, _, rfl, ED.out, below_of BV.out (by with_reducible assumption)⟩)
end Go.Proofs.YthgmebnihpjnoaaGreatDoor

/- Package ratio: Sub (written by genrw.py). -/
namespace Go.Proofs.YthgmebnihpjnoaaGreatDoor
open Go.RowKit Mth

theorem rat_shape {w : World} {v : Value} {x : Int} {d : Nat} (h : RatV w v x d) : ∃ n a k c a' k' c', v = .agg #[.bool n, .slice a k c, .slice a' k' c'] := by
  obtain ⟨n, a, k, c, a', k', c', xs, ys, e, -⟩ := h
  exact ⟨n, a, k, c, a', k', c', e⟩
theorem RatV.zrn {W w1 : World} {v : Value} {x : Int} {d R k0 : Nat} {T : TypeId} {cs : Array Value} (h : RatV W v x d) (hR : W.heap[R]? = some (.cells cs T (0, 0))) (hn : NoInt cs) (hz : ZrN W w1 R T k0) : RatV w1 v x d := by
  obtain ⟨n, a, k, c, a', k', c', xs, ys, e, h1, h2, h3, h4, h5, h6⟩ := h
  exact ⟨n, a, k, c, a', k', c', xs, ys, e, h1.zr hz.zr (fun b off cap e hp => h1.neN hR hn e hp), h2, h3, h4, h5.zr hz.zr (fun b off cap e hp => h5.neN hR hn e hp), h6⟩
theorem rat_allocz {w : World} {v : Value} {x : Int} {d : Nat} {o : Obj} (h : RatV w v x d) : RatV (w.alloc o) v x d := h.below ((Below.refl _ _).alloc (Nat.le_refl _) _)
theorem rat_drewz {w : World} {v : Value} {x : Int} {d : Nat} (h : RatV w v x d) : RatV w.drew v x d := h
theorem rat_callz {w w' : World} {v : Value} {x : Int} {d : Nat} (hb : Below w.heap.size w w') (h : RatV w v x d) : RatV w' v x d := h.below hb
theorem ZrN.alloc {W w1 : World} {R k : Nat} {T : TypeId} {o : Obj} (h : ZrN W w1 R T k) : ZrN W (w1.alloc o) R T k := ZrN.call ((Below.refl _ _).alloc (Nat.le_refl _) _) h
theorem Num.farZ {W w : World} {v y0 y1 y2 : Value} {n R k0 : Nat} {T : TypeId} (h : Num w v n) (hz : ZrN W w R T k0) : Num (((w.setCell ⟨R, 0, none⟩ y0).setCell ⟨R, 1, none⟩ y1).setCell ⟨R, 2, none⟩ y2) v n := by
  obtain ⟨_, cs, hR, _, hn⟩ := hz
  obtain ⟨ys, h1, h2⟩ := h
  have hne : ∀ b off cap, v = .slice (some ⟨b, off, none⟩) ys.length cap → 0 < ys.length → b ≠ R := fun b off cap e hp => h1.neN hR hn e hp
  exact ⟨ys, ((h1.set_far hne).set_far hne).set_far hne, h2⟩
theorem GatO.farZ {mul : Bool} {s : Int × Nat} {L : List (Value × Int × Nat)} {W w : World} {v y0 y1 y2 : Value} {E : Int} {R k0 : Nat} {T : TypeId} (h : GatO mul s L w v E) (hz : ZrN W w R T k0) : GatO mul s L (((w.setCell ⟨R, 0, none⟩ y0).setCell ⟨R, 1, none⟩ y1).setCell ⟨R, 2, none⟩ y2) v E := by
  rcases h with h | h | ⟨h1, h2, x, d, h3, h4, a, k1, c1, a', k2, c2, e, n1, n2⟩
  · exact .inl h
  · exact .inr (.inl h)
  · exact .inr (.inr ⟨h1, h2, x, d, h3, h4, a, k1, c1, a', k2, c2, e, n1.farZ hz, n2.farZ hz⟩)
theorem gat_vals {mul : Bool} {s : Int × Nat} {v v' u u' : Value} {x y : Int} {d e : Nat} {w : World} {r : Value} {E : Int} (h : GatO mul s [(v, x, d), (u, y, e)] w r E) : GatO mul s [(v', x, d), (u', y, e)] w r E := by
  have e1 : ∀ a b : Value, foldQ mul s [(a, x, d), (b, y, e)] = foldQ mul s [(zRat, x, d), (zRat, y, e)] := fun a b => by
    cases mul <;> rfl
  unfold GatO at h ⊢
  rw [rzero_two, rlong_two, e1] at h
  rw [rzero_two, rlong_two, e1]
  exact h
/-- what Sub says -/
def RSubO (x1 : Int) (d1 : Nat) (x2 : Int) (d2 : Nat) (w' : World) (v' : Value) (E : Int) : Prop := GatO false (0, 1) [(zRat, x1, d1), (zRat, -x2, d2)] w' v' E
set_option maxHeartbeats 16000000 in
set_option maxRecDepth 100000 in
theorem rsub_any3 (va vb : Value) (x1 x2 : Int) (d1 d2 : Nat) (w : World) (ha : RatV w va x1 d1) (hb : RatV w vb x2 d2) : Calls Tryz.prog 20 #[va, vb] w fun e w' => ∃ v' E, e = .returned (.tuple #[v', .int .i64 E]) ∧ RSubO x1 d1 x2 d2 w' v' E ∧ Below w.heap.size w w' := by
  have H1 := Lib.hid ha; have H2 := Lib.hid hb
  obtain ⟨m1, a1, k1, c1, s1, t1, u1, xs1, ys1, rfl, -⟩ := ha
  obtain ⟨m2, a2, k2, c2, s2, t2, u2, xs2, ys2, rfl, -⟩ := hb
  go_enter Tryz.func20, Tryz.ntmps20
  go_wp2_with fail
  obtain ⟨W, eW, h1, h2, h3, bel, hsz⟩ := alloc3 w (Obj.cells #[.bool m1, .slice a1 k1 c1, .slice s1 t1 u1] 27) (Obj.cells #[.bool m2, .slice a2 k2 c2, .slice s2 t2 u2] 27) (Obj.cells #[.bool false, .slice none 0 0, .slice none 0 0] 27)
  rw [eW]
  obtain ⟨⟨p0, p1, p2⟩, _, lp⟩ := blk3 h1
  obtain ⟨⟨q0, q1, q2⟩, _, lq⟩ := blk3 h2
  have HR : Hid (W.heap[w.heap.size + 1 + 1]? = _) := Lib.hid h3; have BW := Lib.hid bel
  have NI0 : NoInt #[.bool false, .slice none 0 0, .slice none 0 0] := by
    intro i k n
    rcases i with _ | _ | _ | i <;> simp
  have HNI := Lib.hid NI0
  have STAY : Hid (∀ w', ZrN W w' (w.heap.size + 1 + 1) 27 3 → w'.cell? ⟨w.heap.size, 0, none⟩ = some (.bool m1) ∧ w'.cell? ⟨w.heap.size, 1, none⟩ = some (.slice a1 k1 c1) ∧ w'.cell? ⟨w.heap.size, 2, none⟩ = some (.slice s1 t1 u1) ∧ w'.cell? ⟨w.heap.size + 1, 0, none⟩ = some (.bool m2) ∧ w'.cell? ⟨w.heap.size + 1, 1, none⟩ = some (.slice a2 k2 c2) ∧ w'.cell? ⟨w.heap.size + 1, 2, none⟩ = some (.slice s2 t2 u2) ∧ ZrN W w' (w.heap.size + 1 + 1) 27 3) :=
    Lib.hid (fun w' h => ⟨h.cell p0 (by omega), h.cell p1 (by omega), h.cell p2 (by omega), h.cell q0 (by omega), h.cell q1 (by omega), h.cell q2 (by omega), h⟩)
  have TU : Hid (∀ u, ZrN W u (w.heap.size + 1 + 1) 27 3 → Calls Tryz.prog 56 #[.agg #[.bool m2, .slice a2 k2 c2, .slice s2 t2 u2]] u fun e w' => ∃ v', e = .returned v' ∧ RatV w' v' (-x2) d2 ∧ Below u.heap.size u w') := Lib.hid (fun u h => rturned_any _ x2 d2 u ((H2.out.below BW.out).zrn HR.out HNI.out h))
  have RA : Hid (∀ u, ZrN W u (w.heap.size + 1 + 1) 27 3 → RatV u (.agg #[.bool m1, .slice a1 k1 c1, .slice s1 t1 u1]) x1 d1) := Lib.hid (fun u h => (H1.out.below BW.out).zrn HR.out HNI.out h)
  have AD : Hid (∀ u g m3 a3 k3 c3 s3 t3 u3, ZrN W u (w.heap.size + 1 + 1) 27 3 → u.heap[g]? = some (.cells #[.bool m1, .slice a1 k1 c1, .slice s1 t1 u1, .bool m3, .slice a3 k3 c3, .slice s3 t3 u3] 27 (0, 0)) → RatV u (.agg #[.bool m3, .slice a3 k3 c3, .slice s3 t3 u3]) (-x2) d2 → Calls Tryz.prog 37 #[.slice (some ⟨g, 0, none⟩) 2 2] u fun e w' => ∃ v' E, e = .returned (.tuple #[v', .int .i64 E]) ∧ RSubO x1 d1 x2 d2 w' v' E ∧ Below u.heap.size u w') := Lib.hid (fun u g m3 a3 k3 c3 s3 t3 u3 hz hg hr => (radd_any3 _ _ u (ral_two hg (RA.out u hz) hr) (by simp)).mono fun e w' ⟨v', E, h1, h2, h3⟩ => ⟨v', E, h1, gat_vals h2, h3⟩)
  have hZ0 : ZrN W W.drew (w.heap.size + 1 + 1) 27 3 := (zrn_start HR.out HNI.out).drew
  have hle : w.heap.size ≤ w.heap.size + 1 + 1 := by omega
  clear eW h1 h2 h3 bel p0 p1 p2 q0 q1 q2 NI0 lp lq
  go_region_held3 (fun w' => w'.cell? ⟨w.heap.size, 0, none⟩ = some (.bool m1) ∧ w'.cell? ⟨w.heap.size, 1, none⟩ = some (.slice a1 k1 c1) ∧ w'.cell? ⟨w.heap.size, 2, none⟩ = some (.slice s1 t1 u1) ∧ w'.cell? ⟨w.heap.size + 1, 0, none⟩ = some (.bool m2) ∧ w'.cell? ⟨w.heap.size + 1, 1, none⟩ = some (.slice a2 k2 c2) ∧ w'.cell? ⟨w.heap.size + 1, 2, none⟩ = some (.slice s2 t2 u2) ∧ ZrN W w' (w.heap.size + 1 + 1) 27 3)
    (((try go_split_ands); refine STAY.out _ ?_; repeat (first | (with_reducible assumption) | (with_reducible refine ZrN.drew ?_) | (with_reducible refine ZrN.alloc ?_) | (with_reducible refine ZrN.setS ?_) | (with_reducible refine ZrN.setB ?_))))
    (first
    | (go_at_call 56; go_split_ands; ((with_reducible refine Calls.mono (TU.out _ (by with_reducible assumption)) ?_); rintro e wA ⟨vA, rfl, jjA, hbA⟩; obtain ⟨m3, a3, k3, c3, s3, t3, u3, rfl⟩ := rat_shape jjA; have hkA := ZrN.call hbA (by with_reducible assumption)))
    | (go_at_call 37; go_split_ands; ((with_reducible refine Calls.mono (AD.out _ _ m3 a3 k3 c3 s3 t3 u3 (by with_reducible assumption) ?_ ?_) ?_); (repeat (first | (with_reducible assumption) | (with_reducible refine rat_allocz ?_) | (with_reducible refine rat_drewz ?_) | (with_reducible refine rat_callz hbA ?_) | ((with_reducible refine blk_newz ?_); (first | omega | (simp only [sz_alloc, sz_set, sz_drew]; omega) | (focus (simp only [sz_alloc, sz_set, sz_drew]; done)))) | (with_reducible refine blk_drew ?_) | (first | omega | (simp only [sz_alloc, sz_set, sz_drew]; omega) | (focus (simp only [sz_alloc, sz_set, sz_drew]; done))))); rintro e wB ⟨vB, E, rfl, jjB, hbB⟩; obtain ⟨m4, a4, k4, c4, s4, t4, u4, rfl⟩ := gat_shape jjB; have hkB := ZrN.call hbB (by with_reducible assumption); have JB := Lib.hid jjB; obtain ⟨x0B, x1B, x2B, hRB⟩ := zrn_three hkB; obtain ⟨⟨r0B, r1B, r2B⟩, ⟨f0B, f1B, f2B⟩, lRB⟩ := blk3 hRB)))
  all_goals
    have ZF : Hid (ZrN W (((wB.setCell ⟨w.heap.size + 1 + 1, 0, none⟩ (.bool m4)).setCell ⟨w.heap.size + 1 + 1, 1, none⟩ (.slice a4 k4 c4)).setCell ⟨w.heap.size + 1 + 1, 2, none⟩ (.slice s4 t4 u4)) (w.heap.size + 1 + 1) 27 3) := Lib.hid (((hkB.setB).setS).setS)
    have JF := Lib.hid (GatO.farZ (y0 := .bool m4) (y1 := .slice a4 k4 c4) (y2 := .slice s4 t4 u4) JB.out hkB)
    go_wp2
    refine bodyPost_ret (v := .tuple #[.agg #[.bool m4, .slice a4 k4 c4, .slice s4 t4 u4], .int .i64 E]) ?_ rfl ⟨_, _, rfl, JF.out, ZF.out.zr.below BW.out hle⟩
    simp [results, Tryz.results20, go_sem, *]
end Go.Proofs.YthgmebnihpjnoaaGreatDoor

/- ratio's reference: Same. -/
namespace Go.Proofs.YthgmebnihpjnoaaGreatDoor
open Go.RowKit Mth

set_option maxHeartbeats 4000000 in
set_option maxRecDepth 100000 in
theorem rsame3_any (va vb : Value) (z : Int) (d : Nat) (w : World) (ha : FrV w va z d) (hb : FrV w vb z d) :
    Calls Tryz.prog 14 #[va, vb] w fun e w' => e = .returned (.bool true) ∧ Below w.heap.size w w' := by
  obtain ⟨a, k, c, a', k', c', rfl, n1, m1⟩ := ha
  obtain ⟨b, j, e, b', j', e', rfl, n2, m2⟩ := hb
  obtain ⟨xs, s1, l1, t1, v1⟩ := m1
  obtain ⟨ys, s2, l2, t2, v2⟩ := m2
  obtain rfl : xs = ys := top_uniq B64_pos l1 l2 t1 t2 (by rw [v1, v2])
  clear l1 l2 t1 t2 v1 v2
  have hlen := s1.len
  obtain rfl := sl_eq_len s1
  obtain rfl := sl_eq_len s2
  have S1 := Lib.hid s1; have S2 := Lib.hid s2
  have I1 := Lib.hid n1
  have I2 := Lib.hid n2
  clear s1 s2 n1 n2
  go_enter Tryz.func14, Tryz.ntmps14
  obtain ⟨W, eW, h1, h2, bel, hsz⟩ := alloc2 w (Obj.cells #[Value.bool (sgn z), Value.slice a k c, Value.slice a' xs.length c'] 27) (Obj.cells #[Value.bool (sgn z), Value.slice b j e, Value.slice b' xs.length e'] 27)
  obtain ⟨⟨p0, p1, p2⟩, _, _⟩ := blk3 h1
  obtain ⟨⟨q0, q1, q2⟩, _, _⟩ := blk3 h2
  have SM := Lib.hid (same_any _ _ z W (⟨_, rfl, I1.out.below' bel⟩ : IntK W (.agg #[.bool (sgn z), .slice a k c]) z) (⟨_, rfl, I2.out.below' bel⟩ : IntK W (.agg #[.bool (sgn z), .slice b j e]) z))
  clear h1 h2
  go_wp2_with fail
  refine SM.out.mono ?_
  rintro e3 w1 ⟨rfl, b1⟩
  have BW := Lib.hid (below_of bel b1)
  have P2 := Lib.hid (cell_to b1 p2 (by omega)); have Q2 := Lib.hid (cell_to b1 q2 (by omega))
  have T1 := Lib.hid (S1.out.below BW.out); have T2 := Lib.hid (S2.out.below BW.out)
  have hsz1 : w.heap.size + 1 < w1.heap.size := by have := b1.size; omega
  clear eW SM p0 p1 p2 q0 q1 q2 b1 bel hsz S1 S2
  go_wp2
  go_loopw [5] (fun i wr => ∃ m : Nat, m ≤ xs.length ∧ i = .int .i64 (m : Int) ∧ Below w1.heap.size w1 wr) (fun i _ => xs.length - (intOf i).toNat)
  case atStart => exact ⟨0, Nat.zero_le _, rfl, Below.refl _ _⟩
  case round =>
    obtain ⟨m, hm, rfl, hbel⟩ := hrel
    have r1 := cell_to hbel P2.out (by omega)
    have r2 := cell_to hbel Q2.out (by omega)
    have HB := Lib.hid hbel
    by_cases hml : m < xs.length
    · obtain ⟨b1, o1, d1, e1, hc1, hc1', hlt1, k1⟩ := T1.out.pos (by omega)
      obtain ⟨b2, o2, d2, e2, hc2, hc2', hlt2, k2⟩ := T2.out.pos (by omega)
      simp only [Value.slice.injEq] at e1 e2
      obtain ⟨rfl, _, rfl⟩ := e1
      obtain ⟨rfl, _, rfl⟩ := e2
      have ck1 : wr.cell? ⟨b1, o1 + m, none⟩ = some (.int .u64 ((xs.getD m 0 : Nat) : Int)) := cell_to hbel (k1 m hml) hlt1
      have ck2 : wr.cell? ⟨b2, o2 + m, none⟩ = some (.int .u64 ((xs.getD m 0 : Nat) : Int)) := cell_to hbel (k2 m hml) hlt2
      generalize xs.getD m 0 = x at *
      clear k1 k2 hbel
      unfold maxLen at hc1' hc2'
      go_wp2
      go_quiet (fail)
      go_wp2
      go_roundw
      case rel => exact ⟨m + 1, by omega, by go_num, bdrawn HB.out _⟩
      case measure => simp [intOf]; omega
    · clear hbel
      go_wp2
      go_ret
      exact ⟨rfl, below_of BW.out HB.out⟩
end Go.Proofs.YthgmebnihpjnoaaGreatDoor

/- Package ratio: Text. -/
namespace Go.Proofs.YthgmebnihpjnoaaGreatDoor
open Go.RowKit Mth

/-- how a fraction in lowest terms is written -/
def tQ (n : Int) (d : Nat) : List Nat := if d = 1 then zS n else zS n ++ 47 :: numeral 10 d
def TxtO (x : Int) (d : Nat) (S : ByteArray) (E : Int) : Prop :=
  (d = 0 ∧ S = ⟨#[]⟩ ∧ E = 11) ∨ (0 < d ∧ longQ (x, d) ∧ S = ⟨#[]⟩ ∧ E = 5) ∨ (0 < d ∧ ¬ longQ (x, d) ∧ S = ⟨(toBytes (tQ (lowN x d) (lowD x d))).toArray⟩ ∧ E = 0)
theorem cat_slash (A B : List Nat) : (⟨(toBytes A).toArray⟩ : ByteArray) ++ ⟨#[47]⟩ ++ ⟨(toBytes B).toArray⟩ = ⟨(toBytes (A ++ 47 :: B)).toArray⟩ := by
  have e : (⟨#[47]⟩ : ByteArray) = ⟨(toBytes [47]).toArray⟩ := rfl
  rw [e]
  apply ByteArray.ext
  simp [toBytes]
theorem zS_len {n : Int} (h : n.natAbs < Big) : (zS n).length ≤ 262145 := by
  have hn := numeral_size (b := 10) (by omega) h
  by_cases h0 : n < 0
  · rw [zS_neg h h0, List.length_cons]; omega
  · rw [zS_pos h (by omega)]; omega
theorem size_tb (l : List Nat) : (⟨(toBytes l).toArray⟩ : ByteArray).size = l.length := by
  show (toBytes l).toArray.size = _
  simp [toBytes]
set_option maxHeartbeats 4000000 in
set_option maxRecDepth 100000 in
theorem rtextQ_any (v : Value) (x : Int) (d : Nat) (w : World) (h : RatV w v x d) (hz10 : TZ10 w) : Calls Tryz.prog 36 #[v] w fun e w' => ∃ S E, e = .returned (.tuple #[.string S, .int .i64 E]) ∧ TxtO x d S E ∧ Below w.heap.size w w' := by
  have H := Lib.hid h; have HZ := Lib.hid hz10
  obtain ⟨n, a, k, c, a', k', c', xs, ys, rfl, -⟩ := h
  obtain ⟨W2, eW2, h1, b2, hz2⟩ := alloc1 w (Obj.cells #[.bool n, .slice a k c, .slice a' k' c'] 27)
  have hs2 : W2.heap.size = w.heap.size + 1 := by rw [← eW2]; simp
  obtain ⟨W, eW, g1, bW, hzW⟩ := alloc1 W2 (Obj.cells #[.bool n, .slice a k c, .slice a' k' c'] 27)
  have HA := Lib.hid (blk_below' bW h1)
  have BW := Lib.hid (below_of b2 bW)
  have CK := Lib.hid (check_any _ _ W (ral_one g1 (H.out.below BW.out)) (by simp))
  obtain ⟨⟨p0, p1, p2⟩, _, _⟩ := blk3 h1
  rw [hs2] at CK
  clear h1 b2 g1 bW hz10
  go_enter Tryz.func36, Tryz.ntmps36
  go_wp2_with fail
  refine CK.out.mono ?_
  rintro e w1 ⟨E, rfl, hE, b1⟩
  have A1 := Lib.hid (blk_below' b1 HA.out); have B1 := Lib.hid (below_of BW.out b1)
  clear b1 p0 p1 p2 CK HA BW eW eW2 hzW hz2 hs2
  obtain ⟨⟨p0, p1, p2⟩, _, _⟩ := blk3 A1.out
  unfold ChkO at hE
  rw [rzero_one, rlong_one] at hE
  rcases hE with ⟨hd, rfl⟩ | ⟨hd, hl, rfl⟩ | ⟨hd, hl, rfl⟩
  · have HD := Lib.hid hd
    clear hd
    go_wp2
    go_ret2
    exact ⟨_, _, rfl, .inl ⟨HD.out, rfl, rfl⟩, B1.out⟩
  · have HD : Hid (0 < d) := Lib.hid (Nat.pos_of_ne_zero hd)
    have HL := Lib.hid hl
    clear hd hl
    go_wp2
    go_ret2
    exact ⟨_, _, rfl, .inr (.inl ⟨HD.out, HL.out, rfl, rfl⟩), B1.out⟩
  · have HD : Hid (0 < d) := Lib.hid (Nat.pos_of_ne_zero hd)
    have HL : Hid (¬ longQ (x, d)) := Lib.hid hl
    have HXB : Hid (x.natAbs < Big ∧ d < Big) := Lib.hid ⟨bigR_lt (by omega), bigR_lt (by omega)⟩
    have RD := Lib.hid (rread_any _ x d w1 (H.out.below B1.out))
    clear hd hl
    go_wp2_with fail
    refine RD.out.mono ?_
    rintro e w2 ⟨vf, rfl, hf, b2⟩
    have B2 := Lib.hid (below_of B1.out b2)
    have LW := Lib.hid (lowest_any vf x d w2 hf HXB.out.1 HXB.out.2 HD.out)
    clear hf b2 p0 p1 p2 RD
    go_wp2_with fail
    refine LW.out.mono ?_
    rintro e w3 ⟨vl, rfl, hf, b3⟩
    have B3 := Lib.hid (below_of B2.out b3)
    have HLE := Lib.hid (low_le x d)
    have HTX : Hid (TxtO x d ⟨(toBytes (tQ (lowN x d) (lowD x d))).toArray⟩ 0) := Lib.hid (.inr (.inr ⟨HD.out, HL.out, rfl, rfl⟩))
    have HLB : Hid ((lowN x d).natAbs < Big ∧ lowD x d < Big) := Lib.hid ⟨Nat.lt_of_le_of_lt HLE.out.1 HXB.out.1, Nat.lt_of_le_of_lt HLE.out.2 HXB.out.2⟩
    have F3 := Lib.hid hf.fr
    obtain ⟨a1, k1, c1, a2, k2, c2, rfl, -, -⟩ := hf
    have I3 := Lib.hid (FrV.two F3.out HLB.out.1 HLB.out.2).2.1
    have N3 : Hid (Num w3 (.slice a2 k2 c2) (lowD x d)) := Lib.hid (by
      obtain ⟨a, k, c, a', k', c', e, _, h2⟩ := F3.out
      simp only [Value.agg.injEq, Array.mk.injEq, List.cons.injEq, and_true] at e
      obtain ⟨-, -, e⟩ := e
      rw [e]; exact h2)
    obtain ⟨V, eV, gV, bV, hzV⟩ := alloc1 w3 (Obj.cells #[.bool (sgn (lowN x d)), .slice a1 k1 c1, .slice a2 k2 c2] 84)
    have BV := Lib.hid (below_of B3.out bV)
    have PR := Lib.hid (printI_any _ (lowN x d) V (I3.out.below bV).2 (HZ.out.below BV.out))
    have NV := Lib.hid (N3.out.below' bV)
    have GV := Lib.hid gV
    obtain ⟨⟨p0, p1, p2⟩, _, _⟩ := blk3 gV
    generalize lowN x d = X at *
    generalize lowD x d = D at *
    clear b3 LW bV gV hzV
    go_wp2_with fail
    try rw [eV]
    clear eV
    refine PR.out.mono ?_
    rintro e w4 ⟨rfl, b4⟩
    have G4 := Lib.hid (blk_below' b4 GV.out); have B4 := Lib.hid (below_of BV.out b4); have N4 := Lib.hid (NV.out.below' b4)
    have IO := Lib.hid (isOne_is _ D w4 N4.out)
    have TX := Lib.hid (text_nm N4.out (HZ.out.below B4.out))
    clear b4 p0 p1 p2 PR
    obtain ⟨⟨p0, p1, p2⟩, _, _⟩ := blk3 G4.out
    go_wp2_with fail
    refine IO.out.mono ?_
    rintro e w5 ⟨rfl, rfl⟩
    by_cases h1 : D = 1
    · have HQ : Hid (tQ X D = zS X) := Lib.hid (if_pos h1)
      rw [decide_eq_true h1]
      clear h1
      go_wp2
      go_ret2
      exact ⟨_, _, rfl, by rw [← HQ.out]; exact HTX.out, B4.out⟩
    · have HQ : Hid (tQ X D = zS X ++ 47 :: numeral 10 D) := Lib.hid (if_neg h1)
      have hz1 := size_tb (zS X)
      have hz2 := zS_len HLB.out.1
      have hz3 := size_tb (numeral 10 D)
      have hz4 := numeral_size (b := 10) (by omega) HLB.out.2
      have TX2 : Hid (Calls Tryz.prog 82 #[.slice a2 k2 c2, .int .i64 10] w5 fun e w' => e = .returned (.tuple #[.string ⟨(toBytes (numeral 10 D)).toArray⟩, .int .i64 0]) ∧ Below w5.heap.size w5 w') := Lib.hid (by
        have := TX.out
        rw [(tx_fine (b := 10) (.inr (.inl rfl)) (Nat.not_le.2 HLB.out.2)).1, (tx_fine (b := 10) (.inr (.inl rfl)) (Nat.not_le.2 HLB.out.2)).2] at this
        exact this)
      have HC := Lib.hid (cat_slash (zS X) (numeral 10 D))
      rw [decide_eq_false h1]
      clear h1 TX
      generalize (⟨(toBytes (zS X)).toArray⟩ : ByteArray) = S1 at *
      generalize (⟨(toBytes (numeral 10 D)).toArray⟩ : ByteArray) = S2 at *
      have hs1 : S1.size ≤ 262145 := by omega
      have hs2 : S2.size ≤ 262144 := by omega
      clear hz1 hz2 hz3 hz4
      go_wp2_with fail
      refine TX2.out.mono ?_
      rintro e w6 ⟨rfl, b6⟩
      have B6 := Lib.hid (below_of B4.out b6)
      clear b6 p0 p1 p2
      go_wp2
      go_ret2
      exact ⟨_, _, rfl, by rw [HC.out, ← HQ.out]; exact HTX.out, B6.out⟩
end Go.Proofs.YthgmebnihpjnoaaGreatDoor

/- ratio's laws: small, alive. -/
namespace Go.Proofs.YthgmebnihpjnoaaGreatDoor
open Go.RowKit Mth

theorem bigR_ge {n : Nat} (h : n < 4096) : n < BigR := by
  have h1 : B64 ^ 1 ≤ B64 ^ maxR := Nat.pow_le_pow_right (by decide) (by unfold maxR; omega)
  rw [← bigR_eq, Nat.pow_one] at h1
  have : 4096 ≤ B64 := by decide
  omega
theorem long_no {x : Int} {d : Nat} (h : x.natAbs < 4096) (h2 : d < 4096) : ¬ longQ (x, d) := by
  have h3 := bigR_ge h; have h4 := bigR_ge h2
  unfold longQ
  show ¬ (BigR ≤ x.natAbs ∨ BigR ≤ d)
  omega
theorem one_sl (w : World) (d : Nat) : Sl (w.alloc (Obj.cells #[Value.int IntKind.u64 (d : Int)] 73)) .u64 (.slice (some ⟨w.heap.size, 0, none⟩) 1 1) [d] := by
  have hrow : Row (w.alloc (Obj.cells #[Value.int IntKind.u64 (d : Int)] 73)) 73 .u64 w.heap.size [d] := heap_alloc_new w _
  exact hrow.sl_all (by simp)
theorem RatV.far3 {w : World} {v y0 y1 y2 : Value} {z : Int} {d R : Nat} {T : TypeId} {x : Bool} {ao ao' : Option Addr} {k c k' c' : Nat} (h : RatV w v z d) (hR : w.heap[R]? = some (.cells #[.bool x, .slice ao k c, .slice ao' k' c'] T (0, 0))) : RatV (((w.setCell ⟨R, 0, none⟩ y0).setCell ⟨R, 1, none⟩ y1).setCell ⟨R, 2, none⟩ y2) v z d := by
  obtain ⟨n, a, k, c, a', k', c', xs, ys, e, h1, h2, h3, h4, h5, h6⟩ := h
  have g1 : ∀ b off cap, Value.slice a k c = .slice (some ⟨b, off, none⟩) xs.length cap → 0 < xs.length → b ≠ R := fun b off cap e hp => h1.ne3 hR e hp
  have g2 : ∀ b off cap, Value.slice a' k' c' = .slice (some ⟨b, off, none⟩) ys.length cap → 0 < ys.length → b ≠ R := fun b off cap e hp => h5.ne3 hR e hp
  exact ⟨n, a, k, c, a', k', c', xs, ys, e, ((h1.set_far g1).set_far g1).set_far g1, h2, h3, h4, ((h5.set_far g2).set_far g2).set_far g2, h6⟩
set_option maxHeartbeats 4000000 in
set_option maxRecDepth 100000 in
theorem small3_any (n : Int) (d : Nat) (w : World) (h1 : -9223372036854775808 ≤ n) (h2 : n ≤ 9223372036854775807) (hd : d < B64) : Calls Tryz.prog 48 #[.int .i64 n, .int .u64 (d : Int)] w fun e w' => ∃ v', e = .returned v' ∧ RatV w' v' n d ∧ Below w.heap.size w w' := by
  have HD := Lib.hid hd
  obtain ⟨W, eW, g1, bW, hzW⟩ := alloc1 w (Obj.cells #[.bool false, .slice none 0 0, .slice none 0 0] 27)
  have OI := Lib.hid (ofF n W h1 h2)
  have HR := Lib.hid g1; have BW := Lib.hid bW
  clear h1 h2 g1 bW hd
  go_enter Tryz.func48, Tryz.ntmps48
  go_wp2_with fail
  refine OI.out.mono ?_
  rintro e w1 ⟨n1, a1, k1, c1, rfl, hi, b1⟩
  have R1 := Lib.hid (blk_below' b1 HR.out); have B1 := Lib.hid (below_of BW.out b1)
  obtain ⟨V, eV, gV, bV, hzV⟩ := alloc1 w1 (Obj.cells #[Value.int IntKind.u64 (d : Int)] 73)
  have RV := Lib.hid (blk_below' bV R1.out); have BV := Lib.hid (below_of B1.out bV)
  have RT : Hid (RatV V (.agg #[.bool n1, .slice a1 k1 c1, .slice (some ⟨w1.heap.size, 0, none⟩) 1 1]) n d) := Lib.hid (by
    obtain ⟨m, u, xs, e, hs, hl, hx, hv⟩ := hi.2
    simp only [Value.agg.injEq, Array.mk.injEq, List.cons.injEq, Value.bool.injEq, and_true] at e
    obtain ⟨rfl, rfl⟩ := e
    have e1 := one_sl w1 d
    rw [eV] at e1
    exact ⟨n1, a1, k1, c1, _, 1, 1, xs, [d], rfl, hs.below bV, hl, hx, hv, e1, lim_cons.2 ⟨HD.out, lim_nil (by have := B64_pos; omega)⟩, by simp, by simp [val]⟩)
  obtain ⟨⟨r0, r1, r2⟩, ⟨f0, f1, f2⟩, _⟩ := blk3 RV.out
  have hle : w.heap.size ≤ w.heap.size := Nat.le_refl _
  clear hi b1 gV bV hzV OI HR BW eW hzW
  go_wp2
  refine bodyPost_ret (v := .agg #[.bool n1, .slice a1 k1 c1, .slice (some ⟨w1.heap.size, 0, none⟩) 1 1]) ?_ rfl ⟨_, rfl, RT.out.far3 RV.out, ((BV.out.setCell (p := ⟨w.heap.size, 0, none⟩) hle _).setCell (p := ⟨w.heap.size, 1, none⟩) hle _).setCell (p := ⟨w.heap.size, 2, none⟩) hle _⟩
  simp [results, Tryz.results48, go_sem, *]
theorem ral_three {W : World} {g : Nat} {s0 s1 s2 t0 t1 t2 u0 u1 u2 : Value} {x y z : Int} {d e f : Nat} {T : TypeId} (h : W.heap[g]? = some (.cells #[s0, s1, s2, t0, t1, t2, u0, u1, u2] T (0, 0))) (hr : RatV W (.agg #[s0, s1, s2]) x d) (ht : RatV W (.agg #[t0, t1, t2]) y e) (hu : RatV W (.agg #[u0, u1, u2]) z f) :
    RaL W (.slice (some ⟨g, 0, none⟩) 3 3) [(.agg #[s0, s1, s2], x, d), (.agg #[t0, t1, t2], y, e), (.agg #[u0, u1, u2], z, f)] :=
  ral_of (L := [(.agg #[s0, s1, s2], x, d), (.agg #[t0, t1, t2], y, e), (.agg #[u0, u1, u2], z, f)]) h (fun i q hq => by
    match i, hq with
    | 0, hq => obtain rfl := Option.some.inj hq; exact ⟨hr, _, _, _, rfl, rfl, rfl, rfl⟩
    | 1, hq => obtain rfl := Option.some.inj hq; exact ⟨ht, _, _, _, rfl, rfl, rfl, rfl⟩
    | 2, hq => obtain rfl := Option.some.inj hq; exact ⟨hu, _, _, _, rfl, rfl, rfl, rfl⟩
    | i + 3, hq => simp at hq)
theorem gat_three {v1 v2 v3 v' : Value} {w : World} {E : Int} (h : GatO false (0, 1) [(v1, 1, 2), (v2, 1, 3), (v3, 2, 12)] w v' E) : E = 0 ∧ FrV w v' 1 1 := by
  have n1 : ¬ rzero [(v1, 1, 2), (v2, 1, 3), (v3, 2, 12)] := by unfold rzero; simp
  have n2 : ¬ rlong [(v1, 1, 2), (v2, 1, 3), (v3, 2, 12)] := by
    have e1 := long_no (x := 1) (d := 2) (by decide) (by decide)
    have e2 := long_no (x := 1) (d := 3) (by decide) (by decide)
    have e3 := long_no (x := 2) (d := 12) (by decide) (by decide)
    unfold longQ at e1 e2 e3
    unfold rlong rlong1
    simp only [List.mem_cons, List.not_mem_nil, or_false]
    rintro ⟨y, rfl | rfl | rfl, hy⟩
    · exact e1 hy
    · exact e2 hy
    · exact e3 hy
  have s1 : stepQ false (0, 1) (v1, 1, 2) = (1, 2) := by simp only [stepQ]; decide
  have s2 : stepQ false (1, 2) (v2, 1, 3) = (5, 6) := by simp only [stepQ]; decide
  have s3 : stepQ false (5, 6) (v3, 2, 12) = (1, 1) := by simp only [stepQ]; decide
  have hf : foldQ false (0, 1) [(v1, 1, 2), (v2, 1, 3), (v3, 2, 12)] = some (1, 1) := by
    rw [fold_no (by rw [s1]; exact long_no (by decide) (by decide)), s1, fold_no (by rw [s2]; exact long_no (by decide) (by decide)), s2, fold_no (by rw [s3]; exact long_no (by decide) (by decide)), s3]
    rfl
  rcases h with ⟨h, _⟩ | ⟨_, h | h, _⟩ | ⟨_, _, x, d, h, he, hr⟩
  · exact absurd h n1
  · exact absurd h n2
  · rw [hf] at h; cases h
  · rw [hf] at h
    injection h with h
    injection h with h3 h4
    subst h3 h4
    exact ⟨he, hr⟩
theorem txt_six {S : ByteArray} {E : Int} (h : TxtO (-6) 4 S E) : E = 0 ∧ S = ⟨#[45, 51, 47, 50]⟩ := by
  have n1 := long_no (x := -6) (d := 4) (by decide) (by decide)
  rcases h with ⟨h, _⟩ | ⟨_, h, _⟩ | ⟨_, _, h, he⟩
  · cases h
  · exact absurd h n1
  · refine ⟨he, h.trans ?_⟩
    have e1 : lowN (-6) 4 = -3 := by decide
    have e2 : lowD (-6) 4 = 2 := by decide
    have hb : (-3 : Int).natAbs < Big := bigR_lt (bigR_ge (by decide))
    rw [e1, e2]
    unfold tQ
    rw [if_neg (by decide), zS_neg hb (by decide), numeral_low (b := 10) (n := (-3 : Int).natAbs) (by decide), numeral_low (b := 10) (n := 2) (by decide)]
    rfl
set_option maxHeartbeats 8000000 in
set_option maxRecDepth 100000 in
theorem alive3_any (w : World) (hz10 : TZ10 w) : Calls Tryz.prog 17 #[] w fun e w' => e = .returned (.bool true) ∧ Below w.heap.size w w' := by
  have HZ := Lib.hid hz10
  have C1 : Hid (Calls Tryz.prog 48 #[.int .i64 1, .int .u64 2] w fun e w' => ∃ v', e = .returned v' ∧ RatV w' v' 1 2 ∧ Below w.heap.size w w') := Lib.hid (small3_any 1 2 w (by decide) (by decide) (by decide))
  clear hz10
  go_enter Tryz.func17, Tryz.ntmps17
  go_wp2_with fail
  refine C1.out.mono ?_
  rintro e w1 ⟨v1, rfl, hr1, b1⟩
  have B1 := Lib.hid b1
  have R1 := Lib.hid hr1
  have C2 : Hid (Calls Tryz.prog 48 #[.int .i64 1, .int .u64 3] w1 fun e w' => ∃ v', e = .returned v' ∧ RatV w' v' 1 3 ∧ Below w1.heap.size w1 w') := Lib.hid (small3_any 1 3 w1 (by decide) (by decide) (by decide))
  obtain ⟨n1, a1, k1, c1, s1, t1, u1, rfl⟩ := rat_shape hr1
  clear hr1 b1 C1
  go_wp2_with fail
  refine C2.out.mono ?_
  rintro e w2 ⟨v2, rfl, hr2, b2⟩
  have B2 := Lib.hid (below_of B1.out b2)
  have R1' := Lib.hid (R1.out.below b2)
  have R2 := Lib.hid hr2
  have C3 : Hid (Calls Tryz.prog 48 #[.int .i64 2, .int .u64 12] w2 fun e w' => ∃ v', e = .returned v' ∧ RatV w' v' 2 12 ∧ Below w2.heap.size w2 w') := Lib.hid (small3_any 2 12 w2 (by decide) (by decide) (by decide))
  obtain ⟨n2, a2, k2, c2, s2, t2, u2, rfl⟩ := rat_shape hr2
  clear hr2 b2 C2 R1
  go_wp2_with fail
  refine C3.out.mono ?_
  rintro e w3 ⟨v3, rfl, hr3, b3⟩
  have B3 := Lib.hid (below_of B2.out b3)
  obtain ⟨n3, a3, k3, c3, s3, t3, u3, rfl⟩ := rat_shape hr3
  obtain ⟨V, eV, gV, bV, hzV⟩ := alloc1 w3 (Obj.cells #[.bool n1, .slice a1 k1 c1, .slice s1 t1 u1, .bool n2, .slice a2 k2 c2, .slice s2 t2 u2, .bool n3, .slice a3 k3 c3, .slice s3 t3 u3] 27)
  have BV := Lib.hid (below_of B3.out bV)
  have AD := Lib.hid (radd_any3 _ _ V (ral_three gV ((R1'.out.below b3).below bV) ((R2.out.below b3).below bV) (hr3.below bV)) (by simp))
  clear hr3 b3 C3 R1' R2 gV bV hzV
  go_wp2_with fail
  try rw [eV]
  clear eV
  refine AD.out.mono ?_
  rintro e w5 ⟨v5, E, rfl, hg, b5⟩
  have B5 := Lib.hid (below_of BV.out b5)
  obtain ⟨rfl, hf⟩ := gat_three hg
  have F5 := Lib.hid hf
  obtain ⟨n5, a5, k5, c5, s5, t5, u5, rfl⟩ := frv_shape hf
  obtain ⟨U, eU, gU, bU, hzU⟩ := alloc1 w5 (Obj.cells #[.bool n5, .slice a5 k5 c5, .slice s5 t5 u5] 27)
  have GU := Lib.hid gU; have BU := Lib.hid (below_of B5.out bU); have FU := Lib.hid (F5.out.below bU)
  have C6 : Hid (Calls Tryz.prog 48 #[.int .i64 (-6), .int .u64 4] U fun e w' => ∃ v', e = .returned v' ∧ RatV w' v' (-6) 4 ∧ Below U.heap.size U w') := Lib.hid (small3_any (-6) 4 U (by decide) (by decide) (by decide))
  clear hf hg b5 AD F5 gU bU hzU
  go_wp2_with fail
  try rw [eU]
  clear eU
  refine C6.out.mono ?_
  rintro e w7 ⟨v7, rfl, hr7, b7⟩
  have B7 := Lib.hid (below_of BU.out b7); have G7 := Lib.hid (blk_below' b7 GU.out); have F7 := Lib.hid (FU.out.below b7)
  have TX := Lib.hid (rtextQ_any v7 _ _ w7 hr7 (HZ.out.below B7.out))
  clear hr7 b7 C6
  go_wp2_with fail
  refine TX.out.mono ?_
  rintro e w8 ⟨S, E, rfl, ht, b8⟩
  obtain ⟨rfl, rfl⟩ := txt_six ht
  have B8 := Lib.hid (below_of B7.out b8); have G8 := Lib.hid (blk_below' b8 G7.out); have F8 := Lib.hid (F7.out.below b8)
  obtain ⟨X, eX, gX, bX, hzX⟩ := alloc1 w8 (Obj.cells #[Value.int IntKind.u64 1] 73)
  obtain ⟨Y, eY, gY, bY, hzY⟩ := alloc1 X (Obj.cells #[Value.int IntKind.u64 1] 73)
  have BX := Lib.hid (below_of B8.out bX); have BY := Lib.hid (below_of BX.out bY)
  have F1 : Hid (FrV Y (.agg #[.bool false, .slice (some ⟨w8.heap.size, 0, none⟩) 1 1, .slice (some ⟨X.heap.size, 0, none⟩) 1 1]) 1 1) := Lib.hid (by
    have e1 := one_sl w8 1
    have e2 := one_sl X 1
    rw [show (((1 : Nat) : Int)) = 1 from rfl] at e1 e2
    rw [eX] at e1
    rw [eY] at e2
    have hl : Lim B64 [1] := lim_cons.2 ⟨by decide, lim_nil (by have := B64_pos; omega)⟩
    have ht : Top [1] := by simp [Top, tlen]
    exact ⟨_, _, _, _, _, _, rfl, ⟨[1], e1.below bY, hl, ht, by simp [val]⟩, ⟨[1], e2, hl, ht, by simp [val]⟩⟩)
  have SM := Lib.hid (rsame3_any _ _ 1 1 Y ((F8.out.below bX).below bY) F1.out)
  obtain ⟨⟨p0, p1, p2⟩, _, _⟩ := blk3 G8.out
  clear ht b8 TX gX bX hzX gY bY hzY
  go_wp2_with fail
  refine SM.out.mono ?_
  rintro e w9 ⟨rfl, b9⟩
  have B9 := Lib.hid (below_of BY.out b9)
  clear b9
  go_wp2
  go_ret
  exact ⟨rfl, B9.out⟩
end Go.Proofs.YthgmebnihpjnoaaGreatDoor

/- fractions: orders and signs, in plain mathematics. -/
namespace Go.Proofs.YthgmebnihpjnoaaGreatDoor
open Go.RowKit Mth

theorem posI {d : Nat} (h : 0 < d) : (0 : Int) < (d : Int) := Int.natCast_pos.2 h
theorem le_tr {x1 x2 x3 : Int} {d1 d2 d3 : Nat} (h2 : 0 < d2) (a : x1 * d2 ≤ x2 * d1) (b : x2 * d3 ≤ x3 * d2) : x1 * d3 ≤ x3 * d1 := by
  have a' := Int.mul_le_mul_of_nonneg_right a (Int.natCast_nonneg d3)
  have b' := Int.mul_le_mul_of_nonneg_right b (Int.natCast_nonneg d1)
  have e1 : x1 * d3 * d2 = x1 * d2 * d3 := by grind
  have e2 : x2 * d1 * d3 = x2 * d3 * d1 := by grind
  have e3 : x3 * d1 * d2 = x3 * d2 * d1 := by grind
  have h : x1 * d3 * d2 ≤ x3 * d1 * d2 := by rw [e1, e3]; rw [e2] at a'; exact Int.le_trans a' b'
  exact Int.le_of_mul_le_mul_right h (posI h2)
theorem lt_tr {x1 x2 x3 : Int} {d1 d2 d3 : Nat} (h2 : 0 < d2) (h3 : 0 < d3) (a : x1 * d2 < x2 * d1) (b : x2 * d3 ≤ x3 * d2) : x1 * d3 < x3 * d1 := by
  have a' := Int.mul_lt_mul_of_pos_right a (posI h3)
  have b' := Int.mul_le_mul_of_nonneg_right b (Int.natCast_nonneg d1)
  have e1 : x1 * d3 * d2 = x1 * d2 * d3 := by grind
  have e2 : x2 * d1 * d3 = x2 * d3 * d1 := by grind
  have e3 : x3 * d1 * d2 = x3 * d2 * d1 := by grind
  have h : x1 * d3 * d2 < x3 * d1 * d2 := by rw [e1, e3]; rw [e2] at a'; exact Int.lt_of_lt_of_le a' b'
  exact Int.lt_of_mul_lt_mul_right h (Int.le_of_lt (posI h2))
theorem sign_of_eq {a b p q : Int} (hp : 0 < p) (hq : 0 < q) (h : a * p = b * q) : zcmp a 0 = zcmp b 0 := by
  have key : ∀ a b p q : Int, 0 < p → 0 < q → a * p = b * q → 0 < a → 0 < b := fun a b p q hp hq h ha => by
    have h1 := Int.mul_pos ha hp
    rw [h] at h1
    exact Int.pos_of_mul_pos_left (a := b) (b := q) h1 hq
  have kneg : ∀ a b p q : Int, 0 < p → 0 < q → a * p = b * q → a < 0 → b < 0 := fun a b p q hp hq h ha => by
    have h1 := key (-a) (-b) p q hp hq (by rw [Int.neg_mul, Int.neg_mul, h]) (by omega)
    omega
  rcases Int.lt_trichotomy a 0 with h1 | h1 | h1
  · rw [zcmp_lt h1, zcmp_lt (kneg a b p q hp hq h h1)]
  · have : b = 0 := by
      rcases Int.lt_trichotomy b 0 with h2 | h2 | h2
      · have := kneg b a q p hq hp h.symm h2; omega
      · exact h2
      · have := key b a q p hq hp h.symm h2; omega
    rw [zcmp_eq h1, zcmp_eq this]
  · rw [zcmp_gt h1, zcmp_gt (key a b p q hp hq h h1)]
theorem zcmp_sub (a b : Int) : zcmp (a - b) 0 = zcmp a b := by
  unfold zcmp
  (repeat' split) <;> first | rfl | omega
theorem zcmp3 (x y : Int) : (zcmp x y = -1 ∧ x < y) ∨ (zcmp x y = 0 ∧ x = y) ∨ (zcmp x y = 1 ∧ y < x) := by
  unfold zcmp
  (repeat' split) <;> omega
/-- the first of a sum -/
theorem step_one (v : Value) (x : Int) (d : Nat) : stepQ false (0, 1) (v, x, d) = (lowN x d, lowD x d) := by
  simp only [stepQ]
  rw [Int.zero_mul, Int.zero_add, Nat.one_mul, show ((1 : Nat) : Int) = 1 from rfl, Int.mul_one]
theorem step_two (v : Value) (n : Int) (e : Nat) (y : Int) (d : Nat) : stepQ false (n, e) (v, y, d) = (lowN (n * d + y * e) (e * d), lowD (n * d + y * e) (e * d)) := rfl
theorem low_short {x : Int} {d : Nat} (h : ¬ longQ (x, d)) : ¬ longQ (lowN x d, lowD x d) := by
  have hl := low_le x d
  unfold longQ at h ⊢
  show ¬ (BigR ≤ (lowN x d).natAbs ∨ BigR ≤ lowD x d)
  have h' : ¬ (BigR ≤ x.natAbs ∨ BigR ≤ d) := h
  omega
/-- the sum of two, as it is reckoned, is the sum in lowest terms -/
theorem low_uniq {n m : Int} {d e : Nat} (hd : 0 < d) (he : 0 < e) (h : n * e = m * d) : lowN n d = lowN m e ∧ lowD n d = lowD m e := by
  have a1 := low_eq n hd
  have a2 := low_eq m he
  have p1 := lowD_pos (n := n) hd
  have p2 := lowD_pos (n := m) he
  have c1 := low_coprime (n := n) hd
  have c2 := low_coprime (n := m) he
  generalize lowN n d = N at *
  generalize lowN m e = M at *
  generalize lowD n d = D at *
  generalize lowD m e = E at *
  have k : N * E = M * D := by
    have k1 : (N * E) * (d * e) = (M * D) * (d * e) := by
      have b1 : (N * E) * (d * e) = (N * d) * (E * e) := by grind
      have b2 : (M * D) * (d * e) = (M * e) * (D * d) := by grind
      rw [b1, b2, ← a1, ← a2]
      have b3 : n * D * (E * e) = (n * e) * (D * E) := by grind
      have b4 : m * E * (D * d) = (m * d) * (D * E) := by grind
      rw [b3, b4, h]
    have hp : (0 : Int) < (d : Int) * e := Int.mul_pos (posI hd) (posI he)
    exact Int.eq_of_mul_eq_mul_right (Int.ne_of_gt hp) k1
  have kn : N.natAbs * E = M.natAbs * D := by
    have := congrArg Int.natAbs k
    rwa [Int.natAbs_mul, Int.natAbs_mul, Int.natAbs_natCast, Int.natAbs_natCast] at this
  have hDE : D = E := by
    have d1 : D ∣ E := by
      have : D ∣ N.natAbs * E := ⟨M.natAbs, by rw [kn, Nat.mul_comm]⟩
      exact Nat.Coprime.dvd_of_dvd_mul_left (by rw [Nat.Coprime, Nat.gcd_comm]; exact c1) this
    have d2 : E ∣ D := by
      have : E ∣ M.natAbs * D := ⟨N.natAbs, by rw [← kn, Nat.mul_comm]⟩
      exact Nat.Coprime.dvd_of_dvd_mul_left (by rw [Nat.Coprime, Nat.gcd_comm]; exact c2) this
    exact Nat.dvd_antisymm d1 d2
  subst hDE
  exact ⟨Int.eq_of_mul_eq_mul_right (Int.ne_of_gt (posI p1)) k, rfl⟩
open Classical in
/-- a sum of two: what gather says of it -/
theorem add_two {v u v' : Value} {x y : Int} {d e : Nat} {w : World} {E : Int} (h : GatO false (0, 1) [(v, x, d), (u, y, e)] w v' E) :
    ((d = 0 ∨ e = 0) ∧ E = 11 ∧ v' = zRat) ∨ (0 < d ∧ 0 < e ∧ (longQ (x, d) ∨ longQ (y, e) ∨ longQ (lowN (x * e + y * d) (d * e), lowD (x * e + y * d) (d * e))) ∧ E = 5 ∧ v' = zRat) ∨
    (0 < d ∧ 0 < e ∧ ¬ longQ (x, d) ∧ ¬ longQ (y, e) ∧ ¬ longQ (lowN (x * e + y * d) (d * e), lowD (x * e + y * d) (d * e)) ∧ E = 0 ∧ FrV w v' (lowN (x * e + y * d) (d * e)) (lowD (x * e + y * d) (d * e))) := by
  unfold GatO at h
  rw [rzero_two, rlong_two] at h
  have key : 0 < d → 0 < e → ¬ longQ (x, d) → (foldQ false (0, 1) [(v, x, d), (u, y, e)] = if longQ (lowN (x * e + y * d) (d * e), lowD (x * e + y * d) (d * e)) then none else some (lowN (x * e + y * d) (d * e), lowD (x * e + y * d) (d * e))) := fun hd he hl => by
    have s2 : stepQ false (lowN x d, lowD x d) (u, y, e) = (lowN (x * e + y * d) (d * e), lowD (x * e + y * d) (d * e)) := by
      rw [step_two]
      have hle := low_eq x hd
      have hu := low_uniq (n := lowN x d * e + y * lowD x d) (m := x * e + y * d) (d := lowD x d * e) (e := d * e) (Nat.mul_pos (lowD_pos hd) he) (Nat.mul_pos hd he) (by
        rw [Int.natCast_mul, Int.natCast_mul]
        have b1 : (lowN x d * e + y * lowD x d) * (d * e) = (lowN x d * d) * e * e + y * lowD x d * (d * e) := by grind
        have b2 : (x * e + y * d) * (lowD x d * e) = (x * lowD x d) * e * e + y * lowD x d * (d * e) := by grind
        rw [b1, b2, hle])
      rw [hu.1, hu.2]
    rw [fold_no (by rw [step_one]; exact low_short hl), step_one]
    by_cases hq : longQ (lowN (x * e + y * d) (d * e), lowD (x * e + y * d) (d * e))
    · rw [if_pos hq, fold_yes (by rw [s2]; exact hq)]
    · rw [if_neg hq, fold_no (by rw [s2]; exact hq), s2]; rfl
  rcases h with ⟨h1, h2, h3⟩ | ⟨h1, h2, h3, h4⟩ | ⟨h1, h2, X, D, h3, h4, h5⟩
  · exact .inl ⟨h1, h2, h3⟩
  · have hd : 0 < d := by omega
    have he : 0 < e := by omega
    refine .inr (.inl ⟨hd, he, ?_, h3, h4⟩)
    rcases h2 with (h2 | h2) | h2
    · exact .inl h2
    · exact .inr (.inl h2)
    · by_cases hl : longQ (x, d)
      · exact .inl hl
      · rw [key hd he hl] at h2
        split at h2
        · rename_i hq; exact .inr (.inr hq)
        · cases h2
  · have hd : 0 < d := by omega
    have he : 0 < e := by omega
    have hl : ¬ longQ (x, d) := fun h => h2 (.inl h)
    rw [key hd he hl] at h3
    split at h3
    · cases h3
    · rename_i hq
      injection h3 with h3
      injection h3 with e1 e2
      subst e1 e2
      exact .inr (.inr ⟨hd, he, hl, fun h => h2 (.inr h), hq, h4, h5⟩)
theorem low_zcmp {n : Int} {d : Nat} (h : 0 < d) : zcmp (lowN n d) 0 = zcmp n 0 := (sign_of_eq (posI (lowD_pos h)) (posI h) (low_eq n h)).symm
end Go.Proofs.YthgmebnihpjnoaaGreatDoor
