/- tribunalref03: Quo (written by genrcg.py). -/
import Derived.Test.YthgmebnihpjnoaaGreatDoorRCS
set_option linter.unusedVariables false
set_option linter.unusedSimpArgs false
namespace Go.Proofs.YthgmebnihpjnoaaGreatDoor
open Go.RowKit Mth

theorem quo_to {w : World} {v : Value} {x : Int} {d : Nat} {y : Int} {e : Nat} {E : Int} (hd : 0 < d) (he : 0 < e) (hl : ¬ longQ (x, d)) (hl2 : ¬ longQ (y, e)) (hy : y ≠ 0) (h : QToO w v E (x * sg (sgn y) e) (d * y.natAbs)) : QuoO w v x d y e E := by
  rcases h with ⟨h1, rfl, rfl⟩ | ⟨h1, h2, h3⟩
  · exact ⟨0, 0, frv_zeroY _, .inr (.inr (.inr (.inl ⟨hd, he, hl, hl2, hy, h1, rfl, rfl, rfl⟩)))⟩
  · exact ⟨_, _, h3, .inr (.inr (.inr (.inr ⟨hd, he, hl, hl2, hy, h1, h2, rfl, rfl⟩)))⟩
theorem quo_low (va vb : Value) (x y : Int) (d e : Nat) (w : World) (ha : ZV w va (x * (e : Int))) (hb : ZV w vb ((d : Int) * y)) (h0 : 0 < d) (hy : y ≠ 0) (hh : d * y.natAbs < HugeD) :
    Calls Tryz.prog 61 #[va, vb] w fun e' w' => ∃ v', e' = .returned v' ∧ QV w' v' (lowN (x * sg (sgn y) e) (d * y.natAbs)) (lowD (x * sg (sgn y) e) (d * y.natAbs)) ∧ Below w.heap.size w w' := by
  have hp : 0 < d * y.natAbs := Nat.mul_pos h0 (by omega)
  rcases Int.lt_or_gt_of_ne hy with h | h
  · have e1 : (d : Int) * y = -((d * y.natAbs : Nat) : Int) := by
      rw [Int.natCast_mul, ← Int.mul_neg]; congr 1; omega
    have e2 : x * sg (sgn y) e = -(x * (e : Int)) := by
      rw [sgn_neg h, ← Int.mul_neg]; rfl
    rw [e1] at hb
    rw [e2]
    exact rlow_neg va vb _ _ w ha hb hp hh
  · have e1 : (d : Int) * y = ((d * y.natAbs : Nat) : Int) := by
      rw [Int.natCast_mul]; congr 1; omega
    have e2 : x * sg (sgn y) e = x * (e : Int) := by
      rw [sgn_pos (by omega)]; rfl
    rw [e1] at hb
    rw [e2]
    exact rlow_any va vb _ _ w ha hb hp hh
set_option maxHeartbeats 8000000 in
set_option maxRecDepth 100000 in
theorem rquo3_any (va vb : Value) (x1 x2 : Int) (d1 d2 : Nat) (w : World) (ha : RatV w va x1 d1) (hb : RatV w vb x2 d2) : Calls Tryz.prog 23 #[va, vb] w fun e w' => ∃ v' E, e = .returned (.tuple #[v', .int .i64 E]) ∧ QuoO w' v' x1 d1 x2 d2 E ∧ Below w.heap.size w w' := by
  have H1 := Lib.hid ha; have H2 := Lib.hid hb
  obtain ⟨m1, a1, k1, c1, s1, t1, u1, xs1, ys1, rfl, -⟩ := ha
  obtain ⟨m2, a2, k2, c2, s2, t2, u2, xs2, ys2, rfl, -⟩ := hb
  obtain ⟨W2, eW2, h1, h2, h3, b2, hz2⟩ := alloc3 w (Obj.cells #[.bool m1, .slice a1 k1 c1, .slice s1 t1 u1] 27) (Obj.cells #[.bool m2, .slice a2 k2 c2, .slice s2 t2 u2] 27) (Obj.cells #[.bool false, .slice none 0 0, .slice none 0 0] 27)
  have hs2 : W2.heap.size = w.heap.size + 1 + 1 + 1 := by rw [← eW2]; simp
  obtain ⟨W, eW, g1, bW, hzW⟩ := alloc1 W2 (Obj.cells #[.bool m1, .slice a1 k1 c1, .slice s1 t1 u1, .bool m2, .slice a2 k2 c2, .slice s2 t2 u2] 27)
  have HR : Hid (W.heap[w.heap.size + 1 + 1]? = _) := Lib.hid (blk_below' bW h3)
  have BW := Lib.hid (below_of b2 bW)
  have CA := Lib.hid (rall_any _ _ W (ral_two g1 (H1.out.below BW.out) (H2.out.below BW.out)) (by simp))
  obtain ⟨⟨p0, p1, p2⟩, _, _⟩ := blk3 h1
  obtain ⟨⟨q0, q1, q2⟩, _, _⟩ := blk3 h2
  rw [hs2] at CA
  have hle : w.heap.size ≤ w.heap.size + 1 + 1 := by omega
  clear h1 h2 h3 b2 g1 bW
  go_enter Tryz.func23, Tryz.ntmps23
  go_wp2_with fail
  refine CA.out.mono ?_
  rintro e w1 ⟨v1, E, rfl, hE, ⟨qa, qk, qc, rfl⟩, b1⟩
  have R1 := Lib.hid (blk_below' b1 HR.out); have B1 := Lib.hid (below_of BW.out b1)
  clear b1 p0 p1 p2 q0 q1 q2 CA BW eW eW2 hzW hz2 hs2 HR
  unfold AllO at hE
  rw [rzero_two, rlong_two] at hE
  obtain ⟨⟨r0, r1, r2⟩, ⟨f0, f1, f2⟩, _⟩ := blk3 R1.out
  rcases hE with ⟨hd, rfl⟩ | ⟨hd, hl, rfl⟩ | ⟨hd, hl, rfl, cs, hq, hcl, hqv⟩
  · have HD := Lib.hid hd
    clear hd
    go_wp2
    refine bodyPost_ret (v := .tuple #[.agg #[.bool false, .slice none 0 0, .slice none 0 0], .int .i64 11]) ?_ rfl ⟨_, _, rfl, ⟨0, 0, frv_zeroY _, .inl ⟨HD.out, rfl, rfl, rfl⟩⟩, ((B1.out.setCell (p := ⟨w.heap.size + 1 + 1, 0, none⟩) hle _).setCell (p := ⟨w.heap.size + 1 + 1, 1, none⟩) hle _).setCell (p := ⟨w.heap.size + 1 + 1, 2, none⟩) hle _⟩
    simp [results, Tryz.results23, go_sem, *]
  · have HD : Hid (0 < d1 ∧ 0 < d2) := Lib.hid (by omega)
    have HL := Lib.hid hl
    clear hd hl
    go_wp2
    refine bodyPost_ret (v := .tuple #[.agg #[.bool false, .slice none 0 0, .slice none 0 0], .int .i64 5]) ?_ rfl ⟨_, _, rfl, ⟨0, 0, frv_zeroY _, .inr (.inl ⟨HD.out.1, HD.out.2, HL.out, rfl, rfl, rfl⟩)⟩, ((B1.out.setCell (p := ⟨w.heap.size + 1 + 1, 0, none⟩) hle _).setCell (p := ⟨w.heap.size + 1 + 1, 1, none⟩) hle _).setCell (p := ⟨w.heap.size + 1 + 1, 2, none⟩) hle _⟩
    simp [results, Tryz.results23, go_sem, *]
  · have HD : Hid (0 < d1 ∧ 0 < d2) := Lib.hid (by omega)
    have HL : Hid (¬ longQ (x1, d1) ∧ ¬ longQ (x2, d2)) := Lib.hid ⟨fun h => hl (.inl h), fun h => hl (.inr h)⟩
    clear hd hl
    match cs, hcl with
    | [x, y], _ =>
    have QA := Lib.hid (hqv 0 x _ rfl rfl); have QB := Lib.hid (hqv 1 y _ rfl rfl)
    obtain ⟨ao', cap', he, hc⟩ := hq
    obtain ⟨b, off, hb, hblt, hcc⟩ := hc (by simp)
    simp only [Value.slice.injEq] at he
    obtain ⟨rfl, rfl, rfl⟩ := he
    subst hb
    obtain ⟨g0, g1, g2, g3⟩ := QcL.at hcc (i := 0) rfl
    obtain ⟨g4, g5, g6, g7⟩ := QcL.at hcc (i := 1) rfl
    obtain ⟨mx, ax, kx, cx, nx, sx, tx, ux⟩ := x
    obtain ⟨my, ay, ky, cy, ny, sy, ty, uy⟩ := y
    simp only [Nat.zero_mul, Nat.add_zero, Nat.one_mul] at g0 g1 g2 g3 g4 g5 g6 g7
    have hlen2 : ([(⟨mx, ax, kx, cx, nx, sx, tx, ux⟩ : QC), ⟨my, ay, ky, cy, ny, sy, ty, uy⟩] : List QC).length = 2 := rfl
    obtain ⟨zNx, zDx⟩ := QA.out.parts
    obtain ⟨zNy, zDy⟩ := QB.out.parts
    have HB : Hid (x1.natAbs < B16 ^ 4096 ∧ (d1 : Int).natAbs < B16 ^ 4096 ∧ x2.natAbs < B16 ^ 4096 ∧ (d2 : Int).natAbs < B16 ^ 4096) := Lib.hid (by
      obtain ⟨b1, b2⟩ := not_longQ.1 HL.out.1
      obtain ⟨b3, b4⟩ := not_longQ.1 HL.out.2
      rw [← bigR16, Int.natAbs_natCast, Int.natAbs_natCast]; exact ⟨b1, b2, b3, b4⟩)
    have hbR := not_res R1.out g0 g2
    have NI0 : NoInt #[.bool false, .slice none 0 0, .slice none 0 0] := by
      intro i k n
      rcases i with _ | _ | _ | i <;> simp
    have HNI := Lib.hid NI0
    have STAY : Hid (∀ w', ZrN w1 w' (w.heap.size + 1 + 1) 27 3 → w'.cell? ⟨b, off, none⟩ = some (.bool mx) ∧ w'.cell? ⟨b, off + 1, none⟩ = some (.slice ax kx cx) ∧ w'.cell? ⟨b, off + 2, none⟩ = some (.bool nx) ∧ w'.cell? ⟨b, off + 3, none⟩ = some (.slice sx tx ux) ∧ w'.cell? ⟨b, off + 4, none⟩ = some (.bool my) ∧ w'.cell? ⟨b, off + 4 + 1, none⟩ = some (.slice ay ky cy) ∧ w'.cell? ⟨b, off + 4 + 2, none⟩ = some (.bool ny) ∧ w'.cell? ⟨b, off + 4 + 3, none⟩ = some (.slice sy ty uy) ∧ ZrN w1 w' (w.heap.size + 1 + 1) 27 3) := Lib.hid (fun w' h => ⟨h.cell g0 hbR, h.cell g1 hbR, h.cell g2 hbR, h.cell g3 hbR, h.cell g4 hbR, h.cell g5 hbR, h.cell g6 hbR, h.cell g7 hbR, h⟩)
    have T1 : Hid (∀ u, ZrN w1 u (w.heap.size + 1 + 1) 27 3 → Calls Tryz.prog 62 #[.agg #[.bool mx, .slice ax kx cx], .agg #[.bool ny, .slice sy ty uy]] u fun e w' => ResZ u w' e (x1 * (d2 : Int))) := Lib.hid (fun u hu => (times_any2 _ _ _ _ u (zNx.zrnN R1.out HNI.out hu) (zDy.zrnN R1.out HNI.out hu) 4096 4096 HB.out.1 HB.out.2.2.2 (by omega)).mono (by rintro e w' ⟨v', rfl, hv, hb⟩; obtain ⟨n, a, k, c, rfl⟩ := hv.shape; exact ⟨_, _, _, _, rfl, hv, hb⟩))
    have T2 : Hid (∀ u, ZrN w1 u (w.heap.size + 1 + 1) 27 3 → Calls Tryz.prog 62 #[.agg #[.bool nx, .slice sx tx ux], .agg #[.bool my, .slice ay ky cy]] u fun e w' => ResZ u w' e ((d1 : Int) * x2)) := Lib.hid (fun u hu => (times_any2 _ _ _ _ u (zDx.zrnN R1.out HNI.out hu) (zNy.zrnN R1.out HNI.out hu) 4096 4096 HB.out.2.1 HB.out.2.2.1 (by omega)).mono (by rintro e w' ⟨v', rfl, hv, hb⟩; obtain ⟨n, a, k, c, rfl⟩ := hv.shape; exact ⟨_, _, _, _, rfl, hv, hb⟩))
    have HLZ := Lib.hid (zv_len zNy)
    have hZ0 : ZrN w1 w1.drew (w.heap.size + 1 + 1) 27 3 := (zrn_start R1.out HNI.out).drew
    clear hc hcc hqv QA QB zNx zDx zNy zDy NI0
    by_cases hx : x2 = 0
    · have HX := Lib.hid hx
      obtain rfl : ky = 0 := HLZ.out.2 hx
      clear hx
      go_wp2
      refine bodyPost_ret (v := .tuple #[.agg #[.bool false, .slice none 0 0, .slice none 0 0], .int .i64 11]) ?_ rfl ⟨_, _, rfl, ⟨0, 0, frv_zeroY _, .inr (.inr (.inl ⟨HD.out.1, HD.out.2, HL.out.1, HL.out.2, HX.out, rfl, rfl, rfl⟩))⟩, ((B1.out.setCell (p := ⟨w.heap.size + 1 + 1, 0, none⟩) hle _).setCell (p := ⟨w.heap.size + 1 + 1, 1, none⟩) hle _).setCell (p := ⟨w.heap.size + 1 + 1, 2, none⟩) hle _⟩
      simp [results, Tryz.results23, go_sem, *]
    · have HX := Lib.hid hx
      have hk : ((ky : Int) == 0) = false := by rw [beq_eq_false_iff_ne]; intro h; exact hx (HLZ.out.1 (by show ky = 0; omega))
      have HM : Hid (0 < d1 * x2.natAbs) := Lib.hid (Nat.mul_pos HD.out.1 (by omega))
      have HH : Hid (d1 * x2.natAbs < HugeD) := Lib.hid (hugeD_of (not_longQ.1 HL.out.1).2 (not_longQ.1 HL.out.2).1)
      have TT : Hid (∀ u v, QV u v (lowN (x1 * sg (sgn x2) d2) (d1 * x2.natAbs)) (lowD (x1 * sg (sgn x2) d2) (d1 * x2.natAbs)) → Calls Tryz.prog 41 #[v] u fun e w' => ∃ v' E, e = .returned (.tuple #[v', .int .i64 E]) ∧ QToO w' v' E (x1 * sg (sgn x2) d2) (d1 * x2.natAbs) ∧ Below u.heap.size u w') := Lib.hid (fun u v hv => (rto_any v _ _ u hv (lowD_pos HM.out) (Nat.lt_of_le_of_lt (low_le _ _).2 HH.out)).mono fun e w' ⟨v', E, h1, h2, h3⟩ => ⟨v', E, h1, low_low HM.out h2, h3⟩)
      have LO : Hid (∀ u va vb, ZV u va (x1 * (d2 : Int)) → ZV u vb ((d1 : Int) * x2) → Calls Tryz.prog 61 #[va, vb] u fun e w' => ∃ v', e = .returned v' ∧ QV w' v' (lowN (x1 * sg (sgn x2) d2) (d1 * x2.natAbs)) (lowD (x1 * sg (sgn x2) d2) (d1 * x2.natAbs)) ∧ Below u.heap.size u w') := Lib.hid (fun u va vb h1 h2 => quo_low va vb x1 x2 d1 d2 u h1 h2 HD.out.1 HX.out HH.out)
      clear hx r0 r1 r2 f0 f1 f2
      go_upto_region 6 with fail
      clear g0 g1 g2 g3 g4 g5 g6 g7
      go_region_held3 (fun w' => w'.cell? ⟨b, off, none⟩ = some (.bool mx) ∧ w'.cell? ⟨b, off + 1, none⟩ = some (.slice ax kx cx) ∧ w'.cell? ⟨b, off + 2, none⟩ = some (.bool nx) ∧ w'.cell? ⟨b, off + 3, none⟩ = some (.slice sx tx ux) ∧ w'.cell? ⟨b, off + 4, none⟩ = some (.bool my) ∧ w'.cell? ⟨b, off + 4 + 1, none⟩ = some (.slice ay ky cy) ∧ w'.cell? ⟨b, off + 4 + 2, none⟩ = some (.bool ny) ∧ w'.cell? ⟨b, off + 4 + 3, none⟩ = some (.slice sy ty uy) ∧ ZrN w1 w' (w.heap.size + 1 + 1) 27 3)
        (((try go_split_ands); refine STAY.out _ ?_; repeat (first | (with_reducible assumption) | (with_reducible refine ZrN.drew ?_) | (with_reducible refine ZrN.alloc ?_) | (with_reducible refine ZrN.setS ?_) | (with_reducible refine ZrN.setB ?_))))
        (first
        | (go_at_call 62; go_split_ands; first
          | ((with_reducible refine Calls.mono (T1.out _ (by with_reducible assumption)) ?_); rintro e wB ⟨mB, dB, lB, eB, rfl, jj1, hbB⟩; have hkB := ZrN.call hbB (by with_reducible assumption))
          | ((with_reducible refine Calls.mono (T2.out _ (by with_reducible assumption)) ?_); rintro e wD ⟨mD, dD, lD, eD, rfl, jj2, hbD⟩; have hkD := ZrN.call hbD (by with_reducible assumption)))
        | (go_at_call 61; go_split_ands; ((with_reducible refine Calls.mono (LO.out _ _ _ ?_ ?_) ?_); (repeat (first | (with_reducible assumption) | (with_reducible refine zv_drewz ?_) | (with_reducible refine zv_callzQ hbD ?_) | (with_reducible refine zv_callzQ hbB ?_))); rintro e wE ⟨vE, rfl, jj3, hbE⟩; have hkE := ZrN.call hbE (by with_reducible assumption)))
        | (go_at_call 41; go_split_ands; ((with_reducible refine Calls.mono (TT.out _ _ ?_) ?_); (repeat (first | (with_reducible assumption) | (with_reducible refine qv_drewz ?_))); rintro e wF ⟨vF, E, rfl, hto, hbF⟩; obtain ⟨m5, a5, k5, c5, a6, k6', c6, rfl⟩ := to_shape hto; have hkF := ZrN.call hbF (by with_reducible assumption); have HT := Lib.hid hto; obtain ⟨z0D, z1D, z2D, hRD⟩ := zrn_three hkF; obtain ⟨⟨r0D, r1D, r2D⟩, ⟨f0D, f1D, f2D⟩, lRD⟩ := blk3 hRD)))
      all_goals
        have ZF : Hid (ZrN w1 (((wF.setCell ⟨w.heap.size + 1 + 1, 0, none⟩ (.bool m5)).setCell ⟨w.heap.size + 1 + 1, 1, none⟩ (.slice a5 k5 c5)).setCell ⟨w.heap.size + 1 + 1, 2, none⟩ (.slice a6 k6' c6)) (w.heap.size + 1 + 1) 27 3) := Lib.hid (((hkF.setB).setS).setS)
        have JF := Lib.hid (quo_to HD.out.1 HD.out.2 HL.out.1 HL.out.2 HX.out (HT.out.farZ (y0 := .bool m5) (y1 := .slice a5 k5 c5) (y2 := .slice a6 k6' c6) hkF))
        go_wp2
        refine bodyPost_ret (v := .tuple #[.agg #[.bool m5, .slice a5 k5 c5, .slice a6 k6' c6], .int .i64 E]) ?_ rfl ⟨_, _, rfl, JF.out, ZF.out.zr.below B1.out hle⟩
        simp [results, Tryz.results23, go_sem, *]
end Go.Proofs.YthgmebnihpjnoaaGreatDoor
