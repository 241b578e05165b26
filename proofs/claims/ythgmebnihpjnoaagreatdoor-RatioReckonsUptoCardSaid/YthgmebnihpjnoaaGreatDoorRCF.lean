/- tribunalref03: Neg, Cmp, Sub, Quo (written by genrcf.py). -/
import Derived.Test.YthgmebnihpjnoaaGreatDoorRLG
import Derived.Test.YthgmebnihpjnoaaGreatDoorRMA
import Derived.Test.YthgmebnihpjnoaaGreatDoorRCQ
import Derived.Test.YthgmebnihpjnoaaGreatDoorRNQ
set_option linter.unusedVariables false
set_option linter.unusedSimpArgs false
namespace Go.Proofs.YthgmebnihpjnoaaGreatDoor
open Go.RowKit Mth

/-- what To answers -/
def QToO (w' : World) (v' : Value) (E : Int) (x : Int) (d : Nat) : Prop :=
  (longQ (lowN x d, lowD x d) ∧ E = 5 ∧ v' = zRat) ∨ (¬ longQ (lowN x d, lowD x d) ∧ E = 0 ∧ FrV w' v' (lowN x d) (lowD x d))
theorem to_shape {w : World} {v : Value} {E x : Int} {d : Nat} (h : QToO w v E x d) : ∃ n a k c a' k' c', v = .agg #[.bool n, .slice a k c, .slice a' k' c'] := by
  rcases h with ⟨_, _, e⟩ | ⟨_, _, hf⟩
  · exact ⟨_, _, _, _, _, _, _, e⟩
  · exact frv_shape hf
theorem rto_any (v : Value) (x : Int) (d : Nat) (w : World) (h : QV w v x d) (h0 : 0 < d) (hd : d < HugeD) : Calls Tryz.prog 41 #[v] w fun e w' => ∃ v' E, e = .returned (.tuple #[v', .int .i64 E]) ∧ QToO w' v' E x d ∧ Below w.heap.size w w' := by
  by_cases hl : BigR ≤ (lowN x d).natAbs ∨ BigR ≤ lowD x d
  · exact (rto_big v x d w h h0 hd hl).mono fun e w' ⟨h1, h2⟩ => ⟨_, _, h1, .inl ⟨hl, rfl, rfl⟩, h2⟩
  · exact (rto_fine v x d w h h0 hd (by omega) (by omega)).mono fun e w' ⟨v', h1, h2, h3⟩ => ⟨v', _, h1, .inr ⟨hl, rfl, h2⟩, h3⟩
theorem QToO.far3 {w : World} {v y0 y1 y2 : Value} {E x : Int} {d R : Nat} {T : TypeId} {b : Bool} {ao ao' : Option Addr} {k c k' c' : Nat} (h : QToO w v E x d) (hR : w.heap[R]? = some (.cells #[.bool b, .slice ao k c, .slice ao' k' c'] T (0, 0))) : QToO (((w.setCell ⟨R, 0, none⟩ y0).setCell ⟨R, 1, none⟩ y1).setCell ⟨R, 2, none⟩ y2) v E x d := by
  rcases h with h | ⟨h1, h2, h3⟩
  · exact .inl h
  · exact .inr ⟨h1, h2, h3.far3 hR⟩
theorem QToO.farZ {w W : World} {v y0 y1 y2 : Value} {E x : Int} {d R k0 : Nat} {T : TypeId} (h : QToO w v E x d) (hz : ZrN W w R T k0) : QToO (((w.setCell ⟨R, 0, none⟩ y0).setCell ⟨R, 1, none⟩ y1).setCell ⟨R, 2, none⟩ y2) v E x d := by
  rcases h with h | ⟨h1, h2, a, k1, c1, a', k2, c2, e, n1, n2⟩
  · exact .inl h
  · exact .inr ⟨h1, h2, a, k1, c1, a', k2, c2, e, n1.farZ hz, n2.farZ hz⟩
theorem qv_drewz {w : World} {v : Value} {x : Int} {d : Nat} (h : QV w v x d) : QV w.drew v x d := h.below ((Below.refl _ _).drew)
theorem qv_zrn {W w1 : World} {v : Value} {x : Int} {d R k0 : Nat} {T : TypeId} {cs : Array Value} (h : QV W v x d) (hR : W.heap[R]? = some (.cells cs T (0, 0))) (hn : NoInt cs) (hz : ZrN W w1 R T k0) : QV w1 v x d := by
  obtain ⟨m, a, k, c, m', a', k', c', e, h1, h2⟩ := h
  exact ⟨m, a, k, c, m', a', k', c', e, h1.zrnN hR hn hz, h2.zrnN hR hn hz⟩
theorem not_res {w : World} {b off R : Nat} {m n : Bool} {T : TypeId} (hR : w.heap[R]? = some (.cells #[.bool false, .slice none 0 0, .slice none 0 0] T (0, 0))) (h0 : w.cell? ⟨b, off, none⟩ = some (.bool m)) (h2 : w.cell? ⟨b, off + 2, none⟩ = some (.bool n)) : b ≠ R := by
  rintro rfl
  rw [cell_of_row w b _ _ _ (0, 0) hR] at h0 h2
  have hlt : off + 2 < 3 := (Array.getElem?_eq_some_iff.1 h2).1
  obtain rfl : off = 0 := by omega
  simp at h2
theorem low_low {x : Int} {d : Nat} (h : 0 < d) {w : World} {v : Value} {E : Int} (k : QToO w v E (lowN x d) (lowD x d)) : QToO w v E x d := by
  unfold QToO at k ⊢
  rw [(low_again h).1, (low_again h).2] at k
  exact k
theorem neg_ans {w : World} {v : Value} {E x : Int} {d : Nat} (h0 : 0 < d) (hl : ¬ longQ (x, d)) (h : QToO w v E x d) : AnsV w v E x d := by
  rcases h with ⟨h1, _⟩ | ⟨_, h2, h3⟩
  · exact absurd h1 (low_short hl)
  · exact .inr (.inr ⟨h0, hl, h2, h3⟩)
theorem longQ_neg {x : Int} {d : Nat} : longQ (-x, d) ↔ longQ (x, d) := by
  unfold longQ
  show (BigR ≤ (-x).natAbs ∨ BigR ≤ d) ↔ (BigR ≤ x.natAbs ∨ BigR ≤ d)
  rw [Int.natAbs_neg]
set_option maxHeartbeats 8000000 in
set_option maxRecDepth 100000 in
theorem rneg3_any (v : Value) (x : Int) (d : Nat) (w : World) (h : RatV w v x d) : Calls Tryz.prog 25 #[v] w fun e w' => ∃ v' E, e = .returned (.tuple #[v', .int .i64 E]) ∧ AnsV w' v' E (-x) d ∧ Below w.heap.size w w' := by
  have H := Lib.hid h
  obtain ⟨n, a, k, c, a', k', c', xs, ys, rfl, -⟩ := h
  obtain ⟨W, eW, h1, h2, bW, hsW⟩ := alloc2 w (Obj.cells #[.bool n, .slice a k c, .slice a' k' c'] 27) (Obj.cells #[.bool false, .slice none 0 0, .slice none 0 0] 27)
  have BW := Lib.hid bW; have HR : Hid (W.heap[w.heap.size + 1]? = _) := Lib.hid h2
  have RF := Lib.hid (rfromq_any _ x d W (H.out.below bW))
  obtain ⟨⟨p0, p1, p2⟩, _, _⟩ := blk3 h1
  have hle : w.heap.size ≤ w.heap.size + 1 := Nat.le_succ _
  clear h1 h2 bW hsW
  go_enter Tryz.func25, Tryz.ntmps25
  go_wp2_with fail
  try rw [eW]
  clear eW
  refine RF.out.mono ?_
  rintro e w1 ⟨v1, rfl, hq, ⟨n1, a1, k1, c1, n2, a2, k2, c2, rfl⟩, b1⟩
  have B1 := Lib.hid (below_of BW.out b1); have R1 := Lib.hid (blk_below' b1 HR.out)
  clear RF BW b1 p0 p1 p2 HR
  obtain ⟨⟨r0, r1, r2⟩, ⟨f0, f1, f2⟩, _⟩ := blk3 R1.out
  have SB : Hid (∀ o : Obj, Below w.heap.size w ((((w1.setCell ⟨w.heap.size + 1, 0, none⟩ (.bool false)).setCell ⟨w.heap.size + 1, 1, none⟩ (.slice none 0 0)).setCell ⟨w.heap.size + 1, 2, none⟩ (.slice none 0 0)).alloc o)) := Lib.hid (fun o => by
    have hS := ((B1.out.setCell (p := ⟨w.heap.size + 1, 0, none⟩) hle (.bool false)).setCell (p := ⟨w.heap.size + 1, 1, none⟩) hle (.slice none 0 0)).setCell (p := ⟨w.heap.size + 1, 2, none⟩) hle (.slice none 0 0)
    exact hS.alloc hS.size _)
  by_cases h0 : d = 0
  · have HW : Hid (d = 0) := Lib.hid h0
    rw [fq_zero h0]
    clear hq h0
    go_wp2
    refine bodyPost_ret (v := .tuple #[.agg #[.bool false, .slice none 0 0, .slice none 0 0], .int .i64 11]) ?_ rfl ⟨_, _, rfl, .inl ⟨HW.out, rfl, rfl⟩, SB.out _⟩
    simp [results, Tryz.results25, go_sem, *]
  by_cases hb : BigR ≤ x.natAbs ∨ BigR ≤ d
  · have HW : Hid (0 < d ∧ longQ (-x, d)) := Lib.hid ⟨Nat.pos_of_ne_zero h0, longQ_neg.2 hb⟩
    rw [fq_big h0 hb]
    clear hq h0 hb
    go_wp2
    refine bodyPost_ret (v := .tuple #[.agg #[.bool false, .slice none 0 0, .slice none 0 0], .int .i64 5]) ?_ rfl ⟨_, _, rfl, .inr (.inl ⟨HW.out.1, HW.out.2, rfl, rfl⟩), SB.out _⟩
    simp [results, Tryz.results25, go_sem, *]
  · have HD : Hid (0 < d ∧ ¬ longQ (x, d)) := Lib.hid ⟨Nat.pos_of_ne_zero h0, hb⟩
    rw [fq_fine h0 hb]
    obtain ⟨zN, zD⟩ := (hq (fq_fine h0 hb)).parts
    obtain ⟨U, eU, hU, bU, hsU⟩ := alloc1q w1 (Obj.cells #[.bool n1, .slice a1 k1 c1, .bool n2, .slice a2 k2 c2] 71)
    have BU := Lib.hid (below_of B1.out bU); have RU := Lib.hid (blk_below' bU R1.out)
    have MN : Hid (∀ u, Below U.heap.size U u → Calls Tryz.prog 58 #[.agg #[.bool n1, .slice a1 k1 c1]] u fun e w' => ResZ u w' e (-x)) := Lib.hid (fun u hu => (minus_any2 _ _ u ((zN.below bU).below hu)).mono (by rintro e w' ⟨v', rfl, hv, hb⟩; obtain ⟨n, a, k, c, rfl⟩ := hv.shape; exact ⟨_, _, _, _, rfl, hv, hb⟩))
    have ZDU : Hid (∀ u, Below U.heap.size U u → ZV u (.agg #[.bool n2, .slice a2 k2 c2]) (d : Int)) := Lib.hid (fun u hu => (zD.below bU).below hu)
    have HH : Hid (d < HugeD) := Lib.hid (bigR_huge (not_longQ.1 HD.out.2).2)
    obtain ⟨⟨p0, p1, p2, p3⟩, _, lp⟩ := blk4q hU
    have HUB := Lib.hid hU
    clear hq zN zD h0 hb hU bU hsU r0 r1 r2 f0 f1 f2 SB
    go_wp2_with fail
    try rw [eU]
    try clear eU
    go_region_with (first
      | (go_at_call 58; refine Calls.mono (MN.out _ (by first | exact Below.refl _ _ | exact (Below.refl _ _).drew | exact (Below.refl _ _).drew.drew)) ?_; rintro e wB ⟨mB, dB, lB, eB, rfl, jj1, hbB⟩; have hkB : Below U.heap.size U wB := below_of (w := U) (by first | exact Below.refl _ _ | exact (Below.refl _ _).drew | exact (Below.refl _ _).drew.drew) hbB; have u0 := cell_to hkB p0 lp; have u1 := cell_to hkB p1 lp; have u2 := cell_to hkB p2 lp; have u3 := cell_to hkB p3 lp)
      | (go_at_call 41; refine Calls.mono (rto_any _ (-x) d _ ⟨_, _, _, _, _, _, _, _, rfl, (by first | exact jj1 | exact zv_drewz jj1), (ZDU.out _ (by first | exact hkB | exact hkB.drew))⟩ HD.out.1 HH.out) ?_; rintro e wC ⟨vC, E, rfl, hto, hbC⟩; obtain ⟨m5, a5, k5, c5, a6, k6, c6, rfl⟩ := to_shape hto; have hkC : Below U.heap.size U wC := below_of (w := U) (by first | exact hkB | exact hkB.drew) hbC; have HT := Lib.hid hto; have R5 := Lib.hid (blk_below' hkC RU.out); obtain ⟨⟨r0, r1, r2⟩, ⟨f0, f1, f2⟩, _⟩ := blk3 R5.out))
    all_goals
      have BC := Lib.hid (below_of BU.out hkC)
      have JF := Lib.hid (neg_ans HD.out.1 (fun h => HD.out.2 (longQ_neg.1 h)) (HT.out.far3 (y0 := .bool m5) (y1 := .slice a5 k5 c5) (y2 := .slice a6 k6 c6) R5.out))
      go_wp2
      refine bodyPost_ret (v := .tuple #[.agg #[.bool m5, .slice a5 k5 c5, .slice a6 k6 c6], .int .i64 E]) ?_ rfl ⟨_, _, rfl, JF.out, ((BC.out.setCell (p := ⟨w.heap.size + 1, 0, none⟩) hle _).setCell (p := ⟨w.heap.size + 1, 1, none⟩) hle _).setCell (p := ⟨w.heap.size + 1, 2, none⟩) hle _⟩
      simp [results, Tryz.results25, go_sem, *]
set_option maxHeartbeats 8000000 in
set_option maxRecDepth 100000 in
theorem rcmp3_any (va vb : Value) (x1 x2 : Int) (d1 d2 : Nat) (w : World) (ha : RatV w va x1 d1) (hb : RatV w vb x2 d2) : Calls Tryz.prog 19 #[va, vb] w fun e w' => ∃ z E : Int, e = .returned (.tuple #[.int .i64 z, .int .i64 E]) ∧ CmpO x1 d1 x2 d2 z E ∧ Below w.heap.size w w' := by
  have H1 := Lib.hid ha; have H2 := Lib.hid hb
  obtain ⟨m1, a1, k1, c1, s1, t1, u1, xs1, ys1, rfl, -⟩ := ha
  obtain ⟨m2, a2, k2, c2, s2, t2, u2, xs2, ys2, rfl, -⟩ := hb
  obtain ⟨W2, eW2, h1, h2, b2, hz2⟩ := alloc2 w (Obj.cells #[.bool m1, .slice a1 k1 c1, .slice s1 t1 u1] 27) (Obj.cells #[.bool m2, .slice a2 k2 c2, .slice s2 t2 u2] 27)
  have hs2 : W2.heap.size = w.heap.size + 1 + 1 := by rw [← eW2]; simp
  obtain ⟨W, eW, g1, bW, hzW⟩ := alloc1 W2 (Obj.cells #[.bool m1, .slice a1 k1 c1, .slice s1 t1 u1, .bool m2, .slice a2 k2 c2, .slice s2 t2 u2] 27)
  skip
  have BW := Lib.hid (below_of b2 bW)
  have CA := Lib.hid (rall_any _ _ W (ral_two g1 (H1.out.below BW.out) (H2.out.below BW.out)) (by simp))
  obtain ⟨⟨p0, p1, p2⟩, _, _⟩ := blk3 h1
  obtain ⟨⟨q0, q1, q2⟩, _, _⟩ := blk3 h2
  rw [hs2] at CA
  skip
  clear h1 h2 b2 g1 bW
  go_enter Tryz.func19, Tryz.ntmps19
  go_wp2_with fail
  refine CA.out.mono ?_
  rintro e w1 ⟨v1, E, rfl, hE, ⟨qa, qk, qc, rfl⟩, b1⟩
  have B1 := Lib.hid (below_of BW.out b1)
  clear b1 p0 p1 p2 q0 q1 q2 CA BW eW eW2 hzW hz2 hs2
  unfold AllO at hE
  rw [rzero_two, rlong_two] at hE
  skip
  rcases hE with ⟨hd, rfl⟩ | ⟨hd, hl, rfl⟩ | ⟨hd, hl, rfl, cs, hq, hcl, hqv⟩
  · have HD := Lib.hid hd
    clear hd
    go_wp2
    go_ret2
    exact ⟨_, _, rfl, .inl ⟨HD.out, rfl, rfl⟩, B1.out⟩
  · have HD : Hid (0 < d1 ∧ 0 < d2) := Lib.hid (by omega)
    have HL := Lib.hid hl
    clear hd hl
    go_wp2
    go_ret2
    exact ⟨_, _, rfl, .inr (.inl ⟨HD.out.1, HD.out.2, HL.out, rfl, rfl⟩), B1.out⟩
  · have HD : Hid (0 < d1 ∧ 0 < d2) := Lib.hid (by omega)
    have HL : Hid (¬ longQ (x1, d1) ∧ ¬ longQ (x2, d2)) := Lib.hid ⟨fun h => hl (.inl h), fun h => hl (.inr h)⟩
    clear hd hl
    match cs, hcl with
    | [x, y], _ =>
    have QA := Lib.hid (hqv 0 x _ rfl rfl); have QB := Lib.hid (hqv 1 y _ rfl rfl)
    obtain ⟨ao', cap', he, hc⟩ := hq
    obtain ⟨b, off, hb, hblt, hcc⟩ := hc (by simp)
    simp only [Value.slice.injEq] at he
    obtain ⟨rfl, rfl, rfl⟩ := he
    subst hb
    obtain ⟨g0, g1, g2, g3⟩ := QcL.at hcc (i := 0) rfl
    obtain ⟨g4, g5, g6, g7⟩ := QcL.at hcc (i := 1) rfl
    obtain ⟨mx, ax, kx, cx, nx, sx, tx, ux⟩ := x
    obtain ⟨my, ay, ky, cy, ny, sy, ty, uy⟩ := y
    simp only [Nat.zero_mul, Nat.add_zero, Nat.one_mul] at g0 g1 g2 g3 g4 g5 g6 g7
    have hlen2 : ([(⟨mx, ax, kx, cx, nx, sx, tx, ux⟩ : QC), ⟨my, ay, ky, cy, ny, sy, ty, uy⟩] : List QC).length = 2 := rfl
    have CQ : Hid (∀ u, Below w1.heap.size w1 u → Calls Tryz.prog 55 #[.agg #[.bool mx, .slice ax kx cx, .bool nx, .slice sx tx ux], .agg #[.bool my, .slice ay ky cy, .bool ny, .slice sy ty uy]] u fun e w' => e = .returned (.int .i64 (zcmp (x1 * d2) (x2 * d1))) ∧ Below u.heap.size u w') := Lib.hid (fun u hu => by
      obtain ⟨b1, b2⟩ := not_longQ.1 HL.out.1
      obtain ⟨b3, b4⟩ := not_longQ.1 HL.out.2
      exact rcmpq_any _ _ x1 x2 d1 d2 u (QA.out.below hu) (QB.out.below hu) b1 b2 b3 b4)
    clear hc hcc hqv QA QB
    go_wp2_with fail
    go_region_with (go_at_call 55; refine Calls.mono (CQ.out _ (by first | exact Below.refl _ _ | exact (Below.refl _ _).drew | exact (Below.refl _ _).drew.drew)) ?_; rintro e w5 ⟨rfl, hb5⟩; have B5 : Hid (Below w1.heap.size w1 w5) := Lib.hid (below_of (w := w1) (by first | exact Below.refl _ _ | exact (Below.refl _ _).drew | exact (Below.refl _ _).drew.drew) hb5); clear hb5)
    all_goals
      go_wp2
      go_ret2
      exact ⟨_, _, rfl, .inr (.inr ⟨HD.out.1, HD.out.2, HL.out.1, HL.out.2, rfl, rfl⟩), below_of B1.out B5.out⟩
end Go.Proofs.YthgmebnihpjnoaaGreatDoor
