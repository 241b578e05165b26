/- Package ratio: Floor, Ceil, Int, Of, Whole (written by genrx.py). -/
import Derived.Test.YthgmebnihpjnoaaGreatDoorRLN
set_option linter.unusedVariables false
set_option linter.unusedSimpArgs false
namespace Go.Proofs.YthgmebnihpjnoaaGreatDoor
open Go.RowKit Mth

def zInt : Value := .agg #[.bool false, .slice none 0 0]
def RndO (w' : World) (v' : Value) (E : Int) (x : Int) (d : Nat) (z : Int) : Prop :=
  (d = 0 ∧ E = 11 ∧ v' = zInt) ∨ (0 < d ∧ longQ (x, d) ∧ E = 5 ∧ v' = zInt) ∨ (0 < d ∧ ¬ longQ (x, d) ∧ E = 0 ∧ IntR w' v' z)
theorem rat_ints {w : World} {n : Bool} {a : Option Addr} {k c : Nat} {a' : Option Addr} {k' c' : Nat} {x : Int} {d : Nat} (h : RatV w (.agg #[.bool n, .slice a k c, .slice a' k' c']) x d) : IntV w (.agg #[.bool n, .slice a k c]) x ∧ IntV w (.agg #[.bool false, .slice a' k' c']) (d : Int) := by
  obtain ⟨m, b, j, e, b', j', e', xs, ys, ev, h1, h2, h3, h4, h5, h6, h7, h8⟩ := h
  simp only [Value.agg.injEq, Array.mk.injEq, List.cons.injEq, Value.bool.injEq, and_true] at ev
  obtain ⟨rfl, hs, hs'⟩ := ev
  rw [← hs] at h1
  rw [← hs'] at h5
  exact ⟨⟨_, _, xs, rfl, h1, h2, h3, h4⟩, ⟨_, _, ys, rfl, h5, h6, h7, by rw [h8]; rfl⟩⟩
theorem dz {d : Nat} (h : 0 < d) : (d : Int) ≠ 0 := by omega
set_option maxHeartbeats 4000000 in
set_option maxRecDepth 100000 in
theorem rfloor_any3 (v : Value) (x : Int) (d : Nat) (w : World) (h : RatV w v x d) : Calls Tryz.prog 28 #[v] w fun e w' => ∃ v' E, e = .returned (.tuple #[v', .int .i64 E]) ∧ RndO w' v' E x d (qF x d) ∧ Below w.heap.size w w' := by
  have H := Lib.hid h
  obtain ⟨n, a, k, c, a', k', c', rfl⟩ := rat_shape h
  clear h
  obtain ⟨W2, eW2, h1, h2, b2, hz2⟩ := alloc2 w (Obj.cells #[.bool n, .slice a k c, .slice a' k' c'] 27) (Obj.cells #[.bool false, .slice none 0 0] 25)
  have hs2 : W2.heap.size = w.heap.size + 1 + 1 := by rw [← eW2]; simp
  obtain ⟨W, eW, g1, bW, hzW⟩ := alloc1 W2 (Obj.cells #[.bool n, .slice a k c, .slice a' k' c'] 27)
  have HA := Lib.hid (blk_below' bW h1); have HR : Hid (W.heap[w.heap.size + 1]? = _) := Lib.hid (blk_below' bW h2)
  have BW := Lib.hid (below_of b2 bW)
  have CK := Lib.hid (check_any _ _ W (ral_one g1 (H.out.below BW.out)) (by simp))
  obtain ⟨⟨p0, p1, p2⟩, _, _⟩ := blk3 h1
  rw [hs2] at CK
  clear h1 h2 b2 g1 bW
  go_enter Tryz.func28, Tryz.ntmps28
  go_wp2_with fail
  refine CK.out.mono ?_
  rintro e w1 ⟨E, rfl, hE, b1⟩
  have A1 := Lib.hid (blk_below' b1 HA.out); have R1 := Lib.hid (blk_below' b1 HR.out); have B1 := Lib.hid (below_of BW.out b1)
  clear b1 p0 p1 p2 CK HA HR BW eW eW2 hzW hz2 hs2
  obtain ⟨⟨p0, p1, p2⟩, _, _⟩ := blk3 A1.out
  obtain ⟨r0, r1, f0, f1, _⟩ := blk2 R1.out
  have hle : w.heap.size ≤ w.heap.size + 1 := Nat.le_succ _
  unfold ChkO at hE
  rw [rzero_one, rlong_one] at hE
  rcases hE with ⟨hd, rfl⟩ | ⟨hd, hl, rfl⟩ | ⟨hd, hl, rfl⟩
  · have HD := Lib.hid hd
    clear hd p0 p1 p2
    go_wp2
    refine bodyPost_ret (v := .tuple #[.agg #[.bool false, .slice none 0 0], .int .i64 11]) ?_ rfl ⟨_, _, rfl, .inl ⟨HD.out, rfl, rfl⟩, (B1.out.setCell (p := ⟨w.heap.size + 1, 0, none⟩) hle _).setCell (p := ⟨w.heap.size + 1, 1, none⟩) hle _⟩
    simp [results, Tryz.results28, go_sem, *]
  · have HD : Hid (0 < d) := Lib.hid (Nat.pos_of_ne_zero hd)
    have HL : Hid (longQ (x, d)) := Lib.hid hl
    clear hd hl p0 p1 p2
    go_wp2
    refine bodyPost_ret (v := .tuple #[.agg #[.bool false, .slice none 0 0], .int .i64 5]) ?_ rfl ⟨_, _, rfl, .inr (.inl ⟨HD.out, HL.out, rfl, rfl⟩), (B1.out.setCell (p := ⟨w.heap.size + 1, 0, none⟩) hle _).setCell (p := ⟨w.heap.size + 1, 1, none⟩) hle _⟩
    simp [results, Tryz.results28, go_sem, *]
  · have HD : Hid (0 < d) := Lib.hid (Nat.pos_of_ne_zero hd)
    have HL : Hid (¬ longQ (x, d)) := Lib.hid hl
    have hxb : x.natAbs < Big := bigR_lt (by omega)
    have hdb : ((d : Nat) : Int).natAbs < Big := by rw [Int.natAbs_natCast]; exact bigR_lt (by omega)
    have FL := Lib.hid (floorF _ _ x (d : Int) w1 (rat_ints (H.out.below B1.out)).1 (rat_ints (H.out.below B1.out)).2 hxb hdb (dz HD.out))
    clear hd hl hxb hdb r0 r1 f0 f1
    go_wp2_with fail
    refine FL.out.mono ?_
    rintro e w2 ⟨n2, a2, k2, c2, rfl, hi, b2⟩
    have R2 := Lib.hid (blk_below' b2 R1.out); have B2 := Lib.hid (below_of B1.out b2)
    have HI := Lib.hid hi
    obtain ⟨r0, r1, f0, f1, _⟩ := blk2 R2.out
    clear hi b2 FL p0 p1 p2
    go_wp2
    refine bodyPost_ret (v := .tuple #[.agg #[.bool n2, .slice a2 k2 c2], .int .i64 0]) ?_ rfl ⟨_, _, rfl, .inr (.inr ⟨HD.out, HL.out, rfl, HI.out.far R2.out⟩), (B2.out.setCell (p := ⟨w.heap.size + 1, 0, none⟩) hle _).setCell (p := ⟨w.heap.size + 1, 1, none⟩) hle _⟩
    simp [results, Tryz.results28, go_sem, *]
set_option maxHeartbeats 4000000 in
set_option maxRecDepth 100000 in
theorem rceil_any3 (v : Value) (x : Int) (d : Nat) (w : World) (h : RatV w v x d) : Calls Tryz.prog 30 #[v] w fun e w' => ∃ v' E, e = .returned (.tuple #[v', .int .i64 E]) ∧ RndO w' v' E x d (qU x d) ∧ Below w.heap.size w w' := by
  have H := Lib.hid h
  obtain ⟨n, a, k, c, a', k', c', rfl⟩ := rat_shape h
  clear h
  obtain ⟨W2, eW2, h1, h2, b2, hz2⟩ := alloc2 w (Obj.cells #[.bool n, .slice a k c, .slice a' k' c'] 27) (Obj.cells #[.bool false, .slice none 0 0] 25)
  have hs2 : W2.heap.size = w.heap.size + 1 + 1 := by rw [← eW2]; simp
  obtain ⟨W, eW, g1, bW, hzW⟩ := alloc1 W2 (Obj.cells #[.bool n, .slice a k c, .slice a' k' c'] 27)
  have HA := Lib.hid (blk_below' bW h1); have HR : Hid (W.heap[w.heap.size + 1]? = _) := Lib.hid (blk_below' bW h2)
  have BW := Lib.hid (below_of b2 bW)
  have CK := Lib.hid (check_any _ _ W (ral_one g1 (H.out.below BW.out)) (by simp))
  obtain ⟨⟨p0, p1, p2⟩, _, _⟩ := blk3 h1
  rw [hs2] at CK
  clear h1 h2 b2 g1 bW
  go_enter Tryz.func30, Tryz.ntmps30
  go_wp2_with fail
  refine CK.out.mono ?_
  rintro e w1 ⟨E, rfl, hE, b1⟩
  have A1 := Lib.hid (blk_below' b1 HA.out); have R1 := Lib.hid (blk_below' b1 HR.out); have B1 := Lib.hid (below_of BW.out b1)
  clear b1 p0 p1 p2 CK HA HR BW eW eW2 hzW hz2 hs2
  obtain ⟨⟨p0, p1, p2⟩, _, _⟩ := blk3 A1.out
  obtain ⟨r0, r1, f0, f1, _⟩ := blk2 R1.out
  have hle : w.heap.size ≤ w.heap.size + 1 := Nat.le_succ _
  unfold ChkO at hE
  rw [rzero_one, rlong_one] at hE
  rcases hE with ⟨hd, rfl⟩ | ⟨hd, hl, rfl⟩ | ⟨hd, hl, rfl⟩
  · have HD := Lib.hid hd
    clear hd p0 p1 p2
    go_wp2
    refine bodyPost_ret (v := .tuple #[.agg #[.bool false, .slice none 0 0], .int .i64 11]) ?_ rfl ⟨_, _, rfl, .inl ⟨HD.out, rfl, rfl⟩, (B1.out.setCell (p := ⟨w.heap.size + 1, 0, none⟩) hle _).setCell (p := ⟨w.heap.size + 1, 1, none⟩) hle _⟩
    simp [results, Tryz.results30, go_sem, *]
  · have HD : Hid (0 < d) := Lib.hid (Nat.pos_of_ne_zero hd)
    have HL : Hid (longQ (x, d)) := Lib.hid hl
    clear hd hl p0 p1 p2
    go_wp2
    refine bodyPost_ret (v := .tuple #[.agg #[.bool false, .slice none 0 0], .int .i64 5]) ?_ rfl ⟨_, _, rfl, .inr (.inl ⟨HD.out, HL.out, rfl, rfl⟩), (B1.out.setCell (p := ⟨w.heap.size + 1, 0, none⟩) hle _).setCell (p := ⟨w.heap.size + 1, 1, none⟩) hle _⟩
    simp [results, Tryz.results30, go_sem, *]
  · have HD : Hid (0 < d) := Lib.hid (Nat.pos_of_ne_zero hd)
    have HL : Hid (¬ longQ (x, d)) := Lib.hid hl
    have hxb : x.natAbs < Big := bigR_lt (by omega)
    have hdb : ((d : Nat) : Int).natAbs < Big := by rw [Int.natAbs_natCast]; exact bigR_lt (by omega)
    have FL := Lib.hid (ceilF _ _ x (d : Int) w1 (rat_ints (H.out.below B1.out)).1 (rat_ints (H.out.below B1.out)).2 hxb hdb (dz HD.out))
    clear hd hl hxb hdb r0 r1 f0 f1
    go_wp2_with fail
    refine FL.out.mono ?_
    rintro e w2 ⟨n2, a2, k2, c2, rfl, hi, b2⟩
    have R2 := Lib.hid (blk_below' b2 R1.out); have B2 := Lib.hid (below_of B1.out b2)
    have HI := Lib.hid hi
    obtain ⟨r0, r1, f0, f1, _⟩ := blk2 R2.out
    clear hi b2 FL p0 p1 p2
    go_wp2
    refine bodyPost_ret (v := .tuple #[.agg #[.bool n2, .slice a2 k2 c2], .int .i64 0]) ?_ rfl ⟨_, _, rfl, .inr (.inr ⟨HD.out, HL.out, rfl, HI.out.far R2.out⟩), (B2.out.setCell (p := ⟨w.heap.size + 1, 0, none⟩) hle _).setCell (p := ⟨w.heap.size + 1, 1, none⟩) hle _⟩
    simp [results, Tryz.results30, go_sem, *]
/-- what Int says -/
def IntO (w' : World) (v' : Value) (b : Bool) (x : Int) (d : Nat) : Prop :=
  ((d = 0 ∨ longQ (x, d)) ∧ b = false ∧ v' = zInt) ∨ (0 < d ∧ ¬ longQ (x, d) ∧ lowD x d ≠ 1 ∧ b = false ∧ v' = zInt) ∨ (0 < d ∧ ¬ longQ (x, d) ∧ lowD x d = 1 ∧ b = true ∧ IntR w' v' (lowN x d))
set_option maxHeartbeats 4000000 in
set_option maxRecDepth 100000 in
theorem rint_any3 (v : Value) (x : Int) (d : Nat) (w : World) (h : RatV w v x d) : Calls Tryz.prog 31 #[v] w fun e w' => ∃ v' b, e = .returned (.tuple #[v', .bool b]) ∧ IntO w' v' b x d ∧ Below w.heap.size w w' := by
  have H := Lib.hid h
  obtain ⟨n, a, k, c, a', k', c', rfl⟩ := rat_shape h
  clear h
  obtain ⟨W2, eW2, h1, h2, b2, hz2⟩ := alloc2 w (Obj.cells #[.bool n, .slice a k c, .slice a' k' c'] 27) (Obj.cells #[.bool false, .slice none 0 0] 25)
  have hs2 : W2.heap.size = w.heap.size + 1 + 1 := by rw [← eW2]; simp
  obtain ⟨W, eW, g1, bW, hzW⟩ := alloc1 W2 (Obj.cells #[.bool n, .slice a k c, .slice a' k' c'] 27)
  have HA := Lib.hid (blk_below' bW h1); have HR : Hid (W.heap[w.heap.size + 1]? = _) := Lib.hid (blk_below' bW h2)
  have BW := Lib.hid (below_of b2 bW)
  have CK := Lib.hid (check_any _ _ W (ral_one g1 (H.out.below BW.out)) (by simp))
  obtain ⟨⟨p0, p1, p2⟩, _, _⟩ := blk3 h1
  rw [hs2] at CK
  clear h1 h2 b2 g1 bW
  go_enter Tryz.func31, Tryz.ntmps31
  go_wp2_with fail
  refine CK.out.mono ?_
  rintro e w1 ⟨E, rfl, hE, b1⟩
  have A1 := Lib.hid (blk_below' b1 HA.out); have R1 := Lib.hid (blk_below' b1 HR.out); have B1 := Lib.hid (below_of BW.out b1)
  clear b1 p0 p1 p2 CK HA HR BW eW eW2 hzW hz2 hs2
  obtain ⟨⟨p0, p1, p2⟩, _, _⟩ := blk3 A1.out
  obtain ⟨r0, r1, f0, f1, _⟩ := blk2 R1.out
  have hle : w.heap.size ≤ w.heap.size + 1 := Nat.le_succ _
  unfold ChkO at hE
  rw [rzero_one, rlong_one] at hE
  by_cases hbad : E = 0
  · have HD : Hid (0 < d ∧ ¬ longQ (x, d)) := Lib.hid (by
      rcases hE with ⟨hd, h⟩ | ⟨hd, hl, h⟩ | ⟨hd, hl, h⟩
      · omega
      · omega
      · exact ⟨Nat.pos_of_ne_zero hd, hl⟩)
    have HXB : Hid (x.natAbs < Big ∧ d < Big) := Lib.hid (by
      have hn := HD.out.2
      unfold longQ at hn
      exact ⟨bigR_lt (by omega), bigR_lt (by omega)⟩)
    have RD := Lib.hid (rread_any _ x d w1 (H.out.below B1.out))
    subst hbad
    clear hE r0 r1 f0 f1
    go_wp2_with fail
    refine RD.out.mono ?_
    rintro e w2 ⟨vf, rfl, hf, b2⟩
    have R2 := Lib.hid (blk_below' b2 R1.out); have B2 := Lib.hid (below_of B1.out b2)
    have LW := Lib.hid (lowest_any vf x d w2 hf HXB.out.1 HXB.out.2 HD.out.1)
    clear hf b2 p0 p1 p2 RD
    go_wp2_with fail
    refine LW.out.mono ?_
    rintro e w3 ⟨vl, rfl, hf, b3⟩
    have R3 := Lib.hid (blk_below' b3 R2.out); have B3 := Lib.hid (below_of B2.out b3)
    have HLE := Lib.hid (low_le x d)
    have HLB : Hid ((lowN x d).natAbs < Big ∧ lowD x d < Big) := Lib.hid ⟨Nat.lt_of_le_of_lt HLE.out.1 HXB.out.1, Nat.lt_of_le_of_lt HLE.out.2 HXB.out.2⟩
    have HIO : Hid (∀ w' v' b, ((lowD x d ≠ 1 ∧ b = false ∧ v' = zInt) ∨ (lowD x d = 1 ∧ b = true ∧ IntR w' v' (lowN x d))) → IntO w' v' b x d) := Lib.hid (fun w' v' b h => by
      rcases h with h | h
      · exact .inr (.inl ⟨HD.out.1, HD.out.2, h⟩)
      · exact .inr (.inr ⟨HD.out.1, HD.out.2, h⟩))
    have F3 := Lib.hid hf.fr
    obtain ⟨a1, k1, c1, a2, k2, c2, rfl, -, -⟩ := hf
    have I3 := Lib.hid (FrV.two F3.out HLB.out.1 HLB.out.2).2.1
    have N3 : Hid (Num w3 (.slice a2 k2 c2) (lowD x d)) := Lib.hid (by
      obtain ⟨a, k, c, a', k', c', e, _, h2⟩ := F3.out
      simp only [Value.agg.injEq, Array.mk.injEq, List.cons.injEq, and_true] at e
      obtain ⟨-, -, e⟩ := e
      rw [e]; exact h2)
    obtain ⟨V, eV, gV, bV, hzV⟩ := alloc1 w3 (Obj.cells #[.bool (sgn (lowN x d)), .slice a1 k1 c1, .slice a2 k2 c2] 84)
    have BV := Lib.hid (below_of B3.out bV); have RV := Lib.hid (blk_below' bV R3.out)
    have IV := Lib.hid (I3.out.below bV)
    have IO := Lib.hid (isOne_is _ _ V (N3.out.below' bV))
    obtain ⟨⟨p0, p1, p2⟩, _, _⟩ := blk3 gV
    obtain ⟨r0, r1, f0, f1, _⟩ := blk2 RV.out
    generalize lowN x d = X at *
    generalize lowD x d = D at *
    clear b3 LW bV gV hzV
    go_wp2_with fail
    try rw [eV]
    clear eV
    refine IO.out.mono ?_
    rintro e w4 ⟨rfl, rfl⟩
    by_cases h1 : D = 1
    · have HQ := Lib.hid h1
      rw [decide_eq_true h1]
      clear h1
      go_wp2
      refine bodyPost_ret (v := .tuple #[.agg #[.bool (sgn X), .slice a1 k1 c1], .bool true]) ?_ rfl ⟨_, _, rfl, HIO.out _ _ _ (.inr ⟨HQ.out, rfl, IV.out.far RV.out⟩), (BV.out.setCell (p := ⟨w.heap.size + 1, 0, none⟩) hle _).setCell (p := ⟨w.heap.size + 1, 1, none⟩) hle _⟩
      simp [results, Tryz.results31, go_sem, *]
    · have HQ := Lib.hid h1
      rw [decide_eq_false h1]
      clear h1
      go_wp2
      refine bodyPost_ret (v := .tuple #[.agg #[.bool false, .slice none 0 0], .bool false]) ?_ rfl ⟨_, _, rfl, HIO.out _ _ _ (.inl ⟨HQ.out, rfl, rfl⟩), (BV.out.setCell (p := ⟨w.heap.size + 1, 0, none⟩) hle _).setCell (p := ⟨w.heap.size + 1, 1, none⟩) hle _⟩
      simp [results, Tryz.results31, go_sem, *]
  · have HD : Hid (d = 0 ∨ longQ (x, d)) := Lib.hid (by
      rcases hE with ⟨hd, h⟩ | ⟨hd, hl, h⟩ | ⟨hd, hl, h⟩
      · exact .inl hd
      · exact .inr hl
      · exact absurd h hbad)
    have eb : (E != 0) = true := bne_iff_ne.2 hbad
    clear hE hbad p0 p1 p2
    go_wp2
    refine bodyPost_ret (v := .tuple #[.agg #[.bool false, .slice none 0 0], .bool false]) ?_ rfl ⟨_, _, rfl, .inl ⟨HD.out, rfl, rfl⟩, (B1.out.setCell (p := ⟨w.heap.size + 1, 0, none⟩) hle _).setCell (p := ⟨w.heap.size + 1, 1, none⟩) hle _⟩
    simp [results, Tryz.results31, go_sem, *]
end Go.Proofs.YthgmebnihpjnoaaGreatDoor
