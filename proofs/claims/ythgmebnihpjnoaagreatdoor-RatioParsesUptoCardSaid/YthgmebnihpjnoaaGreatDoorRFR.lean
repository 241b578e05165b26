/- tribunalref03: Rounded, Int (written by genrfr.py). -/
import Derived.Test.YthgmebnihpjnoaaGreatDoorRFP
import Derived.Test.YthgmebnihpjnoaaGreatDoorRLQ
import Derived.Test.YthgmebnihpjnoaaGreatDoorYV
set_option linter.unusedVariables false
set_option linter.unusedSimpArgs false
namespace Go.Proofs.YthgmebnihpjnoaaGreatDoor
open Go.RowKit Mth

theorem rUF_le {x : Int} {d : Nat} (up : Bool) (h : 0 < d) : (rUF up x d).natAbs ≤ x.natAbs := by
  cases up
  · rw [rUF_f]; exact (round_le h).1
  · rw [rUF_t]; exact (round_le h).2
set_option maxHeartbeats 8000000 in
set_option maxRecDepth 100000 in
theorem rround3_any (v : Value) (x : Int) (d : Nat) (up : Bool) (w : World) (h : RatV w v x d) : Calls Tryz.prog 29 #[v, .bool up] w fun e w' => ∃ v' E, e = .returned (.tuple #[v', .int .i64 E]) ∧ RndO w' v' E x d (rUF up x d) ∧ Below w.heap.size w w' := by
  have H := Lib.hid h
  obtain ⟨n, a, k, c, a', k', c', xs, ys, rfl, -⟩ := h
  obtain ⟨W, eW, h1, h2, bW, hsW⟩ := alloc2 w (Obj.cells #[.bool n, .slice a k c, .slice a' k' c'] 27) (Obj.cells #[.bool false, .slice none 0 0] 25)
  have BW := Lib.hid bW; have HR : Hid (W.heap[w.heap.size + 1]? = _) := Lib.hid h2
  have RF := Lib.hid (rfromq_any _ x d W (H.out.below bW))
  obtain ⟨⟨p0, p1, p2⟩, _, _⟩ := blk3 h1
  have hle : w.heap.size ≤ w.heap.size + 1 := Nat.le_succ _
  clear h1 h2 bW hsW
  go_enter Tryz.func29, Tryz.ntmps29
  go_wp2_with fail
  try rw [eW]
  clear eW
  refine RF.out.mono ?_
  rintro e w1 ⟨v1, rfl, hq, ⟨m1, a1, k1, c1, m2, a2, k2, c2, rfl⟩, b1⟩
  have B1 := Lib.hid (below_of BW.out b1); have R1 := Lib.hid (blk_below' b1 HR.out)
  clear RF BW b1 p0 p1 p2 HR
  obtain ⟨r0, r1, f0, f1, _⟩ := blk2 R1.out
  by_cases h0 : d = 0
  · have HW : Hid (RndO w (.agg #[.bool false, .slice none 0 0]) 11 x d (rUF up x d)) := Lib.hid (.inl ⟨h0, rfl, rfl⟩)
    rw [show fqE x d = 11 from if_pos h0]
    clear hq h0
    go_wp2
    refine bodyPost_ret (v := .tuple #[.agg #[.bool false, .slice none 0 0], .int .i64 11]) ?_ rfl ⟨_, _, rfl, by rcases HW.out with ⟨a, b, c⟩ | ⟨_, _, a, _⟩ | ⟨_, _, a, _⟩ <;> first | exact .inl ⟨a, b, c⟩ | omega, (by have hS := (B1.out.setCell (p := ⟨w.heap.size + 1, 0, none⟩) hle (.bool false)).setCell (p := ⟨w.heap.size + 1, 1, none⟩) hle (.slice none 0 0); first | exact hS | exact hS.alloc hS.size _)⟩
    simp [results, Tryz.results29, go_sem, *]
  by_cases hb : BigR ≤ x.natAbs ∨ BigR ≤ d
  · have HW : Hid (0 < d ∧ longQ (x, d)) := Lib.hid ⟨Nat.pos_of_ne_zero h0, hb⟩
    rw [show fqE x d = 5 from (if_neg h0).trans (if_pos hb)]
    clear hq h0 hb
    go_wp2
    refine bodyPost_ret (v := .tuple #[.agg #[.bool false, .slice none 0 0], .int .i64 5]) ?_ rfl ⟨_, _, rfl, .inr (.inl ⟨HW.out.1, HW.out.2, rfl, rfl⟩), (by have hS := (B1.out.setCell (p := ⟨w.heap.size + 1, 0, none⟩) hle (.bool false)).setCell (p := ⟨w.heap.size + 1, 1, none⟩) hle (.slice none 0 0); first | exact hS | exact hS.alloc hS.size _)⟩
    simp [results, Tryz.results29, go_sem, *]
  · have HD : Hid (0 < d ∧ ¬ longQ (x, d)) := Lib.hid ⟨Nat.pos_of_ne_zero h0, hb⟩
    rw [show fqE x d = 0 from (if_neg h0).trans (if_neg hb)]
    have hq' := hq ((if_neg h0).trans (if_neg hb))
    obtain ⟨zN, zD⟩ := hq'.parts
    have hdB : d < Big := bigR_lt (by omega)
    have hxB : x.natAbs < Big := bigR_lt (by omega)
    have hdH : d < HugeD := Nat.lt_of_lt_of_le hdB (Nat.le_trans big_huge huge_d)
    have hxH : x.natAbs < HugeD := Nat.lt_of_lt_of_le hxB (Nat.le_trans big_huge huge_d)
    obtain ⟨U, eU, hU, bU, hsU⟩ := alloc1q w1 (Obj.cells #[.bool m1, .slice a1 k1 c1, .bool m2, .slice a2 k2 c2] 71)
    have BU := Lib.hid (below_of B1.out bU); have RU := Lib.hid (blk_below' bU R1.out)
    obtain ⟨⟨p0, p1, p2, p3⟩, _, _⟩ := blk4q hU
    clear r0 r1 f0 f1
    have RR := Lib.hid (rounded_any _ _ x (d : Int) up U (zN.below bU) (zD.below bU) hxH (by rw [Int.natAbs_natCast]; exact hdH) (dz HD.out.1))
    have HZ : Hid ((rUF up x d).natAbs < Big) := Lib.hid (Nat.lt_of_le_of_lt (rUF_le up HD.out.1) hxB)
    clear hq hq' zN zD hdB hxB hdH hxH h0 hb hU bU hsU B1 R1
    go_wp2_with fail
    try rw [eU]
    clear eU
    refine RR.out.mono ?_
    rintro e w3 ⟨v3, rfl, z3, b3⟩
    have B3 := Lib.hid (below_of BU.out b3); have R3 := Lib.hid (blk_below' b3 RU.out)
    have TT := Lib.hid (to_any2 v3 (rUF up x d) w3 z3)
    clear p0 p1 p2 p3 RR b3 z3 BU RU
    go_wp2_with fail
    refine TT.out.mono ?_
    rintro e w4 ⟨v4, rfl, i4, b4⟩
    obtain ⟨n4, a4, k4, c4, rfl⟩ := i4.shape
    have B4 := Lib.hid (below_of B3.out b4); have R4 := Lib.hid (blk_below' b4 R3.out)
    have I4 := Lib.hid (i4.r HZ.out)
    clear TT i4 b4 B3 R3
    obtain ⟨r0, r1, f0, f1, _⟩ := blk2 R4.out
    go_wp2
    refine bodyPost_ret (v := .tuple #[.agg #[.bool n4, .slice a4 k4 c4], .int .i64 0]) ?_ rfl ⟨_, _, rfl, .inr (.inr ⟨HD.out.1, HD.out.2, rfl, I4.out.far R4.out⟩), (B4.out.setCell (p := ⟨w.heap.size + 1, 0, none⟩) hle _).setCell (p := ⟨w.heap.size + 1, 1, none⟩) hle _⟩
    simp [results, Tryz.results29, go_sem, *]
set_option maxHeartbeats 8000000 in
set_option maxRecDepth 100000 in
theorem rint3_any (v : Value) (x : Int) (d : Nat) (w : World) (h : RatV w v x d) : Calls Tryz.prog 32 #[v] w fun e w' => ∃ v' b, e = .returned (.tuple #[v', .bool b]) ∧ IntO w' v' b x d ∧ Below w.heap.size w w' := by
  have H := Lib.hid h
  obtain ⟨n, a, k, c, a', k', c', xs, ys, rfl, -⟩ := h
  obtain ⟨W, eW, h1, h2, bW, hsW⟩ := alloc2 w (Obj.cells #[.bool n, .slice a k c, .slice a' k' c'] 27) (Obj.cells #[.bool false, .slice none 0 0] 25)
  have BW := Lib.hid bW; have HR : Hid (W.heap[w.heap.size + 1]? = _) := Lib.hid h2
  have RF := Lib.hid (rfromq_any _ x d W (H.out.below bW))
  obtain ⟨⟨p0, p1, p2⟩, _, _⟩ := blk3 h1
  have hle : w.heap.size ≤ w.heap.size + 1 := Nat.le_succ _
  clear h1 h2 bW hsW
  go_enter Tryz.func32, Tryz.ntmps32
  go_wp2_with fail
  try rw [eW]
  clear eW
  refine RF.out.mono ?_
  rintro e w1 ⟨v1, rfl, hq, ⟨m1, a1, k1, c1, m2, a2, k2, c2, rfl⟩, b1⟩
  have B1 := Lib.hid (below_of BW.out b1); have R1 := Lib.hid (blk_below' b1 HR.out)
  clear RF BW b1 p0 p1 p2 HR
  obtain ⟨r0, r1, f0, f1, _⟩ := blk2 R1.out
  by_cases h0 : d = 0
  · have HW : Hid (d = 0) := Lib.hid h0
    rw [show fqE x d = 11 from if_pos h0]
    clear hq h0
    go_wp2
    refine bodyPost_ret (v := .tuple #[.agg #[.bool false, .slice none 0 0], .bool false]) ?_ rfl ⟨_, _, rfl, .inl ⟨.inl HW.out, rfl, rfl⟩, (by have hS := (B1.out.setCell (p := ⟨w.heap.size + 1, 0, none⟩) hle (.bool false)).setCell (p := ⟨w.heap.size + 1, 1, none⟩) hle (.slice none 0 0); first | exact hS | exact hS.alloc hS.size _)⟩
    simp [results, Tryz.results32, go_sem, *]
  by_cases hb : BigR ≤ x.natAbs ∨ BigR ≤ d
  · have HW : Hid (longQ (x, d)) := Lib.hid hb
    rw [show fqE x d = 5 from (if_neg h0).trans (if_pos hb)]
    clear hq h0 hb
    go_wp2
    refine bodyPost_ret (v := .tuple #[.agg #[.bool false, .slice none 0 0], .bool false]) ?_ rfl ⟨_, _, rfl, .inl ⟨.inr HW.out, rfl, rfl⟩, (by have hS := (B1.out.setCell (p := ⟨w.heap.size + 1, 0, none⟩) hle (.bool false)).setCell (p := ⟨w.heap.size + 1, 1, none⟩) hle (.slice none 0 0); first | exact hS | exact hS.alloc hS.size _)⟩
    simp [results, Tryz.results32, go_sem, *]
  · have HD : Hid (0 < d ∧ ¬ longQ (x, d)) := Lib.hid ⟨Nat.pos_of_ne_zero h0, hb⟩
    rw [show fqE x d = 0 from (if_neg h0).trans (if_neg hb)]
    have hq' := hq ((if_neg h0).trans (if_neg hb))
    obtain ⟨zN, zD⟩ := hq'.parts
    have hdB : d < Big := bigR_lt (by omega)
    have hxB : x.natAbs < Big := bigR_lt (by omega)
    have hdH : d < HugeD := Nat.lt_of_lt_of_le hdB (Nat.le_trans big_huge huge_d)
    have hxH : x.natAbs < HugeD := Nat.lt_of_lt_of_le hxB (Nat.le_trans big_huge huge_d)
    obtain ⟨U, eU, hU, bU, hsU⟩ := alloc1q w1 (Obj.cells #[.bool m1, .slice a1 k1 c1, .bool m2, .slice a2 k2 c2] 71)
    have BU := Lib.hid (below_of B1.out bU); have RU := Lib.hid (blk_below' bU R1.out)
    obtain ⟨⟨p0, p1, p2, p3⟩, _, _⟩ := blk4q hU
    clear r0 r1 f0 f1
    have LO := Lib.hid (rlow_any _ _ x d U (zN.below bU) (zD.below bU) HD.out.1 hdH)
    have HLE := low_le x d
    have HLB : Hid ((lowN x d).natAbs < Big ∧ lowD x d < Big) := Lib.hid ⟨Nat.lt_of_le_of_lt HLE.1 hxB, Nat.lt_of_le_of_lt HLE.2 hdB⟩
    have HIO : Hid (∀ w' v' b, ((lowD x d ≠ 1 ∧ b = false ∧ v' = zInt) ∨ (lowD x d = 1 ∧ b = true ∧ IntR w' v' (lowN x d))) → IntO w' v' b x d) := Lib.hid (fun w' v' b h => by
      rcases h with h | h
      · exact .inr (.inl ⟨HD.out.1, HD.out.2, h⟩)
      · exact .inr (.inr ⟨HD.out.1, HD.out.2, h⟩))
    clear hq hq' zN zD hdB hxB hdH hxH h0 hb hU bU hsU B1 R1 HLE
    go_wp2_with fail
    try rw [eU]
    clear eU
    refine LO.out.mono ?_
    rintro e w3 ⟨v3, rfl, hl, b3⟩
    obtain ⟨m3, a3, k3, c3, m4, a4, k4, c4, rfl, zN, zD⟩ := hl
    obtain ⟨V, eV, hV, bV, hsV⟩ := alloc1q w3 (Obj.cells #[.bool m3, .slice a3 k3 c3, .bool m4, .slice a4 k4 c4] 71)
    have B4 := Lib.hid (below_of (below_of BU.out b3) bV); have R4 := Lib.hid (blk_below' bV (blk_below' b3 RU.out))
    have ZD := Lib.hid (zD.below bV)
    have TT := Lib.hid (to_any2 _ _ V (zN.below bV))
    clear p0 p1 p2 p3 LO b3 zN zD BU RU
    obtain ⟨⟨p0, p1, p2, p3⟩, _, _⟩ := blk4q hV
    obtain ⟨r0, r1, f0, f1, _⟩ := blk2 R4.out
    clear hV bV hsV
    generalize lowN x d = X at *
    generalize lowD x d = D at *
    by_cases h1 : D = 1
    · rcases ZD.out.one with ⟨_, h2⟩ | ⟨rfl, b, o, y, rfl, hc, hy⟩
      · exact absurd h1 h2
      · obtain rfl := hy.2 h1
        have HQ := Lib.hid h1
        clear h1 hy r0 r1 f0 f1
        go_wp2_with fail
        try rw [eV]
        clear eV
        try go_wp2_with fail
        refine TT.out.mono ?_
        rintro e w5 ⟨v5, rfl, i5, b5⟩
        obtain ⟨n5, a5, k5, c5, rfl⟩ := i5.shape
        have B5 := Lib.hid (below_of B4.out b5); have R5 := Lib.hid (blk_below' b5 R4.out)
        have I5 := Lib.hid (i5.r HLB.out.1)
        clear TT i5 b5 p0 p1 p2 p3 hc
        obtain ⟨r0, r1, f0, f1, _⟩ := blk2 R5.out
        go_wp2
        refine bodyPost_ret (v := .tuple #[.agg #[.bool n5, .slice a5 k5 c5], .bool true]) ?_ rfl ⟨_, _, rfl, HIO.out _ _ _ (.inr ⟨HQ.out, rfl, I5.out.far R5.out⟩), (B5.out.setCell (p := ⟨w.heap.size + 1, 0, none⟩) hle _).setCell (p := ⟨w.heap.size + 1, 1, none⟩) hle _⟩
        simp [results, Tryz.results32, go_sem, *]
    · have HQ := Lib.hid h1
      clear TT
      rcases ZD.out.one with ⟨hk, _⟩ | ⟨rfl, b, o, y, rfl, hc, hy⟩
      · have hd : ((k4 : Int) != 1) = true := by rw [bne_iff_ne]; omega
        clear hk h1
        go_wp2
        try rw [eV]
        refine bodyPost_ret (v := .tuple #[.agg #[.bool false, .slice none 0 0], .bool false]) ?_ rfl ⟨_, _, rfl, HIO.out _ _ _ (.inl ⟨HQ.out, rfl, rfl⟩), (B4.out.setCell (p := ⟨w.heap.size + 1, 0, none⟩) hle _).setCell (p := ⟨w.heap.size + 1, 1, none⟩) hle _⟩
        simp [results, Tryz.results32, go_sem, *]
      · have hd : ((y : Int) != 1) = true := by rw [bne_iff_ne]; intro h; exact HQ.out (hy.1 (by omega))
        clear hy h1
        go_wp2
        try rw [eV]
        refine bodyPost_ret (v := .tuple #[.agg #[.bool false, .slice none 0 0], .bool false]) ?_ rfl ⟨_, _, rfl, HIO.out _ _ _ (.inl ⟨HQ.out, rfl, rfl⟩), (B4.out.setCell (p := ⟨w.heap.size + 1, 0, none⟩) hle _).setCell (p := ⟨w.heap.size + 1, 1, none⟩) hle _⟩
        simp [results, Tryz.results32, go_sem, *]
end Go.Proofs.YthgmebnihpjnoaaGreatDoor
