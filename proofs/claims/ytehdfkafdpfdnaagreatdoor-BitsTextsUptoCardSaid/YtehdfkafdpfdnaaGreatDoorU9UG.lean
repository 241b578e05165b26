/- tribunalref05.Head of a vector, tribunalref09.Text in one form; BitsTexts. -/
import Derived.Test.YtehdfkafdpfdnaaGreatDoorUNU2
import Derived.Test.YtehdfkafdpfdnaaGreatDoorUN5
import Derived.Test.YtehdfkafdpfdnaaGreatDoorUN7
set_option linter.unusedVariables false
set_option linter.unusedSimpArgs false
namespace Go.Proofs.YtehdfkafdpfdnaaGreatDoor
open Go.RowKit Mth

set_option maxHeartbeats 4000000 in
set_option maxRecDepth 100000 in
theorem rhead_bits (wd : Nat) (h2 : wd ≤ 4096) (u : Value) (xs : List Nat) (w : World) (hs : Sl w .u64 u xs) (hl : Lim B64 xs) :
    Calls Tryz.prog 17 #[.agg #[.int .i64 40, .string ⟨#[]⟩, .bool false, .slice none 0 0, .int .i64 (wd : Int), u, .int .i64 0, .int .i64 0, .string ⟨#[]⟩, .slice none 0 0, .slice none 0 0, .slice none 0 0]] w fun e w' => e = .returned (.string (txB 98 (digs 2 wd (val B64 xs)))) ∧ Below w.heap.size w w' := by
  obtain ⟨ao, cap, hu⟩ := hs.shape
  subst hu
  have BN : Hid (∀ w1, Below w.heap.size w w1 → Calls Tryz.prog 38 #[.agg #[.int .i64 (wd : Int), .slice ao xs.length cap]] w1 fun e w' => e = .returned (.string (txB 98 (digs 2 wd (val B64 xs)))) ∧ Below w1.heap.size w1 w') := Lib.hid (fun w1 hb => rbinary_any wd h2 _ xs w1 (hs.below hb) hl)
  generalize txB 98 (digs 2 wd (val B64 xs)) = T at *
  clear hs hl
  have hb0 : Below w.heap.size w (w.alloc (Obj.cells #[.int .i64 40, .string ⟨#[]⟩, .bool false, .slice none 0 0, .int .i64 (wd : Int), .slice ao xs.length cap, .int .i64 0, .int .i64 0, .string ⟨#[]⟩, .slice none 0 0, .slice none 0 0, .slice none 0 0] 52)) := (Below.refl _ _).alloc (Nat.le_refl _) _
  have HB0 := Lib.hid hb0
  clear hb0
  go_enter Tryz.func17, Tryz.ntmps17
  go_wp2_with fail
  refine (BN.out _ HB0.out).mono ?_
  rintro e w2 ⟨rfl, hb2⟩
  have B2 := Lib.hid (below_of HB0.out hb2)
  clear hb2
  go_wp2
  go_ret
  exact ⟨rfl, B2.out⟩
set_option maxHeartbeats 4000000 in
set_option maxRecDepth 100000 in
theorem rtext_base (x base : Int) (h2 : base ≠ 2) (h16 : base ≠ 16) (u : Value) (xs : List Nat) (w : World) (hs : Sl w .u64 u xs) :
    Calls Tryz.prog 6 #[.agg #[.int .i64 x, u], .int .i64 base] w fun e w' => ResS w w' e ⟨#[]⟩ 12 := by
  obtain ⟨ao, cap, rfl⟩ := hs.shape
  obtain ⟨W, eW, gW, bW, hWs⟩ := alloc1n w (Obj.cells #[.int .i64 x, .slice ao xs.length cap] 25)
  have BW := Lib.hid bW; have EW := Lib.hid eW
  have d2 : (base != 2) = true := bne_iff_ne.2 h2
  have d16 : (base != 16) = true := bne_iff_ne.2 h16
  clear hs gW bW eW h2 h16
  go_enter Tryz.func6, Tryz.ntmps6
  go_upto_region 1 with fail
  rw [EW.out]
  go_wp2
  go_ret2
  exact ⟨rfl, BW.out⟩
set_option maxHeartbeats 4000000 in
set_option maxRecDepth 100000 in
theorem rtext_bad (x base : Int) (hb : base = 2 ∨ base = 16) (u : Value) (xs : List Nat) (w : World) (hs : Sl w .u64 u xs) (hl : Lim B64 xs) (hr : rightF x (val B64 xs) = false) :
    Calls Tryz.prog 6 #[.agg #[.int .i64 x, u], .int .i64 base] w fun e w' => ResS w w' e ⟨#[]⟩ 90 := by
  obtain ⟨ao, cap, hu⟩ := hs.shape
  subst hu
  obtain ⟨W, eW, gW, bW, hWs⟩ := alloc1n w (Obj.cells #[.int .i64 x, .slice ao xs.length cap] 25)
  have RT := Lib.hid (rright_any x _ xs W (hs.below bW) hl)
  rw [hr] at RT
  have BW := Lib.hid bW; have EW := Lib.hid eW
  obtain ⟨c0, c1, f0, f1, _⟩ := blk2 gW
  clear hs gW bW eW hl hr
  rcases hb with rfl | rfl
  all_goals
    go_enter Tryz.func6, Tryz.ntmps6
    go_upto_region 1 with fail
    rw [EW.out]
    go_wp2_with fail
    refine RT.out.mono ?_
    rintro e w2 ⟨rfl, hb2⟩
    have B2 := Lib.hid (below_of BW.out hb2)
    clear hb2
    go_wp2
    go_ret2
    exact ⟨rfl, B2.out⟩
set_option maxHeartbeats 4000000 in
set_option maxRecDepth 100000 in
theorem rtext_odd (wd : Nat) (hw : wd ≤ 4096) (h4 : wd % 4 ≠ 0) (u : Value) (xs : List Nat) (w : World) (hs : Sl w .u64 u xs) (hl : Lim B64 xs) (hr : rightF (wd : Int) (val B64 xs) = true) :
    Calls Tryz.prog 6 #[.agg #[.int .i64 (wd : Int), u], .int .i64 16] w fun e w' => ResS w w' e ⟨#[]⟩ 12 := by
  obtain ⟨ao, cap, hu⟩ := hs.shape
  subst hu
  obtain ⟨W, eW, gW, bW, hWs⟩ := alloc1n w (Obj.cells #[.int .i64 (wd : Int), .slice ao xs.length cap] 25)
  have RT := Lib.hid (rright_any (wd : Int) _ xs W (hs.below bW) hl)
  rw [hr] at RT
  have BW := Lib.hid bW; have EW := Lib.hid eW; have GW := Lib.hid gW
  obtain ⟨c0, c1, f0, f1, _⟩ := blk2 gW
  have hm : (wd : Int) % 4 = ((wd % 4 : Nat) : Int) := by omega
  have hmd : (((wd % 4 : Nat) : Int) != 0) = true := bne_iff_ne.2 (by omega)
  generalize wd % 4 = r at *
  clear hs gW bW eW hl hr h4
  go_enter Tryz.func6, Tryz.ntmps6
  go_upto_region 1 with fail
  rw [EW.out]
  go_wp2_with fail
  refine RT.out.mono ?_
  rintro e w2 ⟨rfl, hb2⟩
  have B2 := Lib.hid (below_of BW.out hb2)
  obtain ⟨d0, d1, _, _, _⟩ := blk2 (car hb2 GW.out)
  clear hb2 c0 c1 f0 f1
  go_wp2
  go_ret2
  exact ⟨rfl, B2.out⟩
set_option maxHeartbeats 4000000 in
set_option maxRecDepth 100000 in
theorem rtext_b (wd : Nat) (hw : wd ≤ 4096) (u : Value) (xs : List Nat) (w : World) (hs : Sl w .u64 u xs) (hl : Lim B64 xs) (hr : rightF (wd : Int) (val B64 xs) = true) :
    Calls Tryz.prog 6 #[.agg #[.int .i64 (wd : Int), u], .int .i64 2] w fun e w' => ResS w w' e (txB 98 (digs 2 wd (val B64 xs))) 0 := by
  obtain ⟨ao, cap, hu⟩ := hs.shape
  subst hu
  obtain ⟨W, eW, gW, bW, hWs⟩ := alloc1n w (Obj.cells #[.int .i64 (wd : Int), .slice ao xs.length cap] 25)
  have RT := Lib.hid (rright_any (wd : Int) _ xs W (hs.below bW) hl)
  rw [hr] at RT
  have HD : Hid (∀ w1, Below W.heap.size W w1 → Calls Tryz.prog 17 #[.agg #[.int .i64 40, .string ⟨#[]⟩, .bool false, .slice none 0 0, .int .i64 (wd : Int), .slice ao xs.length cap, .int .i64 0, .int .i64 0, .string ⟨#[]⟩, .slice none 0 0, .slice none 0 0, .slice none 0 0]] w1 fun e w' => e = .returned (.string (txB 98 (digs 2 wd (val B64 xs)))) ∧ Below w1.heap.size w1 w') := Lib.hid (fun w1 hb => rhead_bits wd hw _ xs w1 ((hs.below bW).below hb) hl)
  generalize txB 98 (digs 2 wd (val B64 xs)) = T at *
  have BW := Lib.hid bW; have EW := Lib.hid eW; have GW := Lib.hid gW
  obtain ⟨c0, c1, f0, f1, _⟩ := blk2 gW
  clear hs gW bW eW hl hr
  go_enter Tryz.func6, Tryz.ntmps6
  go_upto_region 1 with fail
  rw [EW.out]
  go_wp2_with fail
  refine RT.out.mono ?_
  rintro e w2 ⟨rfl, hb2⟩
  have H2 := Lib.hid hb2
  have B2 := Lib.hid (below_of BW.out hb2)
  have G2 := Lib.hid (car hb2 GW.out)
  obtain ⟨d0, d1, _, _, _⟩ := blk2 G2.out
  clear hb2 c0 c1 f0 f1
  go_wp2_with fail
  refine (HD.out _ H2.out).mono ?_
  rintro e w3 ⟨rfl, hb3⟩
  have B3 := Lib.hid (below_of B2.out hb3)
  clear hb3 d0 d1
  go_wp2
  go_ret2
  exact ⟨rfl, B3.out⟩
/-- program and reference write one text, or refuse for one reason -/
theorem both_text (x base : Int) (n : Nat) : ∃ (S : ByteArray) (er : Int), S.size ≤ 8192 ∧
    (∀ (w : World) (u : Value) (xs : List Nat), Sl w .u64 u xs → Lim B64 xs → val B64 xs = n → TZ w → Calls Tryz.prog 5 #[.agg #[.int .i64 x, u], .int .i64 base] w fun e w' => ResS w w' e S er) ∧
    (∀ (w : World) (u : Value) (xs : List Nat), Sl w .u64 u xs → Lim B64 xs → val B64 xs = n → Calls Tryz.prog 6 #[.agg #[.int .i64 x, u], .int .i64 base] w fun e w' => ResS w w' e S er) := by
  by_cases hb : base = 2 ∨ base = 16
  · cases hr : rightF x n
    · exact ⟨⟨#[]⟩, 90, by decide, fun w u xs hs hl hn _ => text9_bad x base hb u xs w hs hl (by rw [hn]; exact hr), fun w u xs hs hl hn => rtext_bad x base hb u xs w hs hl (by rw [hn]; exact hr)⟩
    · obtain ⟨wd, rfl, h1, h2, hlt⟩ := right_nat hr
      rcases hb with rfl | rfl
      · refine ⟨txB 98 (digs 2 wd n), 0, by rw [txB_size, digs_len]; omega, fun w u xs hs hl hn hz => ?_, fun w u xs hs hl hn => ?_⟩
        · subst hn; exact text9_b wd h1 h2 u xs w hs hl hr hlt hz
        · subst hn; exact rtext_b wd h2 u xs w hs hl hr
      · by_cases h4 : wd % 4 = 0
        · obtain ⟨q, rfl⟩ : ∃ q, wd = 4 * q := ⟨wd / 4, by omega⟩
          refine ⟨txB 120 (digs 16 q n), 0, by rw [txB_size, digs_len]; omega, fun w u xs hs hl hn hz => ?_, fun w u xs hs hl hn => ?_⟩
          · subst hn; exact text9_x q (by omega) h2 u xs w hs hl hr hlt hz
          · subst hn; exact rtext_x q (4 * q) rfl h2 u xs w hs hl hr
        · refine ⟨⟨#[]⟩, 12, by decide, fun w u xs hs hl hn _ => ?_, fun w u xs hs hl hn => ?_⟩
          · subst hn; exact text9_odd wd h2 h4 u xs w hs hl hr
          · subst hn; exact rtext_odd wd h2 h4 u xs w hs hl hr
  · exact ⟨⟨#[]⟩, 12, by decide, fun w u xs hs _ _ _ => text9_base x base (fun e => hb (.inl e)) (fun e => hb (.inr e)) u xs w hs, fun w u xs hs _ _ => rtext_base x base (fun e => hb (.inl e)) (fun e => hb (.inr e)) u xs w hs⟩
set_option maxHeartbeats 8000000 in
set_option maxRecDepth 100000 in
theorem texts9_walk (v : Value) (x base : Int) (xs : List Nat) (w : World) (hz : TZ w) (h : BvA w v x xs) : Calls Tryz.prog 3 #[v, .int .i64 base] w fun e w' => e = .returned (.bool true) ∧ Below w.heap.size w w' := by
  obtain ⟨u, rfl, hs, hl, -⟩ := h
  obtain ⟨S, er, hsz, P1, P2⟩ := both_text x base (val B64 xs)
  obtain ⟨ao, cap, hu⟩ := hs.shape
  subst hu
  obtain ⟨W, eW, gW, bW, hWs⟩ := alloc1n w (Obj.cells #[.int .i64 x, .slice ao xs.length cap] 25)
  have P1 := Lib.hid (P1 W _ xs (hs.below bW) hl rfl (hz.below bW))
  have P2 : Hid (∀ w1, Below W.heap.size W w1 → Calls Tryz.prog 6 #[.agg #[.int .i64 x, .slice ao xs.length cap], .int .i64 base] w1 fun e w' => ResS w1 w' e S er) := Lib.hid (fun w1 hb => P2 w1 _ xs ((hs.below bW).below hb) hl rfl)
  have de : (er == er) = true := beq_self_eq_true er
  have ds : (S.toList == S.toList) = true := beq_self_eq_true _
  have BW := Lib.hid bW; have EW := Lib.hid eW; have GW := Lib.hid gW
  obtain ⟨c0, c1, f0, f1, _⟩ := blk2 gW
  clear hs gW bW eW hl hz
  go_enter Tryz.func3, Tryz.ntmps3
  go_upto_region 1 with fail
  rw [EW.out]
  go_wp2_with fail
  refine P1.out.mono ?_
  rintro e w2 ⟨rfl, hb2⟩
  have H2 := Lib.hid hb2
  have B2 := Lib.hid (below_of BW.out hb2)
  obtain ⟨d0, d1, _, _, _⟩ := blk2 (car hb2 GW.out)
  clear hb2 c0 c1 f0 f1
  go_wp2_with fail
  refine (P2.out _ H2.out).mono ?_
  rintro e w3 ⟨rfl, hb3⟩
  have B3 := Lib.hid (below_of B2.out hb3)
  clear hb3 d0 d1
  go_wp2_with fail
  refine (alive9 _).mono ?_
  rintro e w4 ⟨rfl, hb4⟩
  have B4 := Lib.hid (below_of B3.out hb4)
  clear hb4
  go_wp2
  go_ret
  exact ⟨rfl, B4.out⟩
end Go.Proofs.YtehdfkafdpfdnaaGreatDoor
