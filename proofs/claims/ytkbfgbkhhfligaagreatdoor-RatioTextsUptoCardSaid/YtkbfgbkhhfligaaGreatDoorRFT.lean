/- tribunalref03: Text. -/
import Derived.Test.YtkbfgbkhhfligaaGreatDoorRFQ
import Derived.Test.YtkbfgbkhhfligaaGreatDoorQB4
import Derived.Test.YtkbfgbkhhfligaaGreatDoorYB4
set_option linter.unusedVariables false
set_option linter.unusedSimpArgs false
namespace Go.Proofs.YtkbfgbkhhfligaaGreatDoor
open Go.RowKit Mth

theorem QV.parts {w : World} {m m' : Bool} {a a' : Option Addr} {k c k' c' : Nat} {x : Int} {d : Nat} (h : QV w (.agg #[.bool m, .slice a k c, .bool m', .slice a' k' c']) x d) : ZV w (.agg #[.bool m, .slice a k c]) x ∧ ZV w (.agg #[.bool m', .slice a' k' c']) (d : Int) := by
  obtain ⟨n, b, l, e, n', b', l', e', h, h1, h2⟩ := h
  simp only [Value.agg.injEq, Array.mk.injEq, List.cons.injEq, Value.bool.injEq, Value.slice.injEq, and_true] at h
  obtain ⟨rfl, ⟨rfl, rfl, rfl⟩, rfl, rfl, rfl, rfl⟩ := h
  exact ⟨h1, h2⟩
theorem ZV.one {w : World} {n : Bool} {a : Option Addr} {k c D : Nat} (h : ZV w (.agg #[.bool n, .slice a k c]) (D : Int)) : (k ≠ 1 ∧ D ≠ 1) ∨ (k = 1 ∧ ∃ b o y, a = some ⟨b, o, none⟩ ∧ w.cell? ⟨b, o, none⟩ = some (.int .u16 (y : Nat)) ∧ (y = 1 ↔ D = 1)) := by
  obtain ⟨_, ys, s, l, t, e, hk⟩ := h.parts
  rw [Int.natAbs_natCast] at e
  subst hk
  by_cases h1 : ys.length = 1
  · refine .inr ⟨h1, ?_⟩
    obtain ⟨ao, c', e', _, _, _, _, h5⟩ := s
    obtain ⟨b, o, rfl, _, hc⟩ := h5 (by omega)
    simp only [Value.slice.injEq] at e'
    obtain ⟨rfl, _, _⟩ := e'
    match ys, h1 with
    | [y], _ =>
      refine ⟨b, o, y, rfl, hc 0 (Nat.zero_lt_one), ?_⟩
      have : y = D := by rw [← e]; simp [val]
      rw [this]
  · refine .inl ⟨h1, ?_⟩
    rintro rfl
    have hp : 0 < ys.length := by
      rcases ys with _ | ⟨y, ys⟩
      · have : (0 : Nat) = 1 := e
        omega
      · simp
    have h2 := val_ge_top (B := B16) t hp
    have h3 : B16 ^ 1 ≤ B16 ^ (ys.length - 1) := Nat.pow_le_pow_right (by unfold B16; omega) (by omega)
    have h4 : B16 ^ 1 = 65536 := rfl
    omega

set_option maxRecDepth 100000 in
set_option maxHeartbeats 8000000 in
theorem rtext3_any (v : Value) (x : Int) (d : Nat) (w : World) (h : RatV w v x d) : Calls Tryz.prog 42 #[v] w fun e w' => ∃ S E, e = .returned (.tuple #[.string S, .int .i64 E]) ∧ TxtO x d S E ∧ Below w.heap.size w w' := by
  have H := Lib.hid h
  obtain ⟨n, a, k, c, a', k', c', xs, ys, rfl, -⟩ := h
  go_enter Tryz.func42, Tryz.ntmps42
  go_wp2_with fail
  obtain ⟨W, eW, h1, bW, hsW⟩ := alloc1 w (Obj.cells #[.bool n, .slice a k c, .slice a' k' c'] 41)
  try rw [eW]
  have BW := Lib.hid bW
  have RF := Lib.hid (rfromq_any _ x d W (H.out.below bW))
  obtain ⟨⟨p0, p1, p2⟩, _, _⟩ := blk3 h1
  clear eW h1 bW hsW
  try go_wp2_with fail
  refine RF.out.mono ?_
  rintro e w1 ⟨v1, rfl, hq, ⟨m1, a1, k1, c1, m2, a2, k2, c2, rfl⟩, b1⟩
  have B1 := Lib.hid (below_of BW.out b1)
  clear RF BW b1 p0 p1 p2
  by_cases h0 : d = 0
  · have HT : Hid (TxtO x d ⟨#[]⟩ 11) := Lib.hid (.inl ⟨h0, rfl, rfl⟩)
    rw [show fqE x d = 11 from if_pos h0]
    clear hq h0
    go_wp2
    go_ret2
    exact ⟨_, _, rfl, HT.out, by (repeat (first | exact B1.out | (with_reducible refine Below.alloc ?_ ?_ _); rotate_left; (focus (have := B1.out.size; first | omega | (simp; omega)))))⟩
  by_cases hb : BigR ≤ x.natAbs ∨ BigR ≤ d
  · have HT : Hid (TxtO x d ⟨#[]⟩ 5) := Lib.hid (.inr (.inl ⟨by omega, hb, rfl, rfl⟩))
    rw [show fqE x d = 5 from (if_neg h0).trans (if_pos hb)]
    clear hq h0 hb
    go_wp2
    go_ret2
    exact ⟨_, _, rfl, HT.out, by (repeat (first | exact B1.out | (with_reducible refine Below.alloc ?_ ?_ _); rotate_left; (focus (have := B1.out.size; first | omega | (simp; omega)))))⟩
  · have HT : Hid (TxtO x d ⟨(toBytes (tQ (lowN x d) (lowD x d))).toArray⟩ 0) := Lib.hid (.inr (.inr ⟨by omega, hb, rfl, rfl⟩))
    rw [show fqE x d = 0 from (if_neg h0).trans (if_neg hb)]
    have hq' := hq ((if_neg h0).trans (if_neg hb))
    obtain ⟨zN, zD⟩ := hq'.parts
    have hdB : d < Big := bigR_lt (by omega)
    have hxB : x.natAbs < Big := bigR_lt (by omega)
    have hdH : d < HugeD := Nat.lt_of_lt_of_le hdB (Nat.le_trans big_huge huge_d)
    have HLE := low_le x d
    have HLB : Hid ((lowN x d).natAbs < Big ∧ lowD x d < Big) := Lib.hid ⟨Nat.lt_of_le_of_lt HLE.1 hxB, Nat.lt_of_le_of_lt HLE.2 hdB⟩
    obtain ⟨U, eU, hU, bU, hsU⟩ := alloc1q w1 (Obj.cells #[.bool m1, .slice a1 k1 c1, .bool m2, .slice a2 k2 c2] 104)
    have BU := Lib.hid (below_of B1.out bU)
    have LO := Lib.hid (rlow_any _ _ x d U (zN.below bU) (zD.below bU) (by omega) hdH)
    obtain ⟨⟨p0, p1, p2, p3⟩, _, _⟩ := blk4q hU
    clear hq hq' zN zD hdB hxB hdH HLE h0 hb hU bU hsU
    go_wp2_with fail
    try rw [eU]
    clear eU
    refine LO.out.mono ?_
    rintro e w3 ⟨v3, rfl, hl, b3⟩
    obtain ⟨m3, a3, k3, c3, m4, a4, k4, c4, rfl, zN, zD⟩ := hl
    obtain ⟨V, eV, hV, bV, hsV⟩ := alloc1q w3 (Obj.cells #[.bool m3, .slice a3 k3 c3, .bool m4, .slice a4 k4 c4] 104)
    have BV := Lib.hid (below_of (below_of BU.out b3) bV)
    have VG := Lib.hid hV
    have TN := Lib.hid (textZ_any _ (lowN x d) V (zN.below bV) HLB.out.1)
    have ZD := Lib.hid (zD.below bV)
    clear p0 p1 p2 p3 LO b3 zN zD BU
    obtain ⟨⟨p0, p1, p2, p3⟩, _, _⟩ := blk4q hV
    clear hV bV hsV
    generalize lowN x d = X at *
    generalize lowD x d = D at *
    go_wp2_with fail
    try rw [eV]
    clear eV
    refine TN.out.mono ?_
    rintro e w4 ⟨rfl, b4⟩
    have G4 := Lib.hid (blk_below' b4 VG.out)
    have B4 := Lib.hid (below_of BV.out b4)
    have Z4 := Lib.hid (ZD.out.below b4)
    have T4 := Lib.hid (textZ_any _ (D : Int) w4 Z4.out (by rw [Int.natAbs_natCast]; exact HLB.out.2))
    clear b4 p0 p1 p2 p3 TN
    obtain ⟨⟨p0, p1, p2, p3⟩, _, _⟩ := blk4q G4.out
    by_cases h1 : D = 1
    · rcases Z4.out.one with ⟨_, h2⟩ | ⟨rfl, b, o, y, rfl, hc, hy⟩
      · exact absurd h1 h2
      · obtain rfl := hy.2 h1
        have HQ : Hid (tQ X D = zS X) := Lib.hid (if_pos h1)
        clear h1 hy T4
        go_wp2
        go_ret2
        exact ⟨_, _, rfl, by rw [← HQ.out]; exact HT.out, B4.out⟩
    · have HQ : Hid (tQ X D = zS X ++ 47 :: numeral 10 D) := Lib.hid (if_neg h1)
      have hz1 := size_tb (zS X)
      have hz2 := zS_len HLB.out.1
      have hz3 := size_tb (numeral 10 D)
      have hz4 := numeral_size (b := 10) (by omega) HLB.out.2
      have e2 : zS (D : Int) = numeral 10 D := by rw [zS_pos (by rw [Int.natAbs_natCast]; exact HLB.out.2) (by omega), Int.natAbs_natCast]
      have HC := Lib.hid (cat_slash (zS X) (numeral 10 D))
      have H1 := Lib.hid h1
      rw [e2] at T4
      clear e2
      generalize (⟨(toBytes (zS X)).toArray⟩ : ByteArray) = S1 at *
      generalize (⟨(toBytes (numeral 10 D)).toArray⟩ : ByteArray) = S2 at *
      have hs1 : S1.size ≤ 262145 := by omega
      have hs2 : S2.size ≤ 262144 := by omega
      clear hz1 hz2 hz3 hz4 h1
      rcases Z4.out.one with ⟨hk, _⟩ | ⟨rfl, b, o, y, rfl, hc, hy⟩
      · have hd : ((k4 : Int) != 1) = true := by rw [bne_iff_ne]; omega
        clear hk
        go_wp2_with fail
        refine T4.out.mono ?_
        rintro e w6 ⟨rfl, b6⟩
        have B6 := Lib.hid (below_of B4.out b6)
        clear b6 p0 p1 p2 p3
        go_wp2
        go_ret2
        exact ⟨_, _, rfl, by rw [HC.out, ← HQ.out]; exact HT.out, B6.out⟩
      · have hd : ((y : Int) != 1) = true := by rw [bne_iff_ne]; intro h; exact H1.out (hy.1 (by omega))
        clear hy
        go_wp2_with fail
        refine T4.out.mono ?_
        rintro e w6 ⟨rfl, b6⟩
        have B6 := Lib.hid (below_of B4.out b6)
        clear b6 p0 p1 p2 p3 hc
        go_wp2
        go_ret2
        exact ⟨_, _, rfl, by rw [HC.out, ← HQ.out]; exact HT.out, B6.out⟩
end Go.Proofs.YtkbfgbkhhfligaaGreatDoor
