/- LexisFirst: the walk. -/
import Derived.Test.YtlgcmpiobglbbaaDoorKX
import Derived.Test.YtlgcmpiobglbbaaDoorKO
set_option linter.unusedVariables false
set_option linter.unusedSimpArgs false
namespace Go.Proofs.YtlgcmpiobglbbaaDoor
open Go.RowKit Mth

theorem cb_left {a b : ByteArray} {i : Nat} (h : i < a.size) : cb (a ++ b) i = cb a i := by
  unfold cb
  rw [dif_pos (by rw [ByteArray.size_append]; omega), dif_pos h, ByteArray.getElem_append_left h]
theorem cb_right {a b : ByteArray} {i : Nat} (h : i < b.size) : cb (a ++ b) (a.size + i) = cb b i := by
  unfold cb
  rw [dif_pos (by rw [ByteArray.size_append]; omega), dif_pos h, ByteArray.getElem_append_right (by omega)]
  congr 2; omega
theorem first_a {s m : ByteArray} {x y : Nat} (h : scanF s 0 = .bad 60 x y) : scanF (s ++ m) 0 = .bad 60 x y := by
  obtain ⟨q, h1, h2, h3, h4⟩ := bad_within s.size (by omega) h
  have hw : Within s (s ++ m) 0 := ⟨by rw [ByteArray.size_append]; omega, fun i hi => by rw [Nat.zero_add]; exact cb_left hi⟩
  have h5 := h4 _ _ hw
  have h6 := ln_within hw rfl rfl q (by omega)
  have ez : 0 + q = q := Nat.zero_add q
  rw [ez] at h6 h5
  rw [show (0 : Nat) + 0 = 0 from rfl] at h5
  rw [h5, h2, h3, h6.1]
  congr 1
  unfold colAt
  rcases h6.2 with ⟨_, e1, e2⟩ | ⟨_, e2⟩
  · rw [e1, e2]
  · rw [e2]; omega
theorem first_b {s : ByteArray} {x y : Nat} (h : scanF s 0 = .bad 60 x y) : (x = 1 ∧ scanF ((⟨#[40, 32]⟩ : ByteArray) ++ s) 0 = .bad 60 x (y + 2)) ∨ (x ≠ 1 ∧ scanF ((⟨#[40, 32]⟩ : ByteArray) ++ s) 0 = .bad 60 x y) := by
  obtain ⟨q, h1, h2, h3, h4⟩ := bad_within s.size (by omega) h
  have hz : (⟨#[40, 32]⟩ : ByteArray).size = 2 := rfl
  have hw : Within s ((⟨#[40, 32]⟩ : ByteArray) ++ s) 2 := ⟨by rw [ByteArray.size_append, hz]; omega, fun i hi => by have := cb_right (a := ⟨#[40, 32]⟩) hi; rwa [hz] at this⟩
  have c0 : cb ((⟨#[40, 32]⟩ : ByteArray) ++ s) 0 = 40 := cb_left (a := ⟨#[40, 32]⟩) (by rw [hz]; omega)
  have c1 : cb ((⟨#[40, 32]⟩ : ByteArray) ++ s) 1 = 32 := cb_left (a := ⟨#[40, 32]⟩) (by rw [hz]; omega)
  have hsz : 2 < ((⟨#[40, 32]⟩ : ByteArray) ++ s).size := by rw [ByteArray.size_append, hz]; omega
  have l1 := ln_same (s := (⟨#[40, 32]⟩ : ByteArray) ++ s) (p := 0) (by rw [c0]; decide)
  have l2 := ln_same (s := (⟨#[40, 32]⟩ : ByteArray) ++ s) (p := 1) (by rw [c1]; decide)
  have h6 := ln_within hw (by rw [l2.1, l1.1]; rfl) (by rw [l2.2, l1.2]; rfl) q (by omega)
  have h5 := h4 _ _ hw
  rw [Nat.add_zero] at h5
  generalize (⟨#[40, 32]⟩ : ByteArray) ++ s = S at *
  have e0 : skipF S 0 = 0 := skip_here (by rw [c0]; rfl) (by rw [c0]; decide)
  have e1 : scanF S 1 = scanF S 2 := scan_congr (skip_blank (by omega) (by rw [c1]; rfl))
  have hS : scanF S 0 = .bad 60 (lnAt S (2 + q)) (colAt S (2 + q)) := by
    rw [scan_tok (p := 0) (by rw [e0]; omega) (by rw [e0]; exact one_op c0) (by rw [e0]; omega), show 0 + 1 = 1 from rfl]
    rw [e0] at *
    rw [e1, h5]; rfl
  rw [hS, h6.1, ← h2]
  rcases h6.2 with ⟨a1, a2, a3⟩ | ⟨a1, a2⟩
  · refine .inl ⟨h2.trans a1, ?_⟩
    congr 1
    rw [h3]; unfold colAt; rw [a2, a3]; omega
  · refine .inr ⟨fun e => a1 (h2.symm.trans e), ?_⟩
    congr 1
    rw [h3]; unfold colAt; rw [a2]; omega
set_option maxHeartbeats 2000000 in
set_option maxRecDepth 100000 in
theorem first_walk (w : World) (s m : ByteArray) (hs : s.size ≤ 1048576) (hm : m.size ≤ 1048576) (hL : LexW w) : Calls Tryd.prog 10 #[.string s, .string m] w fun e w' => e = .returned (.bool true) ∧ Below w.heap.size w w' := by
  have HL := Lib.hid hL
  have AW := Lib.hid (awake_any w hL)
  clear hL
  go_enter Tryd.func10, Tryd.ntmps10
  go_wp2_with fail
  refine AW.out.mono ?_
  rintro e w1 ⟨rfl, hb⟩
  have HB1 := Lib.hid hb
  have SC := Lib.hid (scan_any s hs w1 (HL.out.below hb))
  clear hb
  go_wp2_with fail
  refine SC.out.mono ?_
  rintro e w2 ⟨hb2, (⟨L, v, hLs, rfl, htk, hfar⟩ | ⟨E, x0, y0, hbad, hE, rfl⟩)⟩
  · have HB2 : Hid (Below w.heap.size w w2) := Lib.hid (HB1.out.trans (hb2.mono HB1.out.size))
    clear hb2 htk hfar hLs
    go_wp2
    all_goals (
      go_ret
      exact ⟨rfl, HB2.out⟩)
  · have HB2 : Hid (Below w.heap.size w w2) := Lib.hid (HB1.out.trans (hb2.mono HB1.out.size))
    by_cases h60 : E = 60
    · subst h60
      by_cases hz : s.size ≤ 524288 ∧ m.size ≤ 262144
      · have HA := Lib.hid (first_a (m := m) hbad)
        have HBd := Lib.hid (first_b hbad)
        have HYB : Hid (y0 ≤ 1048577) := Lib.hid (by
          obtain ⟨q, h1, _, h3, _⟩ := bad_within s.size (by omega) hbad
          have := col_le s q
          omega)
        obtain ⟨hz1, hz2⟩ := hz
        have hza : (s ++ m).size ≤ 1048576 := by rw [ByteArray.size_append]; omega
        have hzb : ((⟨#[40, 32]⟩ : ByteArray) ++ s).size ≤ 1048576 := by rw [ByteArray.size_append]; show 2 + s.size ≤ _; omega
        have SC2 := Lib.hid (scan_any (s ++ m) hza w2 (HL.out.below HB2.out))
        rw [HA.out] at SC2
        clear hb2 hbad hE
        go_wp2_with fail
        refine SC2.out.mono ?_
        rintro e w3 ⟨hb3, (⟨L, v, hLs, rfl, htk, hfar⟩ | ⟨E, x2, y2, hbad2, hE2, rfl⟩)⟩
        · exfalso; cases hLs
        · injection hbad2 with i1 i2 i3
          subst i1 i2 i3
          have HB3 : Hid (Below w.heap.size w w3) := Lib.hid (HB2.out.trans (hb3.mono HB2.out.size))
          have SC3 := Lib.hid (scan_any ((⟨#[40, 32]⟩ : ByteArray) ++ s) hzb w3 (HL.out.below HB3.out))
          clear hb3 hE2 SC2
          go_wp2_with fail
          refine SC3.out.mono ?_
          rintro e w4 ⟨hb4, (⟨L, v, hLs, rfl, htk, hfar⟩ | ⟨E, x3, y3, hbad3, hE3, rfl⟩)⟩
          · exfalso
            rcases HBd.out with ⟨_, h⟩ | ⟨_, h⟩ <;> (rw [h] at hLs; cases hLs)
          · have HB4 : Hid (Below w.heap.size w w4) := Lib.hid (HB3.out.trans (hb4.mono HB3.out.size))
            rcases HBd.out with ⟨hx, h⟩ | ⟨hx, h⟩
            · rw [h] at hbad3
              injection hbad3 with i1 i2 i3
              subst i1 i2 i3
              subst hx
              have e1 : ((y0 + 2 : Nat) : Int) - 2 = (y0 : Int) := by omega
              have hyb : y0 ≤ 1048577 := HYB.out
              clear hb4 h hE3 SC3
              go_wp2
              go_ret
              exact ⟨rfl, HB4.out⟩
            · rw [h] at hbad3
              injection hbad3 with i1 i2 i3
              subst i1 i2 i3
              have ex : ((x0 : Int) == 1) = false := ne_i (k := 1) hx
              clear hb4 h hE3 SC3 hx
              go_wp2
              go_ret
              exact ⟨rfl, HB4.out⟩
      · clear hb2 hbad hE
        rcases (show 524288 < s.size ∨ (s.size ≤ 524288 ∧ 262144 < m.size) by omega) with h1 | ⟨h1, h2⟩
        all_goals (
          clear hz
          go_wp2
          go_ret
          exact ⟨rfl, HB2.out⟩)
    · have e1 : ((E : Int) != 60) = true := by rw [bne_iff_ne]; omega
      clear hb2 hbad hE h60
      go_wp2
      go_ret
      exact ⟨rfl, HB2.out⟩
end Go.Proofs.YtlgcmpiobglbbaaDoor
