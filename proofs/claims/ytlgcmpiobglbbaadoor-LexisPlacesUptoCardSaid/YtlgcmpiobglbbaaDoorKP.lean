/- LexisPlaces: the walk (written by genkp.py). -/
import Derived.Test.YtlgcmpiobglbbaaDoorKG
import Derived.Test.YtlgcmpiobglbbaaDoorKQ
import Derived.Test.YtlgcmpiobglbbaaDoorKX
set_option linter.unusedVariables false
set_option linter.unusedSimpArgs false
namespace Go.Proofs.YtlgcmpiobglbbaaDoor
open Go.RowKit Mth

def PlS (w2 wr : World) (s : ByteArray) (L : List Tk) (a ln cl kk : Value) : Prop := ∃ p k : Nat, a = .int .i64 (p : Int) ∧ ln = .int .i64 (lnAt s p : Int) ∧ cl = .int .i64 (colAt s p : Int) ∧ kk = .int .i64 (k : Int) ∧ At s L p k ∧ Below w2.heap.size w2 wr
def CmR (s : ByteArray) (p : Nat) (a cl : Value) : Prop := ∃ j : Nat, p ≤ j ∧ j ≤ s.size ∧ a = .int .i64 (j : Int) ∧ cl = .int .i64 (colAt s j : Int) ∧ cmtF s p = cmtF s j ∧ lnAt s j = lnAt s p
def TkR (s : ByteArray) (p : Nat) (X : ByteArray) (ln cl i : Value) : Prop := ∃ j : Nat, j ≤ X.size ∧ i = .int .i64 (j : Int) ∧ ln = .int .i64 (lnAt s (p + j) : Int) ∧ cl = .int .i64 (colAt s (p + j) : Int)
set_option maxHeartbeats 4000000 in
set_option maxRecDepth 100000 in
theorem places_walk (w : World) (s : ByteArray) (hs : s.size ≤ 1048576) (hL : LexW w) : Calls Tryd.prog 8 #[.string s] w fun e w' => e = .returned (.bool true) ∧ Below w.heap.size w w' := by
  have HL := Lib.hid hL
  have AW := Lib.hid (awake_any w hL)
  clear hL
  go_enter Tryd.func8, Tryd.ntmps8
  go_wp2_with fail
  refine AW.out.mono ?_
  rintro e w1 ⟨rfl, hb⟩
  have HB1 := Lib.hid hb
  have SC := Lib.hid (scan_any s hs w1 (HL.out.below hb))
  clear hb
  go_wp2_with fail
  refine SC.out.mono ?_
  rintro e w2 ⟨hb2, (⟨L, v, hLs, rfl, htk, hfar⟩ | ⟨E, x0, y0, hbad, hE, rfl⟩)⟩
  · have HB2 : Hid (Below w.heap.size w w2) := Lib.hid (HB1.out.trans (hb2.mono HB1.out.size))
    have HTK2 := Lib.hid htk
    have HG := Lib.hid (scan_good hs hLs)
    have hlen : L.length ≤ 1048576 := by have := scan_len hLs; omega
    have HST : Hid (At s L 0 0) := Lib.hid ⟨Nat.zero_le _, Nat.zero_le _, hLs⟩
    have HEX : Hid (∀ W, Below w2.heap.size w2 W → LexW W ∧ Below w.heap.size w W ∧ TkL W v L) := Lib.hid (fun W hW => ⟨HL.out.below (HB2.out.trans (hW.mono HB2.out.size)), HB2.out.trans (hW.mono HB2.out.size), HTK2.out.below hW⟩)
    obtain ⟨ao, cap, rfl, _⟩ := htk
    clear hb2 hfar hLs
    go_wp2
    go_loopw [7, 8, 9, 10] (fun a ln cl kk wr => PlS w2 wr s L a ln cl kk) (fun a _ _ _ _ => s.size - (intOf a).toNat)
    case atStart => exact ⟨0, 0, rfl, rfl, rfl, rfl, HST.out, Below.refl _ _⟩
    case round =>
      obtain ⟨p, k, rfl, rfl, rfl, rfl, hat, hbel⟩ := hrel
      have HAT := Lib.hid hat; have HB := Lib.hid hbel
      have hpz := hat.1; have hkz := hat.2.1
      have hln := ln_le s p; have hcl := col_le s p
      have HTK := Lib.hid (HEX.out _ hbel).2.2
      clear hat hbel
      by_cases hlt : p < s.size
      · have hbk := cb_at hlt
        rcases Bool.eq_false_or_eq_true (bBlank (cb s p)) with hb | hb
        · have BL : Hid (∀ W, Calls Tryd.prog 23 #[.int .u8 ((cb s p : Nat) : Int)] W fun e w' => e = .returned (.bool true) ∧ W = w') := Lib.hid (fun W => by have := blank6_any _ (cb_lt s p) W; rwa [hb] at this)
          have HNX := Lib.hid (at_blank HAT.out hlt hb)
          have HNO : Hid (∀ y, L[k]? = some y → ¬ (y.l = lnAt s p ∧ y.c = colAt s p)) := Lib.hid (fun y hy => at_none HAT.out hlt (.inl hb) hy)
          have e59 : ((cb s p : Int) == 59) = false := ne_i (k := 59) (fun e => by rw [e] at hb; cases hb)
          clear hb
          by_cases hkl : k < L.length
          · have hne : L ≠ [] := fun e => by rw [e] at hkl; simp at hkl
            obtain ⟨ao', cap', he, hc⟩ := HTK.out
            obtain ⟨bb, off, hbb, hblt, hcc⟩ := hc hne
            injection he with he1 he2 he3
            rw [hbb] at he1
            subst he1
            have hy : L[k]? = some L[k] := List.getElem?_eq_getElem hkl
            obtain ⟨a0, a1, a2, a3, a4⟩ := TkL.at hcc hy
            have hny := HNO.out _ hy
            generalize L[k] = y at *
            clear hy hc hcc he2 he3 hne
            by_cases hyl : y.l = (lnAt s p : Int)
            · have hyc : (y.c == (colAt s p : Int)) = false := beq_eq_false_iff_ne.2 (fun e => hny ⟨hyl, e⟩)
              rw [hyl] at a3
              clear hny hyl
              by_cases h10 : cb s p = 10
              · have HL1 := Lib.hid (ln_nl h10).1
                have HC1 := Lib.hid (col_nl h10)
                rw [h10] at hbk BL
                clear h10 e59
                go_wp2_with (go_at_call 23; refine (BL.out _).mono ?_; rintro e w1 ⟨rfl, rfl⟩)
                go_roundw
                case rel => exact ⟨p + 1, k, by go_num, by rw [HL1.out]; go_num, by rw [HC1.out]; rfl, rfl, HNX.out, HB.out⟩
                case measure => simp [intOf]; omega
              · have HL1 := Lib.hid (ln_same h10).1
                have HC1 := Lib.hid (col_same h10)
                have e10 : ((cb s p : Int) == 10) = false := ne_i (k := 10) h10
                clear h10
                go_wp2_with (go_at_call 23; refine (BL.out _).mono ?_; rintro e w1 ⟨rfl, rfl⟩)
                go_roundw
                case rel => exact ⟨p + 1, k, by go_num, by rw [HL1.out], by rw [HC1.out]; go_num, rfl, HNX.out, HB.out⟩
                case measure => simp [intOf]; omega
            · have hyf : (y.l == (lnAt s p : Int)) = false := beq_eq_false_iff_ne.2 hyl
              clear hny hyl
              by_cases h10 : cb s p = 10
              · have HL1 := Lib.hid (ln_nl h10).1
                have HC1 := Lib.hid (col_nl h10)
                rw [h10] at hbk BL
                clear h10 e59
                go_wp2_with (go_at_call 23; refine (BL.out _).mono ?_; rintro e w1 ⟨rfl, rfl⟩)
                go_roundw
                case rel => exact ⟨p + 1, k, by go_num, by rw [HL1.out]; go_num, by rw [HC1.out]; rfl, rfl, HNX.out, HB.out⟩
                case measure => simp [intOf]; omega
              · have HL1 := Lib.hid (ln_same h10).1
                have HC1 := Lib.hid (col_same h10)
                have e10 : ((cb s p : Int) == 10) = false := ne_i (k := 10) h10
                clear h10
                go_wp2_with (go_at_call 23; refine (BL.out _).mono ?_; rintro e w1 ⟨rfl, rfl⟩)
                go_roundw
                case rel => exact ⟨p + 1, k, by go_num, by rw [HL1.out], by rw [HC1.out]; go_num, rfl, HNX.out, HB.out⟩
                case measure => simp [intOf]; omega
          · by_cases h10 : cb s p = 10
            · have HL1 := Lib.hid (ln_nl h10).1
              have HC1 := Lib.hid (col_nl h10)
              rw [h10] at hbk BL
              clear h10 e59
              go_wp2_with (go_at_call 23; refine (BL.out _).mono ?_; rintro e w1 ⟨rfl, rfl⟩)
              go_roundw
              case rel => exact ⟨p + 1, k, by go_num, by rw [HL1.out]; go_num, by rw [HC1.out]; rfl, rfl, HNX.out, HB.out⟩
              case measure => simp [intOf]; omega
            · have HL1 := Lib.hid (ln_same h10).1
              have HC1 := Lib.hid (col_same h10)
              have e10 : ((cb s p : Int) == 10) = false := ne_i (k := 10) h10
              clear h10
              go_wp2_with (go_at_call 23; refine (BL.out _).mono ?_; rintro e w1 ⟨rfl, rfl⟩)
              go_roundw
              case rel => exact ⟨p + 1, k, by go_num, by rw [HL1.out], by rw [HC1.out]; go_num, rfl, HNX.out, HB.out⟩
              case measure => simp [intOf]; omega
        · by_cases h59 : cb s p = 59
          · have H59 := Lib.hid h59
            have HCS : Hid (cmtF s (p + 1) = cmtF s p) := Lib.hid (cmt_next hlt (by rw [h59]; decide)).symm
            have HNO : Hid (∀ y, L[k]? = some y → ¬ (y.l = lnAt s p ∧ y.c = colAt s p)) := Lib.hid (fun y hy => at_none HAT.out hlt (.inr h59) hy)
            rw [h59] at hbk
            clear hb h59
            by_cases hkl : k < L.length
            · have hne : L ≠ [] := fun e => by rw [e] at hkl; simp at hkl
              obtain ⟨ao', cap', he, hc⟩ := HTK.out
              obtain ⟨bb, off, hbb, hblt, hcc⟩ := hc hne
              injection he with he1 he2 he3
              rw [hbb] at he1
              subst he1
              have hy : L[k]? = some L[k] := List.getElem?_eq_getElem hkl
              obtain ⟨a0, a1, a2, a3, a4⟩ := TkL.at hcc hy
              have hny := HNO.out _ hy
              generalize L[k] = y at *
              clear hy hc hcc he2 he3 hne
              by_cases hyl : y.l = (lnAt s p : Int)
              · have hyc : (y.c == (colAt s p : Int)) = false := beq_eq_false_iff_ne.2 (fun e => hny ⟨hyl, e⟩)
                rw [hyl] at a3
                clear hny hyl
                go_wp2
                go_loop [7, 9] (fun a cl => CmR s p a cl) (fun a _ => s.size - (intOf a).toNat)
                case atStart => exact ⟨p, Nat.le_refl _, by omega, rfl, rfl, rfl, rfl⟩
                case round =>
                  obtain ⟨j, hpj, hj, rfl, rfl, hcm, hlj⟩ := hrel
                  have HCM := Lib.hid hcm; have HLJ := Lib.hid hlj
                  have hcj := col_le s j
                  clear hcm hlj
                  by_cases hjl : j < s.size
                  · have hbj := cb_at hjl
                    by_cases h10 : cb s j = 10
                    · have hpj1 : p < j := by
                        rcases Nat.lt_or_ge p j with h | h
                        · exact h
                        · obtain rfl : p = j := by omega
                          have := H59.out; omega
                      have HNX := Lib.hid (at_cmt HAT.out hlt H59.out (by rw [HCS.out, HCM.out, cmt_here (.inr h10)]) hj)
                      rw [h10] at hbj
                      clear h10
                      go_wp2
                      go_roundw
                      case rel => exact ⟨j, k, rfl, by rw [HLJ.out], rfl, rfl, HNX.out, HB.out⟩
                      case measure => simp [intOf]; omega
                    · have HC1 := Lib.hid (col_same h10)
                      have HL1 : Hid (lnAt s (j + 1) = lnAt s p) := Lib.hid ((ln_same h10).1.trans HLJ.out)
                      have HCM1 : Hid (cmtF s p = cmtF s (j + 1)) := Lib.hid (HCM.out.trans (cmt_next hjl h10))
                      have e1 : ((cb s j : Int) != 10) = true := by rw [bne_iff_ne]; omega
                      clear h10
                      go_wp2
                      go_round
                      case rel => exact ⟨j + 1, by omega, by omega, by go_num, by rw [HC1.out]; go_num, HCM1.out, HL1.out⟩
                      case measure => simp [intOf]; omega
                  · obtain rfl : j = s.size := by omega
                    have HNX := Lib.hid (at_cmt HAT.out hlt H59.out (by rw [HCS.out, HCM.out, cmt_here (.inl rfl)]) hj)
                    go_wp2
                    go_roundw
                    case rel => exact ⟨s.size, k, rfl, by rw [HLJ.out], rfl, rfl, HNX.out, HB.out⟩
                    case measure => simp [intOf]; omega
              · have hyf : (y.l == (lnAt s p : Int)) = false := beq_eq_false_iff_ne.2 hyl
                clear hny hyl
                go_wp2
                go_loop [7, 9] (fun a cl => CmR s p a cl) (fun a _ => s.size - (intOf a).toNat)
                case atStart => exact ⟨p, Nat.le_refl _, by omega, rfl, rfl, rfl, rfl⟩
                case round =>
                  obtain ⟨j, hpj, hj, rfl, rfl, hcm, hlj⟩ := hrel
                  have HCM := Lib.hid hcm; have HLJ := Lib.hid hlj
                  have hcj := col_le s j
                  clear hcm hlj
                  by_cases hjl : j < s.size
                  · have hbj := cb_at hjl
                    by_cases h10 : cb s j = 10
                    · have hpj1 : p < j := by
                        rcases Nat.lt_or_ge p j with h | h
                        · exact h
                        · obtain rfl : p = j := by omega
                          have := H59.out; omega
                      have HNX := Lib.hid (at_cmt HAT.out hlt H59.out (by rw [HCS.out, HCM.out, cmt_here (.inr h10)]) hj)
                      rw [h10] at hbj
                      clear h10
                      go_wp2
                      go_roundw
                      case rel => exact ⟨j, k, rfl, by rw [HLJ.out], rfl, rfl, HNX.out, HB.out⟩
                      case measure => simp [intOf]; omega
                    · have HC1 := Lib.hid (col_same h10)
                      have HL1 : Hid (lnAt s (j + 1) = lnAt s p) := Lib.hid ((ln_same h10).1.trans HLJ.out)
                      have HCM1 : Hid (cmtF s p = cmtF s (j + 1)) := Lib.hid (HCM.out.trans (cmt_next hjl h10))
                      have e1 : ((cb s j : Int) != 10) = true := by rw [bne_iff_ne]; omega
                      clear h10
                      go_wp2
                      go_round
                      case rel => exact ⟨j + 1, by omega, by omega, by go_num, by rw [HC1.out]; go_num, HCM1.out, HL1.out⟩
                      case measure => simp [intOf]; omega
                  · obtain rfl : j = s.size := by omega
                    have HNX := Lib.hid (at_cmt HAT.out hlt H59.out (by rw [HCS.out, HCM.out, cmt_here (.inl rfl)]) hj)
                    go_wp2
                    go_roundw
                    case rel => exact ⟨s.size, k, rfl, by rw [HLJ.out], rfl, rfl, HNX.out, HB.out⟩
                    case measure => simp [intOf]; omega
            · go_wp2
              go_loop [7, 9] (fun a cl => CmR s p a cl) (fun a _ => s.size - (intOf a).toNat)
              case atStart => exact ⟨p, Nat.le_refl _, by omega, rfl, rfl, rfl, rfl⟩
              case round =>
                obtain ⟨j, hpj, hj, rfl, rfl, hcm, hlj⟩ := hrel
                have HCM := Lib.hid hcm; have HLJ := Lib.hid hlj
                have hcj := col_le s j
                clear hcm hlj
                by_cases hjl : j < s.size
                · have hbj := cb_at hjl
                  by_cases h10 : cb s j = 10
                  · have hpj1 : p < j := by
                      rcases Nat.lt_or_ge p j with h | h
                      · exact h
                      · obtain rfl : p = j := by omega
                        have := H59.out; omega
                    have HNX := Lib.hid (at_cmt HAT.out hlt H59.out (by rw [HCS.out, HCM.out, cmt_here (.inr h10)]) hj)
                    rw [h10] at hbj
                    clear h10
                    go_wp2
                    go_roundw
                    case rel => exact ⟨j, k, rfl, by rw [HLJ.out], rfl, rfl, HNX.out, HB.out⟩
                    case measure => simp [intOf]; omega
                  · have HC1 := Lib.hid (col_same h10)
                    have HL1 : Hid (lnAt s (j + 1) = lnAt s p) := Lib.hid ((ln_same h10).1.trans HLJ.out)
                    have HCM1 : Hid (cmtF s p = cmtF s (j + 1)) := Lib.hid (HCM.out.trans (cmt_next hjl h10))
                    have e1 : ((cb s j : Int) != 10) = true := by rw [bne_iff_ne]; omega
                    clear h10
                    go_wp2
                    go_round
                    case rel => exact ⟨j + 1, by omega, by omega, by go_num, by rw [HC1.out]; go_num, HCM1.out, HL1.out⟩
                    case measure => simp [intOf]; omega
                · obtain rfl : j = s.size := by omega
                  have HNX := Lib.hid (at_cmt HAT.out hlt H59.out (by rw [HCS.out, HCM.out, cmt_here (.inl rfl)]) hj)
                  go_wp2
                  go_roundw
                  case rel => exact ⟨s.size, k, rfl, by rw [HLJ.out], rfl, rfl, HNX.out, HB.out⟩
                  case measure => simp [intOf]; omega
          · obtain ⟨y, hy, hyl, hyc, hgy, hX0, hXp, hXn, hX5, hnl, hnx⟩ := at_token hs HAT.out hlt hb h59
            have HG1 := Lib.hid hgy; have HNL := Lib.hid hnl; have HNX := Lib.hid hnx
            have HG : Hid (Good y) := HG1
            have hkl := (List.getElem?_eq_some_iff.1 hy).1
            have hne : L ≠ [] := fun e => by rw [e] at hkl; simp at hkl
            obtain ⟨ao', cap', he, hc⟩ := HTK.out
            obtain ⟨bb, off, hbb, hblt, hcc⟩ := hc hne
            injection he with he1 he2 he3
            rw [hbb] at he1
            subst he1
            obtain ⟨a0, a1, a2, a3, a4⟩ := TkL.at hcc hy
            have WRT := Lib.hid (write_any y (good_tsize hgy) wr (HEX.out _ HB.out).1)
            unfold tkV at WRT
            rw [hyl] at a3 WRT
            rw [hyc] at a4 WRT
            clear hy hc hcc he2 he3 hne hgy hnl hnx hyl hyc hb h59 HG1
            go_wp2_with fail
            refine WRT.out.mono ?_
            rintro e w3 ⟨hb3, (⟨hg, rfl⟩ | ⟨hg, rfl⟩)⟩
            · have HB3 : Hid (Below w2.heap.size w2 w3) := Lib.hid (HB.out.trans (hb3.mono HB.out.size))
              have l0 := (hb3.cell (p := ⟨bb, off + k * 5, none⟩) hblt).trans a0
              clear hb3 hg a0 a1 a2 a3 a4 WRT
              generalize wrB y = X at *
              have z0 : ((X.size : Int) == 0) = false := beq_eq_false_iff_ne.2 (by omega)
              by_cases h5 : y.k = 5
              · obtain ⟨ex, hp2⟩ := hX5 h5
                rw [h5] at l0
                clear h5 hX5 hXn
                go_wp2
                go_loop [8, 9, 14] (fun ln cl i => TkR s p X ln cl i) (fun _ _ i => X.size - (intOf i).toNat)
                case atStart => exact ⟨0, Nat.zero_le _, rfl, rfl, rfl⟩
                case round =>
                  obtain ⟨i, hi, rfl, rfl, rfl⟩ := hrel
                  have hli := ln_le s (p + i); have hci := col_le s (p + i)
                  by_cases hil : i < X.size
                  · have hbi := cb_at hil
                    have hnl := HNL.out i hil
                    by_cases h10 : cb X i = 10
                    · have HL1 := Lib.hid (ln_nl (hnl.1 h10)).1
                      have HC1 := Lib.hid (col_nl (hnl.1 h10))
                      rw [h10] at hbi
                      clear h10 hnl
                      go_wp2
                      go_round
                      case rel => exact ⟨i + 1, by omega, by go_num, by show _ = Value.int .i64 ((lnAt s (p + i + 1) : Nat) : Int); rw [HL1.out]; go_num, by show _ = Value.int .i64 ((colAt s (p + i + 1) : Nat) : Int); rw [HC1.out]; rfl⟩
                      case measure => simp [intOf]; omega
                    · have h11 : cb s (p + i) ≠ 10 := fun e => h10 (hnl.2 e)
                      have HL1 := Lib.hid (ln_same h11).1
                      have HC1 := Lib.hid (col_same h11)
                      have e10 : ((cb X i : Int) == 10) = false := ne_i (k := 10) h10
                      clear h10 h11 hnl
                      go_wp2
                      go_round
                      case rel => exact ⟨i + 1, by omega, by go_num, by show _ = Value.int .i64 ((lnAt s (p + i + 1) : Nat) : Int); rw [HL1.out], by show _ = Value.int .i64 ((colAt s (p + i + 1) : Nat) : Int); rw [HC1.out]; go_num⟩
                      case measure => simp [intOf]; omega
                  · obtain rfl : i = X.size := by omega
                    go_wp2
                    go_roundw
                    case rel => exact ⟨p + X.size, k + 1, by go_num, rfl, rfl, by go_num, HNX.out, HB3.out⟩
                    case measure => simp [intOf]; omega
              · have ex := hXn h5
                have n5 : (y.k != 5) = true := bne_iff_ne.2 h5
                have n5' : (y.k == 5) = false := beq_eq_false_iff_ne.2 h5
                clear h5 hX5 hXn
                go_wp2
                go_loop [8, 9, 14] (fun ln cl i => TkR s p X ln cl i) (fun _ _ i => X.size - (intOf i).toNat)
                case atStart => exact ⟨0, Nat.zero_le _, rfl, rfl, rfl⟩
                case round =>
                  obtain ⟨i, hi, rfl, rfl, rfl⟩ := hrel
                  have hli := ln_le s (p + i); have hci := col_le s (p + i)
                  by_cases hil : i < X.size
                  · have hbi := cb_at hil
                    have hnl := HNL.out i hil
                    by_cases h10 : cb X i = 10
                    · have HL1 := Lib.hid (ln_nl (hnl.1 h10)).1
                      have HC1 := Lib.hid (col_nl (hnl.1 h10))
                      rw [h10] at hbi
                      clear h10 hnl
                      go_wp2
                      go_round
                      case rel => exact ⟨i + 1, by omega, by go_num, by show _ = Value.int .i64 ((lnAt s (p + i + 1) : Nat) : Int); rw [HL1.out]; go_num, by show _ = Value.int .i64 ((colAt s (p + i + 1) : Nat) : Int); rw [HC1.out]; rfl⟩
                      case measure => simp [intOf]; omega
                    · have h11 : cb s (p + i) ≠ 10 := fun e => h10 (hnl.2 e)
                      have HL1 := Lib.hid (ln_same h11).1
                      have HC1 := Lib.hid (col_same h11)
                      have e10 : ((cb X i : Int) == 10) = false := ne_i (k := 10) h10
                      clear h10 h11 hnl
                      go_wp2
                      go_round
                      case rel => exact ⟨i + 1, by omega, by go_num, by show _ = Value.int .i64 ((lnAt s (p + i + 1) : Nat) : Int); rw [HL1.out], by show _ = Value.int .i64 ((colAt s (p + i + 1) : Nat) : Int); rw [HC1.out]; go_num⟩
                      case measure => simp [intOf]; omega
                  · obtain rfl : i = X.size := by omega
                    go_wp2
                    go_roundw
                    case rel => exact ⟨p + X.size, k + 1, by go_num, rfl, rfl, by go_num, HNX.out, HB3.out⟩
                    case measure => simp [intOf]; omega
            · exact absurd HG.out hg
      · obtain rfl : p = s.size := by omega
        have hke := at_end HAT.out
        have ek : ((k : Int) == (L.length : Int)) = true := by rw [hke]; simp
        have HBW := Lib.hid (HEX.out _ HB.out).2.1
        clear hke
        go_wp2
        go_ret
        exact ⟨ret_b (by first | rfl | simp [ek] | exact ek), HBW.out⟩
  · have HB2 : Hid (Below w.heap.size w w2) := Lib.hid (HB1.out.trans (hb2.mono HB1.out.size))
    have hE0 : ((E : Int) != 0) = true := by rw [bne_iff_ne]; omega
    clear hb2 hbad hE
    go_wp2
    go_ret
    exact ⟨rfl, HB2.out⟩
end Go.Proofs.YtlgcmpiobglbbaaDoor
