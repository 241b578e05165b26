/- LexisBlanks: the walk. -/
import Derived.Test.YtlgcmpiobglbbaaDoorKR
set_option linter.unusedVariables false
set_option linter.unusedSimpArgs false
namespace Go.Proofs.YtlgcmpiobglbbaaDoor
open Go.RowKit Mth

def BlR (w2 wr : World) (L : List Tk) (S : List ByteArray) (tv iv : Value) : Prop := ∃ (k : Nat) (T : ByteArray), k ≤ L.length ∧ iv = .int .i64 (k : Int) ∧ tv = .string T ∧ T = ⟨(blL (L.take k) S).toArray⟩ ∧ T.size ≤ k * 2097160 ∧ (∀ (j : Nat) (t : ByteArray), j < k → S[j]? = some t → noNl t) ∧ Below w2.heap.size w2 wr
def NlR (t : ByteArray) (i : Value) : Prop := ∃ j : Nat, j ≤ t.size ∧ i = .int .i64 (j : Int) ∧ ∀ n, n < j → cb t n ≠ 10
theorem size_add (S T : ByteArray) : (S ++ T).size = S.size + T.size := ByteArray.size_append
set_option maxHeartbeats 4000000 in
set_option maxRecDepth 100000 in
theorem blanks_walk (w : World) (v u : Value) (L : List Tk) (S : List ByteArray) (hv : TkL w v L) (hu : StL w u S) (hlen : L.length ≤ 1048576) (ht : ∀ x ∈ L, x.t.size ≤ 1048576) (hSl : S.length ≤ 1048576) (hSt : ∀ x ∈ S, x.size ≤ 1048576) (hL : LexW w) :
    Calls Tryd.prog 9 #[v, u] w fun e w' => e = .returned (.bool true) ∧ Below w.heap.size w w' := by
  have HL := Lib.hid hL
  have HTKw := Lib.hid hv
  have HSTw := Lib.hid hu
  have HT := Lib.hid ht
  have HSZ := Lib.hid hSt
  have AW := Lib.hid (awake_any w hL)
  clear hL hv ht hSt
  obtain ⟨aS, capS, rfl, _⟩ := hu
  go_enter Tryd.func9, Tryd.ntmps9
  go_wp2_with fail
  refine AW.out.mono ?_
  rintro e w1 ⟨rfl, hb⟩
  have HB1 := Lib.hid hb
  have JN := Lib.hid (join_any L v w1 (HL.out.below hb) (HTKw.out.below hb) hlen HT.out)
  clear hb
  go_wp2_with fail
  refine JN.out.mono ?_
  rintro e w2 ⟨hb2, hjo⟩
  have HB2 : Hid (Below w.heap.size w w2) := Lib.hid (HB1.out.trans (hb2.mono HB1.out.size))
  clear hb2
  have HTK2 := Lib.hid (HTKw.out.below HB2.out)
  have HST2 := Lib.hid (HSTw.out.below HB2.out)
  obtain ⟨aL, capL, rfl, _⟩ := HTKw.out
  rcases hjo with ⟨hg, hz, rfl⟩ | ⟨hg, hz, rfl⟩ | ⟨hg, rfl⟩
  · have HG := Lib.hid hg
    have HZ := Lib.hid hz
    have HEX : Hid (∀ W, Below w2.heap.size w2 W → LexW W ∧ Below w.heap.size w W ∧ TkL W (.slice aL L.length capL) L ∧ StL W (.slice aS S.length capS) S) := Lib.hid (fun W hW => ⟨HL.out.below (HB2.out.trans (hW.mono HB2.out.size)), HB2.out.trans (hW.mono HB2.out.size), HTK2.out.below hW, HST2.out.below hW⟩)
    clear hg hz
    go_wp2
    go_loopw [7, 8] (fun tv iv wr => BlR w2 wr L S tv iv) (fun _ iv _ => L.length - (intOf iv).toNat)
    case atStart => exact ⟨0, ⟨#[]⟩, Nat.zero_le _, rfl, rfl, rfl, by decide, fun j t hj => by omega, Below.refl _ _⟩
    case round =>
      obtain ⟨k, T, hk, rfl, rfl, hT, hTs, hno, hbel⟩ := hrel
      have HTE := Lib.hid hT; have HNO := Lib.hid hno; have HB := Lib.hid hbel
      clear hT hno hbel
      by_cases hlt : k < L.length
      · have hx : L[k]? = some L[k] := List.getElem?_eq_getElem hlt
        have hxm : L[k] ∈ L := List.getElem_mem hlt
        have hne : L ≠ [] := fun e => by rw [e] at hlt; simp at hlt
        obtain ⟨ao', cap', he, hc⟩ := (HEX.out _ HB.out).2.2.1
        obtain ⟨bb, off, hbb, hblt, hcc⟩ := hc hne
        injection he with he1 he2 he3
        rw [hbb] at he1
        subst he1
        obtain ⟨a0, a1, a2, a3, a4⟩ := TkL.at hcc hx
        have HGX := Lib.hid (HG.out _ hxm)
        have HBN := Lib.hid (bl_next (S := S) hx)
        have WRT := Lib.hid (write_any L[k] (HT.out _ hxm) wr (HEX.out _ HB.out).1)
        generalize L[k] = x at *
        unfold tkV at WRT
        clear hx hxm hc hcc he2 he3 hne
        go_wp2_with fail
        refine WRT.out.mono ?_
        rintro e w3 ⟨hb3, (⟨hg, rfl⟩ | ⟨hg, rfl⟩)⟩
        · have HB3 : Hid (Below w2.heap.size w2 w3) := Lib.hid (HB.out.trans (hb3.mono HB.out.size))
          have hwr : (wrB x).size ≤ 1048576 := by rw [← wrT_len]; exact good_wr hg
          have HX : Hid (wrB x = ⟨(wrT x).toArray⟩) := Lib.hid rfl
          clear hb3 hg a0 a1 a2 a3 a4 WRT
          generalize wrB x = X at *
          have z1 : (T ++ ⟨#[32, 9]⟩).size = T.size + 2 := size_add _ _
          have z2 : (T ++ ⟨#[32, 9]⟩ ++ X).size = T.size + 2 + X.size := by rw [size_add, z1]
          have z3 : (T ++ ⟨#[32, 9]⟩ ++ X ++ ⟨#[13, 10]⟩).size = T.size + 2 + X.size + 2 := by rw [size_add, z2]; rfl
          by_cases hks : k < S.length
          · have hs : S[k]? = some S[k] := List.getElem?_eq_getElem hks
            have hsz := HSZ.out _ (List.getElem_mem hks)
            have hneS : S ≠ [] := fun e => by rw [e] at hks; simp at hks
            obtain ⟨aS', capS', heS, hcS⟩ := (HEX.out _ HB3.out).2.2.2
            obtain ⟨bS, offS, hbS, hbltS, hccS⟩ := hcS hneS
            injection heS with heS1 heS2 heS3
            rw [hbS] at heS1
            subst heS1
            have cS := hccS k _ hs
            have HS := Lib.hid hs
            generalize S[k] = s at *
            have HCAT := Lib.hid (bl_cat (t := s) HTE.out HX.out).2
            have z4 : (T ++ ⟨#[32, 9]⟩ ++ X ++ ⟨#[13, 10]⟩ ++ ⟨#[59]⟩).size = T.size + 2 + X.size + 2 + 1 := by rw [size_add, z3]; rfl
            have z5 : (T ++ ⟨#[32, 9]⟩ ++ X ++ ⟨#[13, 10]⟩ ++ ⟨#[59]⟩ ++ s).size = T.size + 2 + X.size + 2 + 1 + s.size := by rw [size_add, z4]
            have z6 : (T ++ ⟨#[32, 9]⟩ ++ X ++ ⟨#[13, 10]⟩ ++ ⟨#[59]⟩ ++ s ++ ⟨#[10]⟩).size = T.size + 2 + X.size + 2 + 1 + s.size + 1 := by rw [size_add, z5]; rfl
            clear hs hneS hcS hccS heS2 heS3
            go_wp2
            go_loop [11] (fun i => NlR s i) (fun i => s.size - (intOf i).toNat)
            case atStart => exact ⟨0, Nat.zero_le _, rfl, fun n hn => by omega⟩
            case round =>
              obtain ⟨j, hj, rfl, hnl⟩ := hrel
              have HNL := Lib.hid hnl
              clear hnl
              by_cases hjl : j < s.size
              · have hbj := cb_at hjl
                by_cases h10 : cb s j = 10
                · rw [h10] at hbj
                  clear h10
                  go_wp2
                  go_ret
                  exact ⟨rfl, (HEX.out _ HB3.out).2.1⟩
                · have HN2 : Hid (∀ n, n < j + 1 → cb s n ≠ 10) := Lib.hid (fun n hn => by
                    by_cases e : n = j
                    · subst e; exact h10
                    · exact HNL.out n (by omega))
                  have e10 : ((cb s j : Int) == 10) = false := ne_i (k := 10) h10
                  clear h10
                  go_wp2
                  go_round
                  case rel => exact ⟨j + 1, by omega, by go_num, HN2.out⟩
                  case measure => simp [intOf]; omega
              · obtain rfl : j = s.size := by omega
                have HNS := Lib.hid (noNl_of HNL.out)
                have HN2 : Hid (∀ (j : Nat) (t : ByteArray), j < k + 1 → S[j]? = some t → noNl t) := Lib.hid (fun j t hj ht => by
                  by_cases e : j = k
                  · subst e; have := HS.out.symm.trans ht; obtain rfl := Option.some.inj this; exact HNS.out
                  · exact HNO.out j t (by omega) ht)
                go_wp2
                go_roundw
                case rel => exact ⟨k + 1, _, by omega, by go_num, rfl, by rw [HCAT.out, HBN.out, HS.out], by rw [z6]; omega, HN2.out, HB3.out⟩
                case measure => simp [intOf]; omega
          · have HSN : Hid (S[k]? = none) := Lib.hid (List.getElem?_eq_none (by omega))
            have HCAT := Lib.hid (bl_cat (t := ⟨#[]⟩) HTE.out HX.out).1
            have HN2 : Hid (∀ (j : Nat) (t : ByteArray), j < k + 1 → S[j]? = some t → noNl t) := Lib.hid (fun j t hj ht => by
              by_cases e : j = k
              · subst e; rw [HSN.out] at ht; cases ht
              · exact HNO.out j t (by omega) ht)
            go_wp2
            go_roundw
            case rel => exact ⟨k + 1, _, by omega, by go_num, rfl, by rw [HCAT.out, HBN.out, HSN.out], by rw [z3]; omega, HN2.out, HB3.out⟩
            case measure => simp [intOf]; omega
        · exact absurd HGX.out hg
      · obtain rfl : k = L.length := by omega
        have HTA : Hid (L.take L.length = L) := Lib.hid (List.take_length ..)
        have HTF : Hid (T = ⟨(blL L S).toArray⟩) := Lib.hid (by have := HTE.out; rwa [HTA.out] at this)
        have HSB := Lib.hid (scan_bl HG.out HNO.out)
        have HBW := Lib.hid (HEX.out _ HB.out)
        by_cases hTz : T.size ≤ 1048576
        · have SC := Lib.hid (scan_any ⟨(catL none L).toArray⟩ (by rw [size_list]; exact HZ.out) wr HBW.out.1)
          go_wp2_with fail
          refine SC.out.mono ?_
          rintro e w4 ⟨hb4, (⟨M, vM, hMs, rfl, htk4, hfar4⟩ | ⟨E, x0, y0, hbad, hE, rfl⟩)⟩
          · have HB4 : Hid (Below w2.heap.size w2 w4) := Lib.hid (HB.out.trans (hb4.mono HB.out.size))
            have SC2 := Lib.hid (scan_any T hTz w4 (HEX.out _ HB4.out).1)
            have HMS := Lib.hid hMs
            have HTM := Lib.hid htk4
            have hMl : M.length ≤ 1048576 := by have := scan_len hMs; rw [size_list] at this; have := HZ.out; omega
            clear hb4 htk4 hfar4 hMs
            go_wp2_with fail
            refine SC2.out.mono ?_
            rintro e w5 ⟨hb5, (⟨N, vN, hNs, rfl, htk5, hfar5⟩ | ⟨E, x0, y0, hbad, hE, rfl⟩)⟩
            · have HB5 : Hid (Below w.heap.size w w5) := Lib.hid (HEX.out _ (HB4.out.trans (hb5.mono HB4.out.size))).2.1
              have hsame : SameL false M N := by
                obtain ⟨M', N', h1, h2, h3⟩ := HSB.out
                rw [HMS.out] at h1
                rw [HTF.out, h2] at hNs
                injection h1 with e1
                injection hNs with e2
                subst e1 e2
                exact h3
              have SM := Lib.hid (same_any M N vM vN false w5 (HTM.out.below hb5) htk5 hsame hMl)
              clear hb5 htk5 hfar5 hNs hsame
              go_wp2_with (go_at_call 13; refine SM.out.mono ?_; rintro e w6 ⟨rfl, hw6⟩; have HW6 := Lib.hid hw6; clear hw6)
              go_ret
              exact ⟨rfl, below_ex HB5.out HW6.out⟩
            · exfalso
              obtain ⟨M', N', h1, h2, h3⟩ := HSB.out
              rw [HTF.out, h2] at hbad
              cases hbad
          · exfalso
            obtain ⟨M', N', h1, h2, h3⟩ := HSB.out
            rw [h1] at hbad
            cases hbad
        · go_wp2
          go_ret
          exact ⟨rfl, HBW.out.2.1⟩
  all_goals (
    clear hg
    go_wp2
    go_loopw [8] (fun iv wr => iv = .int .i64 0 ∧ wr = w2) (fun _ _ => 0)
    case atStart => exact ⟨rfl, rfl⟩
    case round =>
      obtain ⟨rfl, rfl⟩ := hrel
      go_wp2
      all_goals (
        go_ret
        exact ⟨rfl, HB2.out⟩))
end Go.Proofs.YtlgcmpiobglbbaaDoor
