/- lexis's reference: Join. -/
import Derived.Test.YtlgcmpiobglbbaaDoorNK
import Derived.Test.YtlgcmpiobglbbaaDoorKE
set_option linter.unusedVariables false
set_option linter.unusedSimpArgs false
namespace Go.Proofs.YtlgcmpiobglbbaaDoor
open Go.RowKit Mth

def RjR (w wr : World) (L : List Tk) (o g i : Value) : Prop := ∃ (k : Nat) (D : List UInt8) (b : Bool) (S : ByteArray), k ≤ L.length ∧ i = .int .i64 (k : Int) ∧ o = .string S ∧ S = ⟨D.toArray⟩ ∧ g = .bool b ∧ Below w.heap.size w wr ∧ S.size ≤ 1048576 ∧
  (∀ (j : Nat) (x : Tk), j < k → L[j]? = some x → Good x) ∧ (b = false → D = catL none (L.take k)) ∧ (b = true → 1048576 < (catL none (L.take k)).length)
theorem sz_add (S T : ByteArray) : (S ++ T).size = S.size + T.size := ByteArray.size_append
set_option maxHeartbeats 4000000 in
set_option maxRecDepth 100000 in
theorem rjoin_any (L : List Tk) (v : Value) (w : World) (hv : TkL w v L) (hlen : L.length ≤ 1048576) (ht : ∀ x ∈ L, x.t.size ≤ 1048576) : Calls Tryd.prog 22 #[v] w fun e w' => JoinO w w' L e := by
  have HTL := Lib.hid hv
  obtain ⟨ao, cap, rfl, hc⟩ := hv
  have HT := Lib.hid ht
  clear hc ht
  go_enter Tryd.func22, Tryd.ntmps22
  go_wp2
  go_loopw [4, 5, 6] (fun o g i wr => RjR w wr L o g i) (fun _ _ i _ => L.length - (intOf i).toNat)
  case atStart => exact ⟨0, [], false, ⟨#[]⟩, Nat.zero_le _, rfl, rfl, rfl, rfl, Below.refl _ _, by decide, fun j x hj => by omega, fun _ => rfl, fun h => by cases h⟩
  case round =>
    obtain ⟨k, D, b, S, hk, rfl, rfl, hS, rfl, hbel, hSl, hgd, hb0, hb1⟩ := hrel
    have HBEL := Lib.hid hbel; have HGD := Lib.hid hgd; have HS := Lib.hid hS; have HB0 := Lib.hid hb0; have HB1 := Lib.hid hb1
    clear hbel hgd hS hb0 hb1
    by_cases hlt : k < L.length
    · have hx : L[k]? = some L[k] := List.getElem?_eq_getElem hlt
      have hxm : L[k] ∈ L := List.getElem_mem hlt
      have HTK := Lib.hid (HTL.out.below HBEL.out)
      have hne : L ≠ [] := fun e => by rw [e] at hlt; simp at hlt
      obtain ⟨ao', cap', he, hc⟩ := HTK.out
      obtain ⟨bb, off, hb, hblt, hcc⟩ := hc hne
      injection he with he1 he2 he3
      rw [hb] at he1
      subst he1
      obtain ⟨a0, a1, a2, a3, a4⟩ := TkL.at hcc hx
      have HX := Lib.hid hx
      have hxt := HT.out _ hxm
      generalize L[k] = x at *
      have HCN := Lib.hid (cat_next HX.out)
      have WRT := Lib.hid (rwrite_any x hxt wr)
      clear hx hxm hc hcc he2 he3 hxt
      unfold tkV at WRT
      go_wp2_with fail
      refine WRT.out.mono ?_
      rintro e w1 ⟨hb1, (⟨hg, rfl⟩ | ⟨hg, rfl⟩)⟩
      · have HW1 : Hid (Below w.heap.size w w1) := Lib.hid (HBEL.out.trans (hb1.mono HBEL.out.size))
        have HGS : Hid (∀ (j : Nat) (y : Tk), j < k + 1 → L[j]? = some y → Good y) := Lib.hid (fun j y hj hy => by
          by_cases e : j = k
          · subst e; have := HX.out.symm.trans hy; obtain rfl := Option.some.inj this; exact hg
          · exact HGD.out j y (by omega) hy)
        have hwr : (wrB x).size ≤ 1048576 := by rw [← wrT_len]; exact good_wr hg
        have HWB : Hid (wrB x = ⟨(wrT x).toArray⟩) := Lib.hid rfl
        have l0 := (hb1.cell (p := ⟨bb, off + k * 5, none⟩) hblt).trans a0
        have HMONO : Hid (1048576 < (catL none (L.take k)).length → 1048576 < (catL none (L.take (k + 1))).length) := Lib.hid (fun h => by have := cat_mono (L := L) 1 k; omega)
        generalize wrB x = X at *
        by_cases hk0 : k = 0
        · have HSEP : Hid (sepL (lastK none (L.take k)) x.k = []) := Lib.hid (by rw [hk0]; rfl)
          have HNW : Hid (b = false → S ++ X = ⟨(catL none (L.take (k + 1))).toArray⟩) := Lib.hid (fun h => by
            rw [HCN.out, ← HB0.out h, HSEP.out, List.nil_append, HS.out, HWB.out, str_cat])
          have HLN : Hid (b = false → (catL none (L.take (k + 1))).length = S.size + X.size) := Lib.hid (fun h => by
            rw [← sz_add, HNW.out h, size_list])
          clear hb1 hg
          subst hk0
          rcases Bool.eq_false_or_eq_true b with h | h
          · subst h
            have HX1 := Lib.hid (HMONO.out (HB1.out rfl))
            clear HB0 HB1 HNW HLN HMONO
            go_wp2
            go_roundw
            case rel => exact ⟨0 + 1, D, true, S, by omega, by go_num, rfl, HS.out, rfl, HW1.out, hSl, HGS.out, (fun h => by cases h), fun _ => HX1.out⟩
            case measure => simp [intOf]; omega
          · subst h
            have HN1 := Lib.hid (HNW.out rfl)
            have HL1 := Lib.hid (HLN.out rfl)
            clear HB0 HB1 HNW HLN HMONO
            by_cases hz : 1048576 < S.size + X.size
            · have hdz : decide ((1048576 : Int) - (X.size : Nat) < (S.size : Int)) = true := decide_eq_true (by omega)
              go_wp2
              go_roundw
              case rel => exact ⟨0 + 1, D, true, S, by omega, by go_num, rfl, HS.out, by first | rfl | (simp; done) | (simp; omega), HW1.out, hSl, HGS.out, (fun h => by cases h), fun _ => by rw [HL1.out]; exact hz⟩
              case measure => simp [intOf]; omega
            · have hdz : decide ((1048576 : Int) - (X.size : Nat) < (S.size : Int)) = false := decide_eq_false (by omega)
              go_wp2
              go_roundw
              case rel => exact ⟨0 + 1, _, false, S ++ X, by omega, by go_num, rfl, HN1.out, by first | rfl | (simp; done) | (simp; omega), HW1.out, by rw [sz_add]; omega, HGS.out, (fun _ => rfl), fun h => by cases h⟩
              case measure => simp [intOf]; omega
        · obtain ⟨j, hj⟩ : ∃ j, k = j + 1 := ⟨k - 1, by omega⟩
          have hjl : j < L.length := by omega
          have hy : L[j]? = some L[j] := List.getElem?_eq_getElem hjl
          have HLAST : Hid (lastK none (L.take k) = some (L[j]).k) := Lib.hid (by rw [hj]; exact last_next hy)
          obtain ⟨ao2, cap2, he2, hc2⟩ := HTL.out
          obtain ⟨b2, off2, hb2, hblt2, hcc2⟩ := hc2 hne
          injection he2 with he4 he5 he6
          rw [hb2] at he4
          have he7 := Option.some.inj he4
          injection he7 with he8 he9
          subst he8 he9
          obtain ⟨y0, _⟩ := TkL.at hcc2 hy
          have y0' := (HW1.out.cell (p := ⟨bb, off + j * 5, none⟩) hblt2).trans y0
          generalize L[j] = y at *
          clear hb1 hg hcc2 hc2 he4 hb2 he5 he6 y0 hy hk0
          subst hj
          have HSX : Hid ((⟨#[32]⟩ : ByteArray) = ⟨([32] : List UInt8).toArray⟩) := Lib.hid rfl
          by_cases hsep : y.k ≠ 1 ∧ x.k ≠ 2
          · have HSEP : Hid (sepL (lastK none (L.take (j + 1))) x.k = [32]) := Lib.hid (by rw [HLAST.out]; unfold sepL; exact if_pos hsep)
            have HNW : Hid (b = false → S ++ ((⟨#[32]⟩ : ByteArray) ++ X) = ⟨(catL none (L.take (j + 1 + 1))).toArray⟩) := Lib.hid (fun h => by
              rw [HCN.out, ← HB0.out h, HSEP.out, HS.out, HWB.out, HSX.out, str_cat, str_cat])
            obtain ⟨m, hz1, hm⟩ : ∃ m : Nat, ((⟨#[32]⟩ : ByteArray) ++ X).size = m ∧ m ≤ 1048577 := ⟨_, rfl, by rw [sz_add]; show 1 + X.size ≤ _; omega⟩
            have HLN : Hid (b = false → (catL none (L.take (j + 1 + 1))).length = S.size + m) := Lib.hid (fun h => by
              rw [← hz1, ← sz_add, HNW.out h, size_list])
            obtain ⟨e1, e2⟩ := hsep
            have ey : (y.k != 1) = true := bne_iff_ne.2 e1
            have ex : (x.k != 2) = true := bne_iff_ne.2 e2
            clear e1 e2
            rcases Bool.eq_false_or_eq_true b with h | h
            · subst h
              have HX1 := Lib.hid (HMONO.out (HB1.out rfl))
              clear HB0 HB1 HNW HLN HMONO
              go_wp2
              go_roundw
              case rel => exact ⟨j + 1 + 1, D, true, S, by omega, by go_num, rfl, HS.out, rfl, HW1.out, hSl, HGS.out, (fun h => by cases h), fun _ => HX1.out⟩
              case measure => simp [intOf]; omega
            · subst h
              have HN1 := Lib.hid (HNW.out rfl)
              have HL1 := Lib.hid (HLN.out rfl)
              clear HB0 HB1 HNW HLN HMONO
              by_cases hz : 1048576 < S.size + m
              · have hdz : decide ((1048576 : Int) - (m : Nat) < (S.size : Int)) = true := decide_eq_true (by omega)
                go_wp2
                go_roundw
                case rel => exact ⟨j + 1 + 1, D, true, S, by omega, by go_num, rfl, HS.out, by first | rfl | (simp; done) | (simp; omega), HW1.out, hSl, HGS.out, (fun h => by cases h), fun _ => by rw [HL1.out]; exact hz⟩
                case measure => simp [intOf]; omega
              · have hdz : decide ((1048576 : Int) - (m : Nat) < (S.size : Int)) = false := decide_eq_false (by omega)
                go_wp2
                go_roundw
                case rel => exact ⟨j + 1 + 1, _, false, S ++ ((⟨#[32]⟩ : ByteArray) ++ X), by omega, by go_num, rfl, HN1.out, by first | rfl | (simp; done) | (simp; omega), HW1.out, by rw [sz_add]; omega, HGS.out, (fun _ => rfl), fun h => by cases h⟩
                case measure => simp [intOf]; omega
          · have HSEP : Hid (sepL (lastK none (L.take (j + 1))) x.k = []) := Lib.hid (by rw [HLAST.out]; unfold sepL; exact if_neg hsep)
            have HNW : Hid (b = false → S ++ X = ⟨(catL none (L.take (j + 1 + 1))).toArray⟩) := Lib.hid (fun h => by
              rw [HCN.out, ← HB0.out h, HSEP.out, List.nil_append, HS.out, HWB.out, str_cat])
            have HLN : Hid (b = false → (catL none (L.take (j + 1 + 1))).length = S.size + X.size) := Lib.hid (fun h => by
              rw [← sz_add, HNW.out h, size_list])
            have hor : ((y.k != 1) = false) ∨ ((y.k != 1) = true ∧ (x.k != 2) = false) := by
              by_cases e : y.k = 1
              · exact .inl (by rw [e]; rfl)
              · refine .inr ⟨bne_iff_ne.2 e, ?_⟩
                by_cases e2 : x.k = 2
                · rw [e2]; rfl
                · exact absurd ⟨e, e2⟩ hsep
            clear hsep
            rcases hor with ey | ⟨ey, ex⟩
            all_goals (
              rcases Bool.eq_false_or_eq_true b with h | h
              · subst h
                have HX1 := Lib.hid (HMONO.out (HB1.out rfl))
                clear HB0 HB1 HNW HLN HMONO
                go_wp2
                go_roundw
                case rel => exact ⟨j + 1 + 1, D, true, S, by omega, by go_num, rfl, HS.out, rfl, HW1.out, hSl, HGS.out, (fun h => by cases h), fun _ => HX1.out⟩
                case measure => simp [intOf]; omega
              · subst h
                have HN1 := Lib.hid (HNW.out rfl)
                have HL1 := Lib.hid (HLN.out rfl)
                clear HB0 HB1 HNW HLN HMONO
                by_cases hz : 1048576 < S.size + X.size
                · have hdz : decide ((1048576 : Int) - (X.size : Nat) < (S.size : Int)) = true := decide_eq_true (by omega)
                  go_wp2
                  go_roundw
                  case rel => exact ⟨j + 1 + 1, D, true, S, by omega, by go_num, rfl, HS.out, by first | rfl | (simp; done) | (simp; omega), HW1.out, hSl, HGS.out, (fun h => by cases h), fun _ => by rw [HL1.out]; exact hz⟩
                  case measure => simp [intOf]; omega
                · have hdz : decide ((1048576 : Int) - (X.size : Nat) < (S.size : Int)) = false := decide_eq_false (by omega)
                  go_wp2
                  go_roundw
                  case rel => exact ⟨j + 1 + 1, _, false, S ++ X, by omega, by go_num, rfl, HN1.out, by first | rfl | (simp; done) | (simp; omega), HW1.out, by rw [sz_add]; omega, HGS.out, (fun _ => rfl), fun h => by cases h⟩
                  case measure => simp [intOf]; omega)
      · have HN : Hid (¬ ∀ y ∈ L, Good y) := Lib.hid (fun h => hg (h x (List.mem_of_getElem? HX.out)))
        have HW1 : Hid (Below w.heap.size w w1) := Lib.hid (HBEL.out.trans (hb1.mono HBEL.out.size))
        clear hb1 hg
        go_wp2
        go_ret2
        exact ⟨HW1.out, .inr (.inr ⟨HN.out, rfl⟩)⟩
    · obtain rfl : k = L.length := by omega
      have HGA := Lib.hid (good_all HGD.out)
      have HTA : Hid (L.take L.length = L) := Lib.hid (List.take_length ..)
      rcases Bool.eq_false_or_eq_true b with h | h
      · subst h
        have HD2 : Hid (1048576 < (catL none L).length) := Lib.hid (by have := HB1.out rfl; rwa [HTA.out] at this)
        clear HB0 HB1
        go_wp2
        go_ret2
        exact ⟨HBEL.out, .inr (.inl ⟨HGA.out, HD2.out, rfl⟩)⟩
      · subst h
        have HD2 : Hid (D = catL none L) := Lib.hid (by have := HB0.out rfl; rwa [HTA.out] at this)
        have hsz : D.length ≤ 1048576 := by rw [HS.out, size_list] at hSl; exact hSl
        clear HB0 HB1
        go_wp2
        go_ret2
        exact ⟨HBEL.out, .inl ⟨HGA.out, by rw [← HD2.out]; exact hsz, by rw [← HD2.out, ← HS.out]; rfl⟩⟩
end Go.Proofs.YtlgcmpiobglbbaaDoor
