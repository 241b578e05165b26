/- Package whole: takeQuotient. -/
import Derived.Test.YtfdilnfmcpbkgaaGreatDoorHB
set_option linter.unusedVariables false
set_option linter.unusedSimpArgs false
namespace Go.Proofs.YtfdilnfmcpbkgaaGreatDoor
open Go.RowKit Mth

theorem seg_all {xs : List Nat} {n : Nat} (h : xs.length = n) : seg xs 0 n = val B64 xs := by
  unfold seg
  rw [List.drop_zero, List.take_of_length_le (by omega)]

set_option maxHeartbeats 4000000 in
set_option maxRecDepth 100000 in
theorem wtakeQuotient_any (g off cap bb boff bcap n : Nat) (pre post : List Value) (xs ys : List Nat) (w : World) (hoff : pre.length = off) (hM : Mid w g pre xs post) (hS : Sl w .u64 (.slice (some ⟨g, off, none⟩) (n + 1) cap) xs) (lx : Lim B64 xs) (hb : Sl w .u64 (.slice (some ⟨bb, boff, none⟩) n bcap) ys) (ly : Lim B64 ys) (ty : Top ys) (hn : 0 < n) (hne : bb ≠ g) (ho : off ≤ 16777216) (hlt : val B64 xs < B64 * val B64 ys) :
    Calls Tryz.prog 110 #[.slice (some ⟨g, off, none⟩) (n + 1) cap, .slice (some ⟨bb, boff, none⟩) n bcap] w fun e w' => ∃ zs : List Nat, e = .returned (.int .u64 ((val B64 xs / val B64 ys : Nat) : Int)) ∧ Mid w' g pre zs post ∧ zs.length = n + 1 ∧ Lim B64 zs ∧ val B64 zs = val B64 xs % val B64 ys ∧ w.grownBy w' (some g) := by
  obtain ⟨px1, px2, px3, px4⟩ := hS.parts
  obtain ⟨py1, py2, py3, py4⟩ := hb.parts
  have hD0 : 0 < val B64 ys := Nat.pos_of_ne_zero (fun e => by rw [e] at hlt; omega)
  have GU := Lib.hid (wguess_any g off cap bb boff bcap n xs ys w hS hb lx ly ty hn hlt)
  have HM := Lib.hid hM; have LX := Lib.hid lx; have HB := Lib.hid hb; have LY := Lib.hid ly; have HO := Lib.hid hoff; have HP1 := Lib.hid px1; have HY1 := Lib.hid py1; have HD := Lib.hid hD0; have HNE := Lib.hid hne
  have SA := Lib.hid (seg_all px1)
  clear hM lx hb ly hoff hS px1 py1 hD0 hlt ty hne
  go_enter Tryz.func110, Tryz.ntmps110
  go_wp2_with fail
  refine GU.out.mono ?_
  rintro e w1 ⟨q, rfl, hq, hq1, hq2, hb1⟩
  have hM1 : Mid w1 g pre xs post := (hb1.block g HM.out.lt).trans HM.out
  have TT := wtakeTimes_any g off cap q pre post xs ys (.slice (some ⟨bb, boff, none⟩) n bcap) w1 HO.out hM1 LX.out (HB.out.below hb1) LY.out (by have := HNE.out; simpa [inBlock] using this) (by rw [HY1.out]; exact hn) (by rw [HP1.out, HY1.out]) (by rw [HP1.out]; exact px2) px3 (by omega) hq
  rw [HP1.out, HY1.out] at TT
  have TQ := Lib.hid TT
  have HB1 := Lib.hid hb1; have HQ := Lib.hid hq; have HQ1 := Lib.hid hq1; have HQ2 := Lib.hid hq2
  clear TT hb1 hM1 hq hq1 hq2
  go_wp2_with fail
  refine TQ.out.mono ?_
  rintro e w2 ⟨zs, c, rfl, hM2, hg2, hT⟩
  obtain ⟨pz, hpz⟩ : ∃ pz, pz = zs.getD n 0 := ⟨_, rfl⟩
  rw [← hpz]
  have HPZ := Lib.hid hpz
  clear hpz
  have hzl := hT.len
  rw [HP1.out] at hzl
  have FINE := Lib.hid (fun h => dig_fine (d := ys) hT HY1.out.symm (by rw [HP1.out]; omega) (by rw [SA.out]; exact HQ1.out) h HD.out)
  have OVQ := Lib.hid (fun h => dig_over_q (d := ys) hT HY1.out.symm (by rw [HP1.out]; omega) (by rw [SA.out]; exact HQ1.out) (by rw [SA.out]; exact HQ2.out) h)
  have OV := Lib.hid (fun R3 c3 h1 h2 h3 h4 => dig_over (R3 := R3) (c3 := c3) (d := ys) hT HY1.out.symm LY.out (by rw [HP1.out]; omega) h1 h2 h3 HD.out h4)
  simp only [Nat.zero_add, SA.out] at FINE OVQ OV
  have hpl := hT.lim n
  have hcl := hT.clt
  have HZL := Lib.hid hzl; have HG2 := Lib.hid (grown_trans' (grown_of_below HB1.out (some g)) hg2); have HM2 := Lib.hid hM2; have LZ := Lib.hid hT.lim
  have HS2 := Lib.hid ((HB.out.below HB1.out).grown hg2 (.inl (by have := HNE.out; simpa [inBlock] using this)))
  clear hT hzl hM2 hg2
  by_cases hov : zs.getD n 0 < c
  · have hd : decide (pz < c) = true := by rw [HPZ.out]; exact decide_eq_true hov
    have e3 : (if c ≤ zs.getD n 0 then zs.getD n 0 - c else zs.getD n 0 + B64 - c) = zs.getD n 0 + B64 - c := if_neg (by omega)
    rw [e3] at HM2
    have OQ := Lib.hid (OVQ.out hov)
    have OV2 := Lib.hid (fun R3 c3 => OV.out R3 c3 OQ.out.1 OQ.out.2 hov)
    have hw4 : IntKind.u64.wrap ((q : Int) - 1) = ((val B64 xs / val B64 ys : Nat) : Int) := by
      have h1 := OQ.out.1; have h2 := HQ.out
      generalize val B64 xs / val B64 ys = Q at h1 ⊢
      unfold B64 at h2
      rw [IntKind.wrap_u64]; omega
    have hlz : Lim B64 (zs.set n (zs.getD n 0 + B64 - c)) := lim_set LZ.out (by omega) n
    have hls : (zs.set n (zs.getD n 0 + B64 - c)).length = n + 1 := by rw [List.length_set, HZL.out]
    have AD := waddTo_any g off cap pre post (zs.set n (zs.getD n 0 + B64 - c)) ys (.slice (some ⟨bb, boff, none⟩) n bcap) w2 HO.out HM2.out hlz HS2.out LY.out (.inl (by have := HNE.out; simpa [inBlock] using this)) (by rw [hls, HY1.out]; omega) (by rw [hls]; exact px2) px3 (by rw [hls]; omega) (by omega)
    rw [hls] at AD
    have ADD := Lib.hid AD
    obtain ⟨Q, hQ⟩ : ∃ Q, Q = val B64 xs / val B64 ys := ⟨_, rfl⟩
    rw [← hQ] at hw4
    have HQQ := Lib.hid hQ
    clear hQ
    clear AD hov e3 hlz hls hpl hcl
    go_wp2_with fail
    refine ADD.out.mono ?_
    rintro e w3 ⟨us, c3, rfl, hM3, hg3, hP3⟩
    have DT := OV2.out us c3 hP3
    have hul : us.length = n + 1 := by rw [DT.len, HP1.out]
    have hue := DT.eq
    rw [seg_all hul, SA.out] at hue
    have HM3 := Lib.hid hM3; have HG3 := Lib.hid (grown_trans' HG2.out hg3); have HUL := Lib.hid hul; have HUE := Lib.hid hue; have LU := Lib.hid DT.lim
    clear hM3 hg3 hP3 DT hul hue
    go_wp2
    go_ret
    exact ⟨us, by rw [← HQQ.out]; rfl, HM3.out, HUL.out, LU.out, HUE.out, HG3.out⟩
  · have hd : decide (pz < c) = false := by rw [HPZ.out]; exact decide_eq_false hov
    have e3 : (if c ≤ zs.getD n 0 then zs.getD n 0 - c else zs.getD n 0 + B64 - c) = zs.getD n 0 - c := if_pos (by omega)
    rw [e3] at HM2
    have FN := FINE.out (by omega)
    have DT := FN.2
    have hul : (zs.set n (zs.getD n 0 - c)).length = n + 1 := by rw [List.length_set, HZL.out]
    have hue := DT.eq
    rw [seg_all hul, SA.out] at hue
    have HUL := Lib.hid hul; have HUE := Lib.hid hue; have LU := Lib.hid DT.lim; have HFQ := Lib.hid FN.1
    clear hov e3 FN DT hul hue hpl hcl
    go_wp2
    go_ret
    exact ⟨_, by rw [← HFQ.out]; rfl, HM2.out, HUL.out, LU.out, HUE.out, HG2.out⟩
end Go.Proofs.YtfdilnfmcpbkgaaGreatDoor
