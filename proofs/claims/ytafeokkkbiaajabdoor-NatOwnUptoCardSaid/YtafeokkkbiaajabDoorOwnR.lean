/- tribunalref01: To, Add: where the result lies. -/
import Derived.Test.YtafeokkkbiaajabDoorAddH
import Derived.RegionTactic
import Derived.BigRegion
namespace Go.Proofs.YtafeokkkbiaajabDoor
open Go.RowKit Mth

/-- the limbs lie in memory from the block base on, if anywhere -/
def Lies (base : Nat) (v : Value) : Prop := ∀ b, inBlock v = some b → base ≤ b
theorem lies_own {w : World} {base e n : Nat} {v : Value} {xs : List Value} (h : w.ownsRow base e 1 v n xs) : Lies base v := by
  intro b hb
  rcases h.2 with ⟨rfl, _⟩ | ⟨g, cap, cur, rfl, h1, _⟩
  · simp [inBlock] at hb
  · simp [inBlock] at hb; omega
theorem lies_nil (base : Nat) : Lies base (.slice none 0 0) := fun b hb => by simp [inBlock] at hb
theorem Lies.mono {base base' : Nat} {v : Value} (h : Lies base v) (hb : base' ≤ base) : Lies base' v := fun b e => Nat.le_trans hb (h b e)
set_option maxHeartbeats 2000000 in
set_option maxRecDepth 100000 in
theorem to_lies (hv : Value) (hs : List Nat) (w : World) (hsl : Sl w .u32 hv hs) (hl : Lim B16 hs) :
    Calls Tryd.prog 54 #[hv] w fun e w' => ∃ v', e = .returned v' ∧ Num w' v' (val B16 hs) ∧ Lies w.heap.size v' ∧ Below w.heap.size w w' := by
  have HSL := Lib.hid hsl; have HL := Lib.hid hl
  clear hsl hl
  go_enter Tryd.func54, Tryd.ntmps54
  go_wp2_with fail
  refine (rtrim_any HSL.out).mono ?_
  rintro e w' ⟨v', rfl, hs', rfl⟩
  have HT := Lib.hid (hnum_trim hs' HL.out)
  have hlim := lim_trimL HL.out
  have htop := top_trimL hs
  have hv0 : val B16 (trimL hs) = val B16 hs := val_trimL _ _
  generalize trimL hs = ts at *
  have HTL := Lib.hid hlim; have HTT := Lib.hid htop; have HV := Lib.hid hv0
  clear hlim htop hv0
  have hs2 := hs'
  obtain ⟨ao, cap0, rfl, h1, h2, h3, h4, h5⟩ := hs2
  have H5 := Lib.hid h5; have HS' := Lib.hid hs'
  unfold maxLen at h2
  clear h4 h5 hs'
  go_wp2
  go_loopw [3, 4] (fun v i wr => ToO w wr ts v i) (fun _ i _ => ts.length - (intOf i).toNat)
  case atStart => exact ⟨0, [], Nat.zero_le _, rfl, packed_zero ts, World.ownsRow_nil _ _ _ _, Below.refl _ _, .inl ⟨rfl, rfl⟩⟩
  case round =>
    obtain ⟨k, ys, hk, rfl, hp, hown, hbel, hcase⟩ := hrel
    by_cases hlt : k < ts.length
    · obtain ⟨b, off, rfl, hblt, hc⟩ := H5.out (by omega)
      have hck : wr.cell? ⟨b, off + k, none⟩ = some (.int .u32 ((ts.getD k 0 : Nat) : Int)) := (hbel.cell (p := ⟨b, off + k, none⟩) hblt).trans (hc k hlt)
      generalize hx : ts.getD k 0 = x at hck
      have HX := Lib.hid hx
      obtain ⟨q, r, hkq, hr⟩ : ∃ q r, k = 4 * q + r ∧ r < 4 := ⟨k / 4, k % 4, by omega, by omega⟩
      have hq : (k : Int) / 4 = (q : Int) := by omega
      have hyl := hp.len
      have HP := Lib.hid hp; have HO := Lib.hid hown; have HB := Lib.hid hbel
      clear hc hx hp hown hbel
      by_cases hr0 : r = 0
      · subst hr0
        have hmod : (k : Int) % 4 = 0 := by omega
        have hyq : ys.length = q := by omega
        have HKQ := Lib.hid hkq; have HYQ := Lib.hid hyq; have HYL := Lib.hid hyl
        have hyb : ys.length ≤ 16777216 := by omega
        have hqb : q ≤ 16777216 := by omega
        clear hkq hyq hyl hcase
        go_wp2_with (refine append_nat_at (o := ⟨some 18, _, _, _, _, _⟩) rfl _ _ rfl w.heap.size _ ys 0 ⟨wr.heap.size, 0, none⟩ rfl rfl (HO.out.alloc _) (World.cell?_alloc_new _ _ _ _) hyb (by have := HB.out.size; simp; omega) ?_; intro g cap1 w1 hown1 hg1 hc1 hc2)
        have hcg : w1.cell? ⟨g, q, none⟩ = some (.int .u64 0) := by
          rw [hown1.cellAt q (by rw [List.length_append, HYQ.out]; simp), cellsOf_get _ _ _ (by rw [List.length_append, HYQ.out]; simp), getD_append_zero, getD_ge ys q (by rw [HYQ.out]; omega)]
          rfl
        have hfg : w1.frozen? ⟨g, q, none⟩ = false := hown1.frozenAt q
        have HB1 := Lib.hid (below_own (HB.out.alloc HB.out.size _) (HO.out.alloc _) hg1 (by have := HB.out.size; simp; omega))
        have hck1 : w1.cell? ⟨b, off + k, none⟩ = some (.int .u32 ((x : Nat) : Int)) := by
          rw [HB1.out.cell (p := ⟨b, off + k, none⟩) hblt, ← HB.out.cell (p := ⟨b, off + k, none⟩) hblt]; exact hck
        have hql : q < ys.length + 1 := by have := HYQ.out; omega
        have HO1 := Lib.hid hown1
        clear hown1 hg1 hck
        go_region
        go_wp2
        go_roundw
        case rel =>
          have hx16 : x < 65536 := by rw [← HX.out]; exact HTL.out k
          rw [or_zero x hx16]
          have hst := HO1.out.stored q (.int .u64 ((x : Nat) : Int))
          rw [cellsOf_set] at hst
          have hpk := packed_new HP.out hlt (by have := HKQ.out; omega)
          rw [HX.out] at hpk
          have hls : ((ys ++ [0]).set q x).length = ys.length + 1 := by simp
          refine ⟨k + 1, _, by omega, by go_num, hpk, ?_, ?_, .inr ⟨g, cap1, ?_, by rw [hls]; simpa using hc1, hc2⟩⟩
          · rw [hls]
            have := hst.1.drew
            simpa using this
          · exact (below_own HB1.out HO1.out hst.2 HB1.out.size).drew
          · rw [hls]
        case measure => simp [intOf]; omega
      · have hmod : (k : Int) % 4 = (r : Int) := by omega
        have hyq : ys.length = q + 1 := by omega
        obtain ⟨g, cap1, rfl, hc1, hc2⟩ : ∃ g cap, u3 = .slice (some ⟨g, 0, none⟩) ys.length cap ∧ ys.length ≤ cap ∧ cap ≤ maxLen := by
          rcases hcase with ⟨h0, _⟩ | h0
          · omega
          · exact h0
        clear hcase
        have HKQ := Lib.hid hkq; have HYQ := Lib.hid hyq; have HYL := Lib.hid hyl
        have hyb : ys.length ≤ 16777216 := by omega
        have hqb : q ≤ 16777216 := by omega
        have hcg : wr.cell? ⟨g, q, none⟩ = some (.int .u64 ((ys.getD q 0 : Nat) : Int)) := by
          rw [HO.out.cellAt q (by omega), cellsOf_get _ _ _ (by omega)]
        have hfg : wr.frozen? ⟨g, q, none⟩ = false := HO.out.frozenAt q
        have hgl := grp_lt HTL.out hkq hr hk
        rw [← HP.out.eq] at hgl
        generalize he : ys.getD q 0 = y at *
        have HE := Lib.hid he; have HGL := Lib.hid hgl
        have hql : q < ys.length := by omega
        have hd : ((r : Int) == 0) = false := by simp; omega
        clear hkq hyq hyl he hgl
        unfold maxLen at hc2
        have : r = 1 ∨ r = 2 ∨ r = 3 := by omega
        rcases this with rfl | rfl | rfl
        · go_wp2
          go_region
          go_wp2
          go_roundw
          case rel =>
            have hx16 : x < 65536 := by rw [← HX.out]; exact HTL.out k
            rw [or1 y x HGL.out hx16]
            have hst := HO.out.stored q (.int .u64 ((y + B16 ^ 1 * x : Nat) : Int))
            rw [cellsOf_set] at hst
            have hpk := packed_old HP.out hlt HKQ.out (by omega) (by omega)
            rw [HX.out, HE.out] at hpk
            have hls : (ys.set q (y + B16 ^ 1 * x)).length = ys.length := by simp
            refine ⟨k + 1, _, by omega, by go_num, hpk, ?_, ?_, .inr ⟨g, cap1, ?_, by rw [hls]; exact hc1, by unfold maxLen; exact hc2⟩⟩
            · rw [hls]
              exact hst.1.drew
            · exact (below_own HB.out HO.out hst.2 HB.out.size).drew
            · rw [hls]
          case measure => simp [intOf]; omega
        · go_wp2
          go_region
          go_wp2
          go_roundw
          case rel =>
            have hx16 : x < 65536 := by rw [← HX.out]; exact HTL.out k
            rw [or2 y x HGL.out hx16]
            have hst := HO.out.stored q (.int .u64 ((y + B16 ^ 2 * x : Nat) : Int))
            rw [cellsOf_set] at hst
            have hpk := packed_old HP.out hlt HKQ.out (by omega) (by omega)
            rw [HX.out, HE.out] at hpk
            have hls : (ys.set q (y + B16 ^ 2 * x)).length = ys.length := by simp
            refine ⟨k + 1, _, by omega, by go_num, hpk, ?_, ?_, .inr ⟨g, cap1, ?_, by rw [hls]; exact hc1, by unfold maxLen; exact hc2⟩⟩
            · rw [hls]
              exact hst.1.drew
            · exact (below_own HB.out HO.out hst.2 HB.out.size).drew
            · rw [hls]
          case measure => simp [intOf]; omega
        · go_wp2
          go_region
          go_wp2
          go_roundw
          case rel =>
            have hx16 : x < 65536 := by rw [← HX.out]; exact HTL.out k
            rw [or3 y x HGL.out hx16]
            have hst := HO.out.stored q (.int .u64 ((y + B16 ^ 3 * x : Nat) : Int))
            rw [cellsOf_set] at hst
            have hpk := packed_old HP.out hlt HKQ.out (by omega) (by omega)
            rw [HX.out, HE.out] at hpk
            have hls : (ys.set q (y + B16 ^ 3 * x)).length = ys.length := by simp
            refine ⟨k + 1, _, by omega, by go_num, hpk, ?_, ?_, .inr ⟨g, cap1, ?_, by rw [hls]; exact hc1, by unfold maxLen; exact hc2⟩⟩
            · rw [hls]
              exact hst.1.drew
            · exact (below_own HB.out HO.out hst.2 HB.out.size).drew
            · rw [hls]
          case measure => simp [intOf]; omega
    · have hkl : k = ts.length := by omega
      rw [hkl] at hp
      have hys : ys.length ≤ 16777216 := by have := hp.len; omega
      have HN : Hid (Num wr _ (val B16 hs)) := Lib.hid ⟨ys, sl_own hown hys, packed_lim hp HTL.out, packed_top hp HTT.out, by rw [packed_end hp, HV.out]⟩
      have HB := Lib.hid hbel; have FO := Lib.hid (lies_own hown)
      clear hp hown hbel hcase hkl hys
      go_wp2
      go_ret
      exact ⟨_, rfl, HN.out, FO.out, HB.out⟩

theorem to_lies_num (v : Value) (n : Nat) (w : World) (h : HNum w v n) : Calls Tryd.prog 54 #[v] w fun e w' => ∃ v', e = .returned v' ∧ Num w' v' n ∧ Lies w.heap.size v' ∧ Below w.heap.size w w' := by
  obtain ⟨hs, h1, h2, h3, rfl⟩ := h
  exact to_lies v hs w h1 h2

set_option maxHeartbeats 2000000 in
set_option maxRecDepth 100000 in
theorem result_lies (v : Value) (n : Nat) (w : World) (h : HNum w v n) :
    Calls Tryd.prog 37 #[v] w fun e w' => ∃ v', e = .returned (.tuple #[v', .int .i64 (cutE n)]) ∧ Num w' v' (cutN n) ∧ Lies w.heap.size v' ∧ Below w.heap.size w w' := by
  have HH := Lib.hid h; clear h
  by_cases hb : Big ≤ n
  · have hd : decide (Big ≤ n) = true := decide_eq_true hb
    have C := Lib.hid (cut_big hb)
    clear hb
    go_enter Tryd.func37, Tryd.ntmps37
    go_wp2_with fail
    refine (hlong_any _ _ _ HH.out).mono ?_
    rintro e w' ⟨rfl, rfl⟩
    go_wp2
    go_ret2
    exact ⟨_, by rw [C.out.2]; rfl, by rw [C.out.1]; exact num_nil _, lies_nil _, Below.refl _ _⟩
  · have hd : decide (Big ≤ n) = false := decide_eq_false hb
    have C := Lib.hid (cut_small (Nat.lt_of_not_le hb))
    clear hb
    go_enter Tryd.func37, Tryd.ntmps37
    go_wp2_with fail
    refine (hlong_any _ _ _ HH.out).mono ?_
    rintro e w' ⟨rfl, rfl⟩
    go_wp2_with fail
    refine (to_lies_num _ _ _ HH.out).mono ?_
    rintro e w1 ⟨v1, rfl, hn1, hf1, hb1⟩
    have HF1 := Lib.hid hf1
    have HN := Lib.hid hn1; have HB := Lib.hid hb1
    clear hn1 hb1 hf1
    go_wp2
    go_ret2
    exact ⟨_, by rw [C.out.2]; rfl, by rw [C.out.1]; exact HN.out, HF1.out, HB.out⟩

set_option maxHeartbeats 2000000 in
set_option maxRecDepth 100000 in
theorem radd_lies (v : Value) (xss : List (List Nat)) (w : World) (h : NatList w v xss) (hl : ∀ j, Lim B64 (xss.getD j [])) (hn : ∀ j, (xss.getD j []).length ≤ 4000000) :
    Calls Tryd.prog 15 #[v] w fun e w' => ∃ v', e = .returned (.tuple #[v', .int .i64 (addE xss)]) ∧ Num w' v' (addN xss) ∧ Lies w.heap.size v' ∧ Below w.heap.size w w' := by
  have hlen := h.len
  have LG := Lib.hid (long_any v xss w h hl hn)
  obtain ⟨ao, cap, rfl, h1, h2, h3, h4, h5⟩ := h
  have H5 := Lib.hid h5; have HL := Lib.hid hl; have HN := Lib.hid hn
  unfold maxLen at h2
  clear h3 h4 h5 hl hn
  go_enter Tryd.func15, Tryd.ntmps15
  go_wp2_with fail
  refine LG.out.mono ?_
  rintro e w1 ⟨rfl, hb1⟩
  have B1 := Lib.hid hb1; clear hb1
  by_cases hlong : longB xss xss.length = true
  · have E := Lib.hid (add_long hlong)
    rw [hlong]
    clear hlong
    go_wp2
    go_ret2
    exact ⟨_, by rw [E.out.2]; rfl, by rw [E.out.1]; exact num_nil _, lies_nil _, B1.out⟩
  · have hlf : longB xss xss.length = false := by simpa using hlong
    have E := Lib.hid (add_fine hlf)
    have NL := Lib.hid (not_long hlf (Nat.le_refl _))
    rw [hlf]
    clear hlong hlf
    go_wp2
    go_loopw [4, 5] (fun v i wr => RAddO w wr xss v i) (fun _ i _ => xss.length - (intOf i).toNat)
    case atStart => exact ⟨0, Nat.zero_le _, rfl, hnum_nil _, B1.out⟩
    case round =>
      obtain ⟨k, hk, rfl, hs, hbel⟩ := hrel
      have HB := Lib.hid hbel
      by_cases hlt : k < xss.length
      · obtain ⟨b, off, rfl, hblt, hc⟩ := H5.out (by omega)
        obtain ⟨u, hu, hsu⟩ := hc k hlt
        have hur : wr.cell? ⟨b, off + k, none⟩ = some u := (hbel.cell (p := ⟨b, off + k, none⟩) hblt).trans hu
        obtain ⟨a0, c0, rfl⟩ := hsu.shape
        have HF := Lib.hid (from_any _ _ wr (hsu.below hbel) (HL.out k) (HN.out k))
        have HSU := Lib.hid (sumL_take_succ hlt)
        have HB1 : Hid (sumL (xss.take k) < B16 ^ hugeP) := Lib.hid (Nat.lt_of_le_of_lt (sumL_le k (by omega) (fun j hj => Nat.le_of_lt (NL.out j (by omega)))) (pow_big k (by omega)))
        have HB2 : Hid (val B64 (xss.getD k []) < B16 ^ hugeP) := Lib.hid (Nat.lt_of_lt_of_le (NL.out k hlt) (by have := pow_big 1 (by omega); omega))
        have HS := Lib.hid hs
        clear hc hu hsu hs hbel
        generalize xss.getD k [] = xx at *
        generalize val B64 xx = n at *
        generalize sumL (xss.take k) = s at *
        go_wp2_with fail
        refine HF.out.mono ?_
        rintro e w2 ⟨v2, rfl, hn2, hb2⟩
        have HN2 := Lib.hid hn2; have HB2' := Lib.hid (below_step HB.out hb2); have HS2 := Lib.hid (HS.out.below hb2)
        clear hn2 hb2
        go_wp2_with fail
        refine (addH_any _ _ _ _ hugeP _ HS2.out HN2.out HB1.out HB2.out hugeP_le).mono ?_
        rintro e w3 ⟨v3, rfl, hn3, hb3⟩
        have HN3 := Lib.hid hn3; have HB3 := Lib.hid (below_step HB2'.out hb3)
        clear hn3 hb3
        go_wp2
        go_roundw
        case rel => exact ⟨k + 1, by omega, by go_num, by rw [HSU.out]; exact HN3.out, HB3.out⟩
        case measure => simp [intOf]; omega
      · have e : xss.take k = xss := List.take_of_length_le (by omega)
        rw [e] at hs
        have HS := Lib.hid hs
        clear hs hbel e
        go_wp2_with fail
        refine (result_lies _ _ _ HS.out).mono ?_
        rintro e w6 ⟨v6, rfl, hn6, hf6, hb6⟩
        have F6 := Lib.hid (hf6.mono HB.out.size); have B6 := Lib.hid (below_step HB.out hb6); have N6 := Lib.hid hn6; clear hn6 hb6 hf6
        go_wp2
        go_ret2
        exact ⟨_, by rw [E.out.2]; rfl, by rw [E.out.1]; exact N6.out, F6.out, B6.out⟩
end Go.Proofs.YtafeokkkbiaajabDoor
