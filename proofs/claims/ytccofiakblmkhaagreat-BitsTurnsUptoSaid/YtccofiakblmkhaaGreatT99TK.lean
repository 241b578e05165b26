/- BitsTurns: the walk (gen9w.py). -/
import Derived.Test.YtccofiakblmkhaaGreatT9NT9
import Derived.Test.YtccofiakblmkhaaGreatT9N5
import Derived.Test.YtccofiakblmkhaaGreatT99M
set_option linter.unusedVariables false
set_option linter.unusedSimpArgs false
namespace Go.Proofs.YtccofiakblmkhaaGreat
open Go.RowKit Mth

set_option maxHeartbeats 32000000 in
set_option maxRecDepth 100000 in
theorem turns_twoE (wd m c p : Nat) (h1 : 1 ≤ wd) (h2 : wd ≤ 4096) (hm : m < 2 ^ wd) (v : Value) (xs : List Nat) (hxs : val B64 xs = m) (cut k : Int) (w : World) (s0 : BvA w v (wd : Int) xs)
    (hc : c < wd) (hc1 : 1 ≤ c) (hcut : (cut < 1 ∨ (wd : Int) ≤ cut) ∧ (c : Int) = (wd : Int).tdiv 2 ∨ ¬ (cut < 1 ∨ (wd : Int) ≤ cut) ∧ (c : Int) = cut) (hp : p ≤ 4096) (hf : ¬ (wd : Int) + (p : Int) ≤ 4096) (hkp : (k < 0 ∨ 4096 < k) ∧ (p : Int) = 3 ∨ ¬ (k < 0 ∨ 4096 < k) ∧ (p : Int) = k) :
    Calls Tryz.prog 9 #[v, .int .i64 cut, .int .i64 k] w fun e w' => e = .returned (.bool true) ∧ Below w.heap.size w w' := by
  obtain ⟨u, rfl, t1, t2, t3⟩ := s0
  obtain ⟨a0, c0, rfl⟩ := t1.shape
  have VF : Hid (BvA w (.agg #[.int .i64 (wd : Int), .slice a0 xs.length c0]) (wd : Int) xs) := Lib.hid ⟨_, rfl, t1, t2, t3⟩
  generalize hk0 : xs.length = k0 at *
  clear t1 t2 t3 hk0
  obtain ⟨q, hq⟩ : ∃ q, p % wd = q := ⟨_, rfl⟩
  have hql : q ≤ wd := by have := Nat.mod_lt p (show 0 < wd by omega); omega
  have RT : Hid (∀ w1, BvA w1 (.agg #[.int .i64 (wd : Int), .slice a0 k0 c0]) (wd : Int) xs → Calls Tryz.prog 22 #[.agg #[.int .i64 (wd : Int), .slice a0 k0 c0]] w1 fun e w' => e = .returned (.bool true) ∧ Below w1.heap.size w1 w') := Lib.hid (fun w1 hv => by
    have h := hv.right
    rw [right_fine h1 h2 (by rw [hxs]; exact hm)] at h
    exact h)
  have UN : Hid (∀ w1, BvA w1 (.agg #[.int .i64 (wd : Int), .slice a0 k0 c0]) (wd : Int) xs → Calls Tryz.prog 16 #[.agg #[.int .i64 (wd : Int), .slice a0 k0 c0]] w1 fun e w' => ResI w1 w' e (m : Int) 0) := Lib.hid (fun w1 hv => by
    have h := uns_good _ wd xs h1 h2 (by rw [hxs]; exact hm) w1 hv
    rw [hxs] at h
    exact h)
  have SI : Hid (∀ w1, BvA w1 (.agg #[.int .i64 (wd : Int), .slice a0 k0 c0]) (wd : Int) xs → Calls Tryz.prog 18 #[.agg #[.int .i64 (wd : Int), .slice a0 k0 c0]] w1 fun e w' => ResI w1 w' e (sgV wd m) 0) := Lib.hid (fun w1 hv => by
    have h := sig_good _ wd xs h1 h2 (by rw [hxs]; exact hm) w1 hv
    rw [hxs] at h
    exact h)
  have FR : Hid (∀ va w1, IntV w1 va (m : Int) → Calls Tryz.prog 14 #[.int .i64 (wd : Int), va] w1 fun e w' => ResBE w1 w' e wd m) := Lib.hid (fun va w1 hv => (fromK wd h1 h2 va (m : Int) w1 hv).mono fun e w' h => to_wd h rfl (vec_small hm))
  obtain ⟨l, hl⟩ : ∃ l, vecN wd ((rotZ wd m q : Nat) : Int) = l := ⟨_, rfl⟩
  have hll : l < 2 ^ wd := by rw [← hl]; exact vec_lt _ _
  have RL : Hid (∀ pv av w1, PaL w1 pv [(p : Int)] → BvL w1 av [(wd, m)] → Calls Tryz.prog 25 #[.int .i64 66, pv, av] w1 fun e w' => ResBE w1 w' e wd l) := Lib.hid (fun pv av w1 g1 g2 => (apply_rotl pv av wd m p q hq h1 h2 hm hp w1 g1 g2).mono fun e w' h => to_wd h rfl hl)
  have RR : Hid (∀ pv av w1, PaL w1 pv [(p : Int)] → BvL w1 av [(wd, l)] → Calls Tryz.prog 25 #[.int .i64 67, pv, av] w1 fun e w' => ResBE w1 w' e wd m) := Lib.hid (fun pv av w1 g1 g2 => (apply_rotr pv av wd l p q hq h1 h2 hll hp w1 g1 g2).mono fun e w' h => to_wd h rfl (by rw [← hl]; exact rot_back hql hm))
  obtain ⟨whi, hwhi⟩ : ∃ x, wd - 1 - c + 1 = x := ⟨_, rfl⟩
  obtain ⟨wlo, hwlo⟩ : ∃ x, c - 1 - 0 + 1 = x := ⟨_, rfl⟩
  obtain ⟨nh, hnh⟩ : ∃ x, vecN (wd - 1 - c + 1) ((m / 2 ^ c : Nat) : Int) = x := ⟨_, rfl⟩
  obtain ⟨nl, hnl⟩ : ∃ x, vecN (c - 1 - 0 + 1) ((m / 2 ^ 0 : Nat) : Int) = x := ⟨_, rfl⟩
  have hcat := cat_back (wd := wd) (m := m) (c := c) (by omega) hc1 hc hm
  rw [hnh, hnl, hwhi, hwlo] at hcat
  have lh : nh < 2 ^ whi := by rw [← hnh, ← hwhi]; exact vec_lt _ _
  have ll : nl < 2 ^ wlo := by rw [← hnl, ← hwlo]; exact vec_lt _ _
  have EH : Hid (∀ pv av w1, PaL w1 pv [(wd : Int) - 1, (c : Int)] → BvL w1 av [(wd, m)] → Calls Tryz.prog 25 #[.int .i64 42, pv, av] w1 fun e w' => ResBE w1 w' e whi nh) := Lib.hid (fun pv av w1 g1 g2 => (apply_extract pv av wd m (wd - 1) c h1 h2 hm (by omega) (by omega) w1 (by rw [show ((wd - 1 : Nat) : Int) = (wd : Int) - 1 by omega]; exact g1) g2).mono fun e w' h => to_wd h hwhi hnh)
  have EL : Hid (∀ pv av w1, PaL w1 pv [(c : Int) - 1, 0] → BvL w1 av [(wd, m)] → Calls Tryz.prog 25 #[.int .i64 42, pv, av] w1 fun e w' => ResBE w1 w' e wlo nl) := Lib.hid (fun pv av w1 g1 g2 => (apply_extract pv av wd m (c - 1) 0 h1 h2 hm (by omega) (by omega) w1 (by rw [show ((c - 1 : Nat) : Int) = (c : Int) - 1 by omega]; exact g1) g2).mono fun e w' h => to_wd h hwlo hnl)
  have CC : Hid (∀ av w1, BvL w1 av [(whi, nh), (wlo, nl)] → Calls Tryz.prog 25 #[.int .i64 41, .slice none 0 0, av] w1 fun e w' => ResBE w1 w' e wd m) := Lib.hid (fun av w1 g2 => (apply_concat (.slice none 0 0) av whi wlo nh nl (by omega) (by omega) (by omega) lh ll w1 ⟨_, _, _, rfl⟩ g2).mono fun e w' h => to_wd h (by omega) hcat)
  have hwr1 : IntKind.i64.wrap ((wd : Int) - 1) = (wd : Int) - 1 := IntWalk.i64_in _ (by omega)
  have hwr2 : IntKind.i64.wrap ((c : Int) - 1) = (c : Int) - 1 := IntWalk.i64_in _ (by omega)
  clear hcat lh ll hnh hnl hwhi hwlo
  have SX : Hid (∀ (_ : (wd : Int) + (p : Int) ≤ 4096) pv av w1, PaL w1 pv [(p : Int)] → BvL w1 av [(wd, m)] → Calls Tryz.prog 25 #[.int .i64 65, pv, av] w1 fun e w' => ResBE w1 w' e (wd + p) (vecN (wd + p) (sgV wd m))) := Lib.hid (fun hf pv av w1 g1 g2 => apply_sext pv av wd m p h1 h2 hm (by omega) w1 g1 g2)
  have ZX : Hid (∀ (_ : (wd : Int) + (p : Int) ≤ 4096) pv av w1, PaL w1 pv [(p : Int)] → BvL w1 av [(wd, m)] → Calls Tryz.prog 25 #[.int .i64 64, pv, av] w1 fun e w' => ResBE w1 w' e (wd + p) m) := Lib.hid (fun hf pv av w1 g1 g2 => (apply_zext pv av wd m p h1 h2 hm (by omega) w1 g1 g2).mono fun e w' h => to_wd h rfl (vec_small (Nat.lt_of_lt_of_le hm (Nat.pow_le_pow_right (by omega) (by omega)))))
  have SXE : Hid (∀ (_ : ¬ (wd : Int) + (p : Int) ≤ 4096) pv av w1, PaL w1 pv [(p : Int)] → BvL w1 av [(wd, m)] → Calls Tryz.prog 25 #[.int .i64 65, pv, av] w1 fun e w' => e = .returned (.tuple #[.agg #[.int .i64 0, .slice none 0 0], .int .i64 55]) ∧ Below w1.heap.size w1 w') := Lib.hid (fun hf pv av w1 g1 g2 => apply_sextE pv av wd m p h1 h2 hm hp (by omega) w1 g1 g2)
  have ZXE : Hid (∀ (_ : ¬ (wd : Int) + (p : Int) ≤ 4096) pv av w1, PaL w1 pv [(p : Int)] → BvL w1 av [(wd, m)] → Calls Tryz.prog 25 #[.int .i64 64, pv, av] w1 fun e w' => e = .returned (.tuple #[.agg #[.int .i64 0, .slice none 0 0], .int .i64 55]) ∧ Below w1.heap.size w1 w') := Lib.hid (fun hf pv av w1 g1 g2 => apply_zextE pv av wd m p h1 h2 hm hp (by omega) w1 g1 g2)
  have SK : Hid (∀ (_ : (wd : Int) + (p : Int) ≤ 4096) a k c w1, BvK w1 (wd + p) a k c (vecN (wd + p) (sgV wd m)) → Calls Tryz.prog 18 #[.agg #[.int .i64 ((wd : Int) + (p : Int)), .slice a k c]] w1 fun e w' => ResI w1 w' e (sgV wd m) 0) := Lib.hid (fun hf a k c w1 h => by
    have h := sigK (by omega) (by omega) h
    rw [sext_back h1 hm, show ((wd + p : Nat) : Int) = (wd : Int) + (p : Int) by omega] at h
    exact h)
  have UK : Hid (∀ (_ : (wd : Int) + (p : Int) ≤ 4096) a k c w1, BvK w1 (wd + p) a k c m → Calls Tryz.prog 16 #[.agg #[.int .i64 ((wd : Int) + (p : Int)), .slice a k c]] w1 fun e w' => ResI w1 w' e (m : Int) 0) := Lib.hid (fun hf a k c w1 h => by
    have h := unsK (by omega) (by omega) h
    rw [show ((wd + p : Nat) : Int) = (wd : Int) + (p : Int) by omega] at h
    exact h)
  have hwd1 : (1 : Int) ≤ (wd : Int) := by omega
  have hwd2 : (wd : Int) ≤ 4096 := by omega
  have hpp : (p : Int) ≤ 4096 := by omega
  have hcc : (c : Int) < (wd : Int) := by omega
  have hc2 : (1 : Int) ≤ (c : Int) := by omega
  have HXS := Lib.hid hxs; have HCUT := Lib.hid hcut; have HKP := Lib.hid hkp; have HC1 := Lib.hid hc1
  clear hq hql hl hll hm hxs hcut hkp hc1
  have FB_1 := Lib.hid (Below.refl w.heap.size w)
  obtain ⟨V2, eV2, gV, bV, hV2⟩ := alloc1n w (Obj.cells #[.int .i64 (wd : Int), .slice a0 k0 c0] 28)
  have FK_3 := Lib.hid (VF.out.below bV)
  have FB_4 := Lib.hid (below_of FB_1.out bV)
  clear VF FB_1
  have EV2 := Lib.hid eV2
  clear eV2
  have FG_5 := Lib.hid gV
  clear gV bV
  obtain ⟨p6, q6, -, -, -⟩ := blk2 FG_5.out
  go_enter Tryz.func9, Tryz.ntmps9
  go_wp2_with fail
  try rw [EV2.out]
  refine (RT.out _ FK_3.out).mono ?_
  rintro e w7 ⟨rfl, hb⟩
  clear p6 q6
  have FK_8 := Lib.hid (FK_3.out.below hb)
  have FB_9 := Lib.hid (below_of FB_4.out hb)
  have FG_10 := Lib.hid (car hb FG_5.out)
  clear FK_3 FB_4 FG_5
  clear hb
  obtain ⟨p11, q11, -, -, -⟩ := blk2 FG_10.out
  go_wp2_with fail
  refine (UN.out _ FK_8.out).mono ?_
  rintro e w12 ⟨n12, a12, k12, c12, rfl, hk, hb⟩
  clear p11 q11
  have FK_13 := Lib.hid (FK_8.out.below hb)
  have FB_14 := Lib.hid (below_of FB_9.out hb)
  have FG_15 := Lib.hid (car hb FG_10.out)
  clear FK_8 FB_9 FG_10
  clear hb
  have FK_16 := Lib.hid hk
  clear hk
  obtain ⟨V17, eV17, gV, bV, hV17⟩ := alloc1n w12 (Obj.cells #[.bool n12, .slice a12 k12 c12] 26)
  have FK_18 := Lib.hid (FK_13.out.below bV)
  have FB_19 := Lib.hid (below_of FB_14.out bV)
  have FG_20 := Lib.hid (car bV FG_15.out)
  have FK_21 := Lib.hid (FK_16.out.below bV)
  clear FK_13 FB_14 FG_15 FK_16
  have EV17 := Lib.hid eV17
  clear eV17
  have FG_22 := Lib.hid gV
  clear gV bV
  go_upto_region 4 with fail
  try rw [EV17.out]
  obtain ⟨p23, q23, -, -, -⟩ := blk2 FG_20.out
  obtain ⟨p24, q24, -, -, -⟩ := blk2 FG_22.out
  go_wp2_with fail
  refine (FR.out _ _ FK_21.out).mono ?_
  rintro e w25 ⟨a25, k25, c25, rfl, hk, hb⟩
  clear p23 q23 p24 q24
  have FK_26 := Lib.hid (FK_18.out.below hb)
  have FB_27 := Lib.hid (below_of FB_19.out hb)
  have FG_28 := Lib.hid (car hb FG_20.out)
  have FK_29 := Lib.hid (FK_21.out.below hb)
  have FG_30 := Lib.hid (car hb FG_22.out)
  clear FK_18 FB_19 FG_20 FK_21 FG_22
  clear hb
  have FK_31 := Lib.hid hk
  clear hk
  obtain ⟨V32, eV32, gV, bV, hV32⟩ := alloc1n w25 (Obj.cells #[.int .i64 (wd : Int), .slice a25 k25 c25] 28)
  have FK_33 := Lib.hid (FK_26.out.below bV)
  have FB_34 := Lib.hid (below_of FB_27.out bV)
  have FG_35 := Lib.hid (car bV FG_28.out)
  have FK_36 := Lib.hid (FK_29.out.below bV)
  have FG_37 := Lib.hid (car bV FG_30.out)
  have FK_38 := Lib.hid (FK_31.out.below bV)
  clear FK_26 FB_27 FG_28 FK_29 FG_30 FK_31
  have EV32 := Lib.hid eV32
  clear eV32
  have FG_39 := Lib.hid gV
  clear gV bV
  go_upto_region 5 with fail
  try rw [EV32.out]
  go_upto_region 7 with fail
  obtain ⟨p40, q40, -, -, -⟩ := blk2 FG_35.out
  go_cut [60] (fun s wx => .bool (decide (cut < 1 ∨ (wd : Int) ≤ cut)) = s ∧ V32 = wx)
  case first =>
    by_cases z1 : cut < 1
    · have Z := Lib.hid (decide_eq_true (p := cut < 1 ∨ (wd : Int) ≤ cut) (Or.inl z1)); go_wp2; go_meet; exact ⟨congrArg Value.bool Z.out, rfl⟩
    · by_cases z2 : (wd : Int) ≤ cut
      · have Z := Lib.hid (decide_eq_true (p := cut < 1 ∨ (wd : Int) ≤ cut) (Or.inr z2)); go_wp2; go_meet; exact ⟨congrArg Value.bool Z.out, rfl⟩
      · have Z := Lib.hid (decide_eq_false (p := cut < 1 ∨ (wd : Int) ≤ cut) (fun z => z.elim z1 z2)); go_wp2; go_meet; exact ⟨congrArg Value.bool Z.out, rfl⟩
  case rest =>
    obtain ⟨rfl, rfl⟩ := hcut
    go_upto_if 60 with fail
    go_cut [1] (fun s wx => .int .i64 (c : Int) = s ∧ V32 = wx)
    case first =>
      rcases HCUT.out with ⟨z, z2⟩ | ⟨z, z2⟩
      · rw [decide_eq_true z]; have Z := Lib.hid z2; clear z z2; go_wp2_with fail; go_meet; exact ⟨congrArg (Value.int .i64) Z.out, rfl⟩
      · rw [decide_eq_false z]; have Z := Lib.hid z2; clear z z2; go_wp2_with fail; go_meet; exact ⟨congrArg (Value.int .i64) Z.out, rfl⟩
    case rest =>
      obtain ⟨rfl, rfl⟩ := hcut
      clear p40 q40
      go_upto_region 9 with fail
      go_cut [69] (fun s wx => .bool (decide (k < 0 ∨ 4096 < k)) = s ∧ V32 = wx)
      case first =>
        by_cases z1 : k < 0
        · have Z := Lib.hid (decide_eq_true (p := k < 0 ∨ 4096 < k) (Or.inl z1)); go_wp2; go_meet; exact ⟨congrArg Value.bool Z.out, rfl⟩
        · by_cases z2 : 4096 < k
          · have Z := Lib.hid (decide_eq_true (p := k < 0 ∨ 4096 < k) (Or.inr z2)); go_wp2; go_meet; exact ⟨congrArg Value.bool Z.out, rfl⟩
          · have Z := Lib.hid (decide_eq_false (p := k < 0 ∨ 4096 < k) (fun z => z.elim z1 z2)); go_wp2; go_meet; exact ⟨congrArg Value.bool Z.out, rfl⟩
      case rest =>
        obtain ⟨rfl, rfl⟩ := hcut
        go_upto_if 69 with fail
        go_cut [2] (fun s wx => .int .i64 (p : Int) = s ∧ V32 = wx)
        case first =>
          rcases HKP.out with ⟨z, z2⟩ | ⟨z, z2⟩
          · rw [decide_eq_true z]; have Z := Lib.hid z2; clear z z2; go_wp2_with fail; go_meet; exact ⟨congrArg (Value.int .i64) Z.out, rfl⟩
          · rw [decide_eq_false z]; have Z := Lib.hid z2; clear z z2; go_wp2_with fail; go_meet; exact ⟨congrArg (Value.int .i64) Z.out, rfl⟩
        case rest =>
          obtain ⟨rfl, rfl⟩ := hcut
          obtain ⟨V41, eV41, gV, bV, hV41⟩ := alloc1n V32 (Obj.cells #[.int .i64 (p : Int)] 3)
          have FK_42 := Lib.hid (FK_33.out.below bV)
          have FB_43 := Lib.hid (below_of FB_34.out bV)
          have FG_44 := Lib.hid (car bV FG_35.out)
          have FK_45 := Lib.hid (FK_36.out.below bV)
          have FG_46 := Lib.hid (car bV FG_37.out)
          have FK_47 := Lib.hid (FK_38.out.below bV)
          have FG_48 := Lib.hid (car bV FG_39.out)
          clear FK_33 FB_34 FG_35 FK_36 FG_37 FK_38 FG_39
          have gP := Lib.hid gV; clear gV bV
          obtain ⟨p49, q49, -, -, -⟩ := blk2 FG_44.out
          obtain ⟨V50, eV50, gV, bV, hV50⟩ := alloc1n V41 (Obj.cells #[.int .i64 (wd : Int), .slice a0 k0 c0] 28)
          have FK_51 := Lib.hid (FK_42.out.below bV)
          have FB_52 := Lib.hid (below_of FB_43.out bV)
          have FG_53 := Lib.hid (car bV FG_44.out)
          have FK_54 := Lib.hid (FK_45.out.below bV)
          have FG_55 := Lib.hid (car bV FG_46.out)
          have FK_56 := Lib.hid (FK_47.out.below bV)
          have FG_57 := Lib.hid (car bV FG_48.out)
          clear FK_42 FB_43 FG_44 FK_45 FG_46 FK_47 FG_48
          have EV50 := Lib.hid eV50
          clear eV50
          have PAL := Lib.hid ((pal_one gP.out).below bV)
          have BVL := Lib.hid (bva_one gV FK_51.out); rw [HXS.out] at BVL
          clear gV bV
          go_wp2_with fail
          try rw [EV50.out]
          refine (RL.out _ _ _ PAL.out BVL.out).mono ?_
          rintro e w58 ⟨a58, k58, c58, rfl, hk, hb⟩
          clear p49 q49
          have FK_59 := Lib.hid (FK_51.out.below hb)
          have FB_60 := Lib.hid (below_of FB_52.out hb)
          have FG_61 := Lib.hid (car hb FG_53.out)
          have FK_62 := Lib.hid (FK_54.out.below hb)
          have FG_63 := Lib.hid (car hb FG_55.out)
          have FK_64 := Lib.hid (FK_56.out.below hb)
          have FG_65 := Lib.hid (car hb FG_57.out)
          clear FK_51 FB_52 FG_53 FK_54 FG_55 FK_56 FG_57
          clear hb
          have FK_66 := Lib.hid hk
          clear hk
          obtain ⟨V67, eV67, gV, bV, hV67⟩ := alloc1n w58 (Obj.cells #[.int .i64 (wd : Int), .slice a58 k58 c58] 28)
          have FK_68 := Lib.hid (FK_59.out.below bV)
          have FB_69 := Lib.hid (below_of FB_60.out bV)
          have FG_70 := Lib.hid (car bV FG_61.out)
          have FK_71 := Lib.hid (FK_62.out.below bV)
          have FG_72 := Lib.hid (car bV FG_63.out)
          have FK_73 := Lib.hid (FK_64.out.below bV)
          have FG_74 := Lib.hid (car bV FG_65.out)
          have FK_75 := Lib.hid (FK_66.out.below bV)
          clear FK_59 FB_60 FG_61 FK_62 FG_63 FK_64 FG_65 FK_66
          have EV67 := Lib.hid eV67
          clear eV67
          have FG_76 := Lib.hid gV
          clear gV bV BVL PAL gP eV41
          go_upto_region 12 with fail
          try rw [EV67.out]
          obtain ⟨V77, eV77, gV, bV, hV77⟩ := alloc1n V67 (Obj.cells #[.int .i64 (p : Int)] 3)
          have FK_78 := Lib.hid (FK_68.out.below bV)
          have FB_79 := Lib.hid (below_of FB_69.out bV)
          have FG_80 := Lib.hid (car bV FG_70.out)
          have FK_81 := Lib.hid (FK_71.out.below bV)
          have FG_82 := Lib.hid (car bV FG_72.out)
          have FK_83 := Lib.hid (FK_73.out.below bV)
          have FG_84 := Lib.hid (car bV FG_74.out)
          have FK_85 := Lib.hid (FK_75.out.below bV)
          have FG_86 := Lib.hid (car bV FG_76.out)
          clear FK_68 FB_69 FG_70 FK_71 FG_72 FK_73 FG_74 FK_75 FG_76
          have gP := Lib.hid gV; clear gV bV
          obtain ⟨p87, q87, -, -, -⟩ := blk2 FG_86.out
          obtain ⟨V88, eV88, gV, bV, hV88⟩ := alloc1n V77 (Obj.cells #[.int .i64 (wd : Int), .slice a58 k58 c58] 28)
          have FK_89 := Lib.hid (FK_78.out.below bV)
          have FB_90 := Lib.hid (below_of FB_79.out bV)
          have FG_91 := Lib.hid (car bV FG_80.out)
          have FK_92 := Lib.hid (FK_81.out.below bV)
          have FG_93 := Lib.hid (car bV FG_82.out)
          have FK_94 := Lib.hid (FK_83.out.below bV)
          have FG_95 := Lib.hid (car bV FG_84.out)
          have FK_96 := Lib.hid (FK_85.out.below bV)
          have FG_97 := Lib.hid (car bV FG_86.out)
          clear FK_78 FB_79 FG_80 FK_81 FG_82 FK_83 FG_84 FK_85 FG_86
          have EV88 := Lib.hid eV88
          clear eV88
          have PAL := Lib.hid ((pal_one gP.out).below bV)
          have BVL := Lib.hid (bvl_one gV FK_96.out)
          clear gV bV
          go_wp2_with fail
          try rw [EV88.out]
          refine (RR.out _ _ _ PAL.out BVL.out).mono ?_
          rintro e w98 ⟨a98, k98, c98, rfl, hk, hb⟩
          clear p87 q87
          have FK_99 := Lib.hid (FK_89.out.below hb)
          have FB_100 := Lib.hid (below_of FB_90.out hb)
          have FG_101 := Lib.hid (car hb FG_91.out)
          have FK_102 := Lib.hid (FK_92.out.below hb)
          have FG_103 := Lib.hid (car hb FG_93.out)
          have FK_104 := Lib.hid (FK_94.out.below hb)
          have FG_105 := Lib.hid (car hb FG_95.out)
          have FK_106 := Lib.hid (FK_96.out.below hb)
          have FG_107 := Lib.hid (car hb FG_97.out)
          clear FK_89 FB_90 FG_91 FK_92 FG_93 FK_94 FG_95 FK_96 FG_97
          clear hb
          have FK_108 := Lib.hid hk
          clear hk
          obtain ⟨V109, eV109, gV, bV, hV109⟩ := alloc1n w98 (Obj.cells #[.int .i64 (wd : Int), .slice a98 k98 c98] 28)
          have FK_110 := Lib.hid (FK_99.out.below bV)
          have FB_111 := Lib.hid (below_of FB_100.out bV)
          have FG_112 := Lib.hid (car bV FG_101.out)
          have FK_113 := Lib.hid (FK_102.out.below bV)
          have FG_114 := Lib.hid (car bV FG_103.out)
          have FK_115 := Lib.hid (FK_104.out.below bV)
          have FG_116 := Lib.hid (car bV FG_105.out)
          have FK_117 := Lib.hid (FK_106.out.below bV)
          have FG_118 := Lib.hid (car bV FG_107.out)
          have FK_119 := Lib.hid (FK_108.out.below bV)
          clear FK_99 FB_100 FG_101 FK_102 FG_103 FK_104 FG_105 FK_106 FG_107 FK_108
          have EV109 := Lib.hid eV109
          clear eV109
          have FG_120 := Lib.hid gV
          clear gV bV BVL PAL gP eV77
          go_upto_region 13 with fail
          try rw [EV109.out]
          obtain ⟨p121, q121, -, -, -⟩ := blk2 FG_120.out
          obtain ⟨p122, q122, -, -, -⟩ := blk2 FG_116.out
          go_wp2_with fail
          refine (sameT FK_119.out FK_115.out rfl).mono ?_
          rintro e w123 ⟨rfl, hb⟩
          clear p121 q121 p122 q122
          have FK_124 := Lib.hid (FK_110.out.below hb)
          have FB_125 := Lib.hid (below_of FB_111.out hb)
          have FG_126 := Lib.hid (car hb FG_112.out)
          have FK_127 := Lib.hid (FK_113.out.below hb)
          have FG_128 := Lib.hid (car hb FG_114.out)
          have FK_129 := Lib.hid (FK_115.out.below hb)
          have FG_130 := Lib.hid (car hb FG_116.out)
          have FK_131 := Lib.hid (FK_117.out.below hb)
          have FG_132 := Lib.hid (car hb FG_118.out)
          have FK_133 := Lib.hid (FK_119.out.below hb)
          have FG_134 := Lib.hid (car hb FG_120.out)
          clear FK_110 FB_111 FG_112 FK_113 FG_114 FK_115 FG_116 FK_117 FG_118 FK_119 FG_120
          clear hb
          go_upto_region 15 with fail
          go_upto_region 16 with fail
          obtain ⟨p135, q135, -, -, -⟩ := blk2 FG_126.out
          obtain ⟨V136, eV136, gV, bV, hV136⟩ := alloc1n w123 (Obj.cells #[.int .i64 ((wd : Int) - 1), .int .i64 (c : Int)] 3)
          have FK_137 := Lib.hid (FK_124.out.below bV)
          have FB_138 := Lib.hid (below_of FB_125.out bV)
          have FG_139 := Lib.hid (car bV FG_126.out)
          have FK_140 := Lib.hid (FK_127.out.below bV)
          have FG_141 := Lib.hid (car bV FG_128.out)
          have FK_142 := Lib.hid (FK_129.out.below bV)
          have FG_143 := Lib.hid (car bV FG_130.out)
          have FK_144 := Lib.hid (FK_131.out.below bV)
          have FG_145 := Lib.hid (car bV FG_132.out)
          have FK_146 := Lib.hid (FK_133.out.below bV)
          have FG_147 := Lib.hid (car bV FG_134.out)
          clear FK_124 FB_125 FG_126 FK_127 FG_128 FK_129 FG_130 FK_131 FG_132 FK_133 FG_134
          have gP := Lib.hid gV; clear gV bV
          obtain ⟨p148, q148, -, -, -⟩ := blk2 FG_139.out
          obtain ⟨V149, eV149, gV, bV, hV149⟩ := alloc1n V136 (Obj.cells #[.int .i64 (wd : Int), .slice a0 k0 c0] 28)
          have FK_150 := Lib.hid (FK_137.out.below bV)
          have FB_151 := Lib.hid (below_of FB_138.out bV)
          have FG_152 := Lib.hid (car bV FG_139.out)
          have FK_153 := Lib.hid (FK_140.out.below bV)
          have FG_154 := Lib.hid (car bV FG_141.out)
          have FK_155 := Lib.hid (FK_142.out.below bV)
          have FG_156 := Lib.hid (car bV FG_143.out)
          have FK_157 := Lib.hid (FK_144.out.below bV)
          have FG_158 := Lib.hid (car bV FG_145.out)
          have FK_159 := Lib.hid (FK_146.out.below bV)
          have FG_160 := Lib.hid (car bV FG_147.out)
          clear FK_137 FB_138 FG_139 FK_140 FG_141 FK_142 FG_143 FK_144 FG_145 FK_146 FG_147
          have EV149 := Lib.hid eV149
          clear eV149
          have PAL := Lib.hid ((pal_two gP.out).below bV)
          have BVL := Lib.hid (bva_one gV FK_150.out); rw [HXS.out] at BVL
          clear gV bV
          go_wp2_with fail
          try rw [EV149.out]
          refine (EH.out _ _ _ PAL.out BVL.out).mono ?_
          rintro e w161 ⟨a161, k161, c161, rfl, hk, hb⟩
          clear p135 q135 p148 q148
          have FK_162 := Lib.hid (FK_150.out.below hb)
          have FB_163 := Lib.hid (below_of FB_151.out hb)
          have FG_164 := Lib.hid (car hb FG_152.out)
          have FK_165 := Lib.hid (FK_153.out.below hb)
          have FG_166 := Lib.hid (car hb FG_154.out)
          have FK_167 := Lib.hid (FK_155.out.below hb)
          have FG_168 := Lib.hid (car hb FG_156.out)
          have FK_169 := Lib.hid (FK_157.out.below hb)
          have FG_170 := Lib.hid (car hb FG_158.out)
          have FK_171 := Lib.hid (FK_159.out.below hb)
          have FG_172 := Lib.hid (car hb FG_160.out)
          clear FK_150 FB_151 FG_152 FK_153 FG_154 FK_155 FG_156 FK_157 FG_158 FK_159 FG_160
          clear hb
          have FK_173 := Lib.hid hk
          clear hk
          obtain ⟨V174, eV174, gV, bV, hV174⟩ := alloc1n w161 (Obj.cells #[.int .i64 (whi : Int), .slice a161 k161 c161] 28)
          have FK_175 := Lib.hid (FK_162.out.below bV)
          have FB_176 := Lib.hid (below_of FB_163.out bV)
          have FG_177 := Lib.hid (car bV FG_164.out)
          have FK_178 := Lib.hid (FK_165.out.below bV)
          have FG_179 := Lib.hid (car bV FG_166.out)
          have FK_180 := Lib.hid (FK_167.out.below bV)
          have FG_181 := Lib.hid (car bV FG_168.out)
          have FK_182 := Lib.hid (FK_169.out.below bV)
          have FG_183 := Lib.hid (car bV FG_170.out)
          have FK_184 := Lib.hid (FK_171.out.below bV)
          have FG_185 := Lib.hid (car bV FG_172.out)
          have FK_186 := Lib.hid (FK_173.out.below bV)
          clear FK_162 FB_163 FG_164 FK_165 FG_166 FK_167 FG_168 FK_169 FG_170 FK_171 FG_172 FK_173
          have EV174 := Lib.hid eV174
          clear eV174
          have FG_187 := Lib.hid gV
          clear gV bV BVL PAL gP eV136
          go_upto_region 17 with fail
          try rw [EV174.out]
          obtain ⟨V188, eV188, gV, bV, hV188⟩ := alloc1n V174 (Obj.cells #[.int .i64 ((c : Int) - 1), .int .i64 0] 3)
          have FK_189 := Lib.hid (FK_175.out.below bV)
          have FB_190 := Lib.hid (below_of FB_176.out bV)
          have FG_191 := Lib.hid (car bV FG_177.out)
          have FK_192 := Lib.hid (FK_178.out.below bV)
          have FG_193 := Lib.hid (car bV FG_179.out)
          have FK_194 := Lib.hid (FK_180.out.below bV)
          have FG_195 := Lib.hid (car bV FG_181.out)
          have FK_196 := Lib.hid (FK_182.out.below bV)
          have FG_197 := Lib.hid (car bV FG_183.out)
          have FK_198 := Lib.hid (FK_184.out.below bV)
          have FG_199 := Lib.hid (car bV FG_185.out)
          have FK_200 := Lib.hid (FK_186.out.below bV)
          have FG_201 := Lib.hid (car bV FG_187.out)
          clear FK_175 FB_176 FG_177 FK_178 FG_179 FK_180 FG_181 FK_182 FG_183 FK_184 FG_185 FK_186 FG_187
          have gP := Lib.hid gV; clear gV bV
          obtain ⟨p202, q202, -, -, -⟩ := blk2 FG_191.out
          obtain ⟨V203, eV203, gV, bV, hV203⟩ := alloc1n V188 (Obj.cells #[.int .i64 (wd : Int), .slice a0 k0 c0] 28)
          have FK_204 := Lib.hid (FK_189.out.below bV)
          have FB_205 := Lib.hid (below_of FB_190.out bV)
          have FG_206 := Lib.hid (car bV FG_191.out)
          have FK_207 := Lib.hid (FK_192.out.below bV)
          have FG_208 := Lib.hid (car bV FG_193.out)
          have FK_209 := Lib.hid (FK_194.out.below bV)
          have FG_210 := Lib.hid (car bV FG_195.out)
          have FK_211 := Lib.hid (FK_196.out.below bV)
          have FG_212 := Lib.hid (car bV FG_197.out)
          have FK_213 := Lib.hid (FK_198.out.below bV)
          have FG_214 := Lib.hid (car bV FG_199.out)
          have FK_215 := Lib.hid (FK_200.out.below bV)
          have FG_216 := Lib.hid (car bV FG_201.out)
          clear FK_189 FB_190 FG_191 FK_192 FG_193 FK_194 FG_195 FK_196 FG_197 FK_198 FG_199 FK_200 FG_201
          have EV203 := Lib.hid eV203
          clear eV203
          have PAL := Lib.hid ((pal_two gP.out).below bV)
          have BVL := Lib.hid (bva_one gV FK_204.out); rw [HXS.out] at BVL
          clear gV bV
          go_wp2_with fail
          try rw [EV203.out]
          refine (EL.out _ _ _ PAL.out BVL.out).mono ?_
          rintro e w217 ⟨a217, k217, c217, rfl, hk, hb⟩
          clear p202 q202
          have FK_218 := Lib.hid (FK_204.out.below hb)
          have FB_219 := Lib.hid (below_of FB_205.out hb)
          have FG_220 := Lib.hid (car hb FG_206.out)
          have FK_221 := Lib.hid (FK_207.out.below hb)
          have FG_222 := Lib.hid (car hb FG_208.out)
          have FK_223 := Lib.hid (FK_209.out.below hb)
          have FG_224 := Lib.hid (car hb FG_210.out)
          have FK_225 := Lib.hid (FK_211.out.below hb)
          have FG_226 := Lib.hid (car hb FG_212.out)
          have FK_227 := Lib.hid (FK_213.out.below hb)
          have FG_228 := Lib.hid (car hb FG_214.out)
          have FK_229 := Lib.hid (FK_215.out.below hb)
          have FG_230 := Lib.hid (car hb FG_216.out)
          clear FK_204 FB_205 FG_206 FK_207 FG_208 FK_209 FG_210 FK_211 FG_212 FK_213 FG_214 FK_215 FG_216
          clear hb
          have FK_231 := Lib.hid hk
          clear hk
          obtain ⟨V232, eV232, gV, bV, hV232⟩ := alloc1n w217 (Obj.cells #[.int .i64 (wlo : Int), .slice a217 k217 c217] 28)
          have FK_233 := Lib.hid (FK_218.out.below bV)
          have FB_234 := Lib.hid (below_of FB_219.out bV)
          have FG_235 := Lib.hid (car bV FG_220.out)
          have FK_236 := Lib.hid (FK_221.out.below bV)
          have FG_237 := Lib.hid (car bV FG_222.out)
          have FK_238 := Lib.hid (FK_223.out.below bV)
          have FG_239 := Lib.hid (car bV FG_224.out)
          have FK_240 := Lib.hid (FK_225.out.below bV)
          have FG_241 := Lib.hid (car bV FG_226.out)
          have FK_242 := Lib.hid (FK_227.out.below bV)
          have FG_243 := Lib.hid (car bV FG_228.out)
          have FK_244 := Lib.hid (FK_229.out.below bV)
          have FG_245 := Lib.hid (car bV FG_230.out)
          have FK_246 := Lib.hid (FK_231.out.below bV)
          clear FK_218 FB_219 FG_220 FK_221 FG_222 FK_223 FG_224 FK_225 FG_226 FK_227 FG_228 FK_229 FG_230 FK_231
          have EV232 := Lib.hid eV232
          clear eV232
          have FG_247 := Lib.hid gV
          clear gV bV BVL PAL gP eV188
          go_upto_region 18 with fail
          try rw [EV232.out]
          obtain ⟨p248, q248, -, -, -⟩ := blk2 FG_245.out
          obtain ⟨p249, q249, -, -, -⟩ := blk2 FG_247.out
          obtain ⟨V250, eV250, gV, bV, hV250⟩ := alloc1n V232 (Obj.cells #[.int .i64 (whi : Int), .slice a161 k161 c161, .int .i64 (wlo : Int), .slice a217 k217 c217] 28)
          have FK_251 := Lib.hid (FK_233.out.below bV)
          have FB_252 := Lib.hid (below_of FB_234.out bV)
          have FG_253 := Lib.hid (car bV FG_235.out)
          have FK_254 := Lib.hid (FK_236.out.below bV)
          have FG_255 := Lib.hid (car bV FG_237.out)
          have FK_256 := Lib.hid (FK_238.out.below bV)
          have FG_257 := Lib.hid (car bV FG_239.out)
          have FK_258 := Lib.hid (FK_240.out.below bV)
          have FG_259 := Lib.hid (car bV FG_241.out)
          have FK_260 := Lib.hid (FK_242.out.below bV)
          have FG_261 := Lib.hid (car bV FG_243.out)
          have FK_262 := Lib.hid (FK_244.out.below bV)
          have FG_263 := Lib.hid (car bV FG_245.out)
          have FK_264 := Lib.hid (FK_246.out.below bV)
          have FG_265 := Lib.hid (car bV FG_247.out)
          clear FK_233 FB_234 FG_235 FK_236 FG_237 FK_238 FG_239 FK_240 FG_241 FK_242 FG_243 FK_244 FG_245 FK_246 FG_247
          have EV250 := Lib.hid eV250
          clear eV250
          have BVL := Lib.hid (bvl_two gV FK_262.out FK_264.out)
          clear gV bV
          go_wp2_with fail
          try rw [EV250.out]
          refine (CC.out _ _ BVL.out).mono ?_
          rintro e w266 ⟨a266, k266, c266, rfl, hk, hb⟩
          clear p248 q248 p249 q249
          have FK_267 := Lib.hid (FK_251.out.below hb)
          have FB_268 := Lib.hid (below_of FB_252.out hb)
          have FG_269 := Lib.hid (car hb FG_253.out)
          have FK_270 := Lib.hid (FK_254.out.below hb)
          have FG_271 := Lib.hid (car hb FG_255.out)
          have FK_272 := Lib.hid (FK_256.out.below hb)
          have FG_273 := Lib.hid (car hb FG_257.out)
          have FK_274 := Lib.hid (FK_258.out.below hb)
          have FG_275 := Lib.hid (car hb FG_259.out)
          have FK_276 := Lib.hid (FK_260.out.below hb)
          have FG_277 := Lib.hid (car hb FG_261.out)
          have FK_278 := Lib.hid (FK_262.out.below hb)
          have FG_279 := Lib.hid (car hb FG_263.out)
          have FK_280 := Lib.hid (FK_264.out.below hb)
          have FG_281 := Lib.hid (car hb FG_265.out)
          clear FK_251 FB_252 FG_253 FK_254 FG_255 FK_256 FG_257 FK_258 FG_259 FK_260 FG_261 FK_262 FG_263 FK_264 FG_265
          clear hb
          have FK_282 := Lib.hid hk
          clear hk
          obtain ⟨V283, eV283, gV, bV, hV283⟩ := alloc1n w266 (Obj.cells #[.int .i64 (wd : Int), .slice a266 k266 c266] 28)
          have FK_284 := Lib.hid (FK_267.out.below bV)
          have FB_285 := Lib.hid (below_of FB_268.out bV)
          have FG_286 := Lib.hid (car bV FG_269.out)
          have FK_287 := Lib.hid (FK_270.out.below bV)
          have FG_288 := Lib.hid (car bV FG_271.out)
          have FK_289 := Lib.hid (FK_272.out.below bV)
          have FG_290 := Lib.hid (car bV FG_273.out)
          have FK_291 := Lib.hid (FK_274.out.below bV)
          have FG_292 := Lib.hid (car bV FG_275.out)
          have FK_293 := Lib.hid (FK_276.out.below bV)
          have FG_294 := Lib.hid (car bV FG_277.out)
          have FK_295 := Lib.hid (FK_278.out.below bV)
          have FG_296 := Lib.hid (car bV FG_279.out)
          have FK_297 := Lib.hid (FK_280.out.below bV)
          have FG_298 := Lib.hid (car bV FG_281.out)
          have FK_299 := Lib.hid (FK_282.out.below bV)
          clear FK_267 FB_268 FG_269 FK_270 FG_271 FK_272 FG_273 FK_274 FG_275 FK_276 FG_277 FK_278 FG_279 FK_280 FG_281 FK_282
          have EV283 := Lib.hid eV283
          clear eV283
          have FG_300 := Lib.hid gV
          clear gV bV BVL
          go_upto_region 19 with fail
          try rw [EV283.out]
          obtain ⟨p301, q301, -, -, -⟩ := blk2 FG_300.out
          obtain ⟨p302, q302, -, -, -⟩ := blk2 FG_290.out
          go_wp2_with fail
          refine (sameT FK_299.out FK_289.out rfl).mono ?_
          rintro e w303 ⟨rfl, hb⟩
          clear p301 q301 p302 q302
          have FK_304 := Lib.hid (FK_284.out.below hb)
          have FB_305 := Lib.hid (below_of FB_285.out hb)
          have FG_306 := Lib.hid (car hb FG_286.out)
          have FK_307 := Lib.hid (FK_287.out.below hb)
          have FG_308 := Lib.hid (car hb FG_288.out)
          have FK_309 := Lib.hid (FK_289.out.below hb)
          have FG_310 := Lib.hid (car hb FG_290.out)
          have FK_311 := Lib.hid (FK_291.out.below hb)
          have FG_312 := Lib.hid (car hb FG_292.out)
          have FK_313 := Lib.hid (FK_293.out.below hb)
          have FG_314 := Lib.hid (car hb FG_294.out)
          have FK_315 := Lib.hid (FK_295.out.below hb)
          have FG_316 := Lib.hid (car hb FG_296.out)
          have FK_317 := Lib.hid (FK_297.out.below hb)
          have FG_318 := Lib.hid (car hb FG_298.out)
          have FK_319 := Lib.hid (FK_299.out.below hb)
          have FG_320 := Lib.hid (car hb FG_300.out)
          clear FK_284 FB_285 FG_286 FK_287 FG_288 FK_289 FG_290 FK_291 FG_292 FK_293 FG_294 FK_295 FG_296 FK_297 FG_298 FK_299 FG_300
          clear hb
          go_upto_region 21 with fail
          obtain ⟨V726, eV726, gV, bV, hV726⟩ := alloc1n w303 (Obj.cells #[.int .i64 (p : Int)] 3)
          have FK_727 := Lib.hid (FK_304.out.below bV)
          have FB_728 := Lib.hid (below_of FB_305.out bV)
          have FG_729 := Lib.hid (car bV FG_306.out)
          have FK_730 := Lib.hid (FK_307.out.below bV)
          have FG_731 := Lib.hid (car bV FG_308.out)
          have FK_732 := Lib.hid (FK_309.out.below bV)
          have FG_733 := Lib.hid (car bV FG_310.out)
          have FK_734 := Lib.hid (FK_311.out.below bV)
          have FG_735 := Lib.hid (car bV FG_312.out)
          have FK_736 := Lib.hid (FK_313.out.below bV)
          have FG_737 := Lib.hid (car bV FG_314.out)
          have FK_738 := Lib.hid (FK_315.out.below bV)
          have FG_739 := Lib.hid (car bV FG_316.out)
          have FK_740 := Lib.hid (FK_317.out.below bV)
          have FG_741 := Lib.hid (car bV FG_318.out)
          have FK_742 := Lib.hid (FK_319.out.below bV)
          have FG_743 := Lib.hid (car bV FG_320.out)
          clear FK_304 FB_305 FG_306 FK_307 FG_308 FK_309 FG_310 FK_311 FG_312 FK_313 FG_314 FK_315 FG_316 FK_317 FG_318 FK_319 FG_320
          have gP := Lib.hid gV; clear gV bV
          obtain ⟨p744, q744, -, -, -⟩ := blk2 FG_729.out
          obtain ⟨V745, eV745, gV, bV, hV745⟩ := alloc1n V726 (Obj.cells #[.int .i64 (wd : Int), .slice a0 k0 c0] 28)
          have FK_746 := Lib.hid (FK_727.out.below bV)
          have FB_747 := Lib.hid (below_of FB_728.out bV)
          have FG_748 := Lib.hid (car bV FG_729.out)
          have FK_749 := Lib.hid (FK_730.out.below bV)
          have FG_750 := Lib.hid (car bV FG_731.out)
          have FK_751 := Lib.hid (FK_732.out.below bV)
          have FG_752 := Lib.hid (car bV FG_733.out)
          have FK_753 := Lib.hid (FK_734.out.below bV)
          have FG_754 := Lib.hid (car bV FG_735.out)
          have FK_755 := Lib.hid (FK_736.out.below bV)
          have FG_756 := Lib.hid (car bV FG_737.out)
          have FK_757 := Lib.hid (FK_738.out.below bV)
          have FG_758 := Lib.hid (car bV FG_739.out)
          have FK_759 := Lib.hid (FK_740.out.below bV)
          have FG_760 := Lib.hid (car bV FG_741.out)
          have FK_761 := Lib.hid (FK_742.out.below bV)
          have FG_762 := Lib.hid (car bV FG_743.out)
          clear FK_727 FB_728 FG_729 FK_730 FG_731 FK_732 FG_733 FK_734 FG_735 FK_736 FG_737 FK_738 FG_739 FK_740 FG_741 FK_742 FG_743
          have EV745 := Lib.hid eV745
          clear eV745
          have PAL := Lib.hid ((pal_one gP.out).below bV)
          have BVL := Lib.hid (bva_one gV FK_746.out); rw [HXS.out] at BVL
          clear gV bV
          go_wp2_with fail
          try rw [EV745.out]
          refine (SXE.out hf _ _ _ PAL.out BVL.out).mono ?_
          rintro e w763 ⟨rfl, hb⟩
          clear p744 q744
          have FK_764 := Lib.hid (FK_746.out.below hb)
          have FB_765 := Lib.hid (below_of FB_747.out hb)
          have FG_766 := Lib.hid (car hb FG_748.out)
          have FK_767 := Lib.hid (FK_749.out.below hb)
          have FG_768 := Lib.hid (car hb FG_750.out)
          have FK_769 := Lib.hid (FK_751.out.below hb)
          have FG_770 := Lib.hid (car hb FG_752.out)
          have FK_771 := Lib.hid (FK_753.out.below hb)
          have FG_772 := Lib.hid (car hb FG_754.out)
          have FK_773 := Lib.hid (FK_755.out.below hb)
          have FG_774 := Lib.hid (car hb FG_756.out)
          have FK_775 := Lib.hid (FK_757.out.below hb)
          have FG_776 := Lib.hid (car hb FG_758.out)
          have FK_777 := Lib.hid (FK_759.out.below hb)
          have FG_778 := Lib.hid (car hb FG_760.out)
          have FK_779 := Lib.hid (FK_761.out.below hb)
          have FG_780 := Lib.hid (car hb FG_762.out)
          clear FK_746 FB_747 FG_748 FK_749 FG_750 FK_751 FG_752 FK_753 FG_754 FK_755 FG_756 FK_757 FG_758 FK_759 FG_760 FK_761 FG_762
          clear hb
          obtain ⟨V781, eV781, gV, bV, hV781⟩ := alloc1n w763 (Obj.cells #[.int .i64 0, .slice none 0 0] 28)
          have FK_782 := Lib.hid (FK_764.out.below bV)
          have FB_783 := Lib.hid (below_of FB_765.out bV)
          have FG_784 := Lib.hid (car bV FG_766.out)
          have FK_785 := Lib.hid (FK_767.out.below bV)
          have FG_786 := Lib.hid (car bV FG_768.out)
          have FK_787 := Lib.hid (FK_769.out.below bV)
          have FG_788 := Lib.hid (car bV FG_770.out)
          have FK_789 := Lib.hid (FK_771.out.below bV)
          have FG_790 := Lib.hid (car bV FG_772.out)
          have FK_791 := Lib.hid (FK_773.out.below bV)
          have FG_792 := Lib.hid (car bV FG_774.out)
          have FK_793 := Lib.hid (FK_775.out.below bV)
          have FG_794 := Lib.hid (car bV FG_776.out)
          have FK_795 := Lib.hid (FK_777.out.below bV)
          have FG_796 := Lib.hid (car bV FG_778.out)
          have FK_797 := Lib.hid (FK_779.out.below bV)
          have FG_798 := Lib.hid (car bV FG_780.out)
          clear FK_764 FB_765 FG_766 FK_767 FG_768 FK_769 FG_770 FK_771 FG_772 FK_773 FG_774 FK_775 FG_776 FK_777 FG_778 FK_779 FG_780
          have EV781 := Lib.hid eV781
          clear eV781
          have FG_799 := Lib.hid gV
          clear gV bV BVL PAL gP eV726
          go_upto_region 22 with fail
          try rw [EV781.out]
          obtain ⟨V800, eV800, gV, bV, hV800⟩ := alloc1n V781 (Obj.cells #[.int .i64 (p : Int)] 3)
          have FK_801 := Lib.hid (FK_782.out.below bV)
          have FB_802 := Lib.hid (below_of FB_783.out bV)
          have FG_803 := Lib.hid (car bV FG_784.out)
          have FK_804 := Lib.hid (FK_785.out.below bV)
          have FG_805 := Lib.hid (car bV FG_786.out)
          have FK_806 := Lib.hid (FK_787.out.below bV)
          have FG_807 := Lib.hid (car bV FG_788.out)
          have FK_808 := Lib.hid (FK_789.out.below bV)
          have FG_809 := Lib.hid (car bV FG_790.out)
          have FK_810 := Lib.hid (FK_791.out.below bV)
          have FG_811 := Lib.hid (car bV FG_792.out)
          have FK_812 := Lib.hid (FK_793.out.below bV)
          have FG_813 := Lib.hid (car bV FG_794.out)
          have FK_814 := Lib.hid (FK_795.out.below bV)
          have FG_815 := Lib.hid (car bV FG_796.out)
          have FK_816 := Lib.hid (FK_797.out.below bV)
          have FG_817 := Lib.hid (car bV FG_798.out)
          have FG_818 := Lib.hid (car bV FG_799.out)
          clear FK_782 FB_783 FG_784 FK_785 FG_786 FK_787 FG_788 FK_789 FG_790 FK_791 FG_792 FK_793 FG_794 FK_795 FG_796 FK_797 FG_798 FG_799
          have gP := Lib.hid gV; clear gV bV
          obtain ⟨p819, q819, -, -, -⟩ := blk2 FG_803.out
          obtain ⟨V820, eV820, gV, bV, hV820⟩ := alloc1n V800 (Obj.cells #[.int .i64 (wd : Int), .slice a0 k0 c0] 28)
          have FK_821 := Lib.hid (FK_801.out.below bV)
          have FB_822 := Lib.hid (below_of FB_802.out bV)
          have FG_823 := Lib.hid (car bV FG_803.out)
          have FK_824 := Lib.hid (FK_804.out.below bV)
          have FG_825 := Lib.hid (car bV FG_805.out)
          have FK_826 := Lib.hid (FK_806.out.below bV)
          have FG_827 := Lib.hid (car bV FG_807.out)
          have FK_828 := Lib.hid (FK_808.out.below bV)
          have FG_829 := Lib.hid (car bV FG_809.out)
          have FK_830 := Lib.hid (FK_810.out.below bV)
          have FG_831 := Lib.hid (car bV FG_811.out)
          have FK_832 := Lib.hid (FK_812.out.below bV)
          have FG_833 := Lib.hid (car bV FG_813.out)
          have FK_834 := Lib.hid (FK_814.out.below bV)
          have FG_835 := Lib.hid (car bV FG_815.out)
          have FK_836 := Lib.hid (FK_816.out.below bV)
          have FG_837 := Lib.hid (car bV FG_817.out)
          have FG_838 := Lib.hid (car bV FG_818.out)
          clear FK_801 FB_802 FG_803 FK_804 FG_805 FK_806 FG_807 FK_808 FG_809 FK_810 FG_811 FK_812 FG_813 FK_814 FG_815 FK_816 FG_817 FG_818
          have EV820 := Lib.hid eV820
          clear eV820
          have PAL := Lib.hid ((pal_one gP.out).below bV)
          have BVL := Lib.hid (bva_one gV FK_821.out); rw [HXS.out] at BVL
          clear gV bV
          go_wp2_with fail
          try rw [EV820.out]
          refine (ZXE.out hf _ _ _ PAL.out BVL.out).mono ?_
          rintro e w839 ⟨rfl, hb⟩
          clear p819 q819
          have FK_840 := Lib.hid (FK_821.out.below hb)
          have FB_841 := Lib.hid (below_of FB_822.out hb)
          have FG_842 := Lib.hid (car hb FG_823.out)
          have FK_843 := Lib.hid (FK_824.out.below hb)
          have FG_844 := Lib.hid (car hb FG_825.out)
          have FK_845 := Lib.hid (FK_826.out.below hb)
          have FG_846 := Lib.hid (car hb FG_827.out)
          have FK_847 := Lib.hid (FK_828.out.below hb)
          have FG_848 := Lib.hid (car hb FG_829.out)
          have FK_849 := Lib.hid (FK_830.out.below hb)
          have FG_850 := Lib.hid (car hb FG_831.out)
          have FK_851 := Lib.hid (FK_832.out.below hb)
          have FG_852 := Lib.hid (car hb FG_833.out)
          have FK_853 := Lib.hid (FK_834.out.below hb)
          have FG_854 := Lib.hid (car hb FG_835.out)
          have FK_855 := Lib.hid (FK_836.out.below hb)
          have FG_856 := Lib.hid (car hb FG_837.out)
          have FG_857 := Lib.hid (car hb FG_838.out)
          clear FK_821 FB_822 FG_823 FK_824 FG_825 FK_826 FG_827 FK_828 FG_829 FK_830 FG_831 FK_832 FG_833 FK_834 FG_835 FK_836 FG_837 FG_838
          clear hb
          obtain ⟨V858, eV858, gV, bV, hV858⟩ := alloc1n w839 (Obj.cells #[.int .i64 0, .slice none 0 0] 28)
          have FK_859 := Lib.hid (FK_840.out.below bV)
          have FB_860 := Lib.hid (below_of FB_841.out bV)
          have FG_861 := Lib.hid (car bV FG_842.out)
          have FK_862 := Lib.hid (FK_843.out.below bV)
          have FG_863 := Lib.hid (car bV FG_844.out)
          have FK_864 := Lib.hid (FK_845.out.below bV)
          have FG_865 := Lib.hid (car bV FG_846.out)
          have FK_866 := Lib.hid (FK_847.out.below bV)
          have FG_867 := Lib.hid (car bV FG_848.out)
          have FK_868 := Lib.hid (FK_849.out.below bV)
          have FG_869 := Lib.hid (car bV FG_850.out)
          have FK_870 := Lib.hid (FK_851.out.below bV)
          have FG_871 := Lib.hid (car bV FG_852.out)
          have FK_872 := Lib.hid (FK_853.out.below bV)
          have FG_873 := Lib.hid (car bV FG_854.out)
          have FK_874 := Lib.hid (FK_855.out.below bV)
          have FG_875 := Lib.hid (car bV FG_856.out)
          have FG_876 := Lib.hid (car bV FG_857.out)
          clear FK_840 FB_841 FG_842 FK_843 FG_844 FK_845 FG_846 FK_847 FG_848 FK_849 FG_850 FK_851 FG_852 FK_853 FG_854 FK_855 FG_856 FG_857
          have EV858 := Lib.hid eV858
          clear eV858
          have FG_877 := Lib.hid gV
          clear gV bV BVL PAL gP eV800
          go_upto_region 23 with fail
          try rw [EV858.out]
          obtain ⟨p878, q878, -, -, -⟩ := blk2 FG_861.out
          go_wp2_with fail
          clear p878 q878
          refine (alive9 _).mono ?_
          rintro e w879 ⟨rfl, hb⟩
          have FK_880 := Lib.hid (FK_859.out.below hb)
          have FB_881 := Lib.hid (below_of FB_860.out hb)
          have FG_882 := Lib.hid (car hb FG_861.out)
          have FK_883 := Lib.hid (FK_862.out.below hb)
          have FG_884 := Lib.hid (car hb FG_863.out)
          have FK_885 := Lib.hid (FK_864.out.below hb)
          have FG_886 := Lib.hid (car hb FG_865.out)
          have FK_887 := Lib.hid (FK_866.out.below hb)
          have FG_888 := Lib.hid (car hb FG_867.out)
          have FK_889 := Lib.hid (FK_868.out.below hb)
          have FG_890 := Lib.hid (car hb FG_869.out)
          have FK_891 := Lib.hid (FK_870.out.below hb)
          have FG_892 := Lib.hid (car hb FG_871.out)
          have FK_893 := Lib.hid (FK_872.out.below hb)
          have FG_894 := Lib.hid (car hb FG_873.out)
          have FK_895 := Lib.hid (FK_874.out.below hb)
          have FG_896 := Lib.hid (car hb FG_875.out)
          have FG_897 := Lib.hid (car hb FG_876.out)
          have FG_898 := Lib.hid (car hb FG_877.out)
          clear FK_859 FB_860 FG_861 FK_862 FG_863 FK_864 FG_865 FK_866 FG_867 FK_868 FG_869 FK_870 FG_871 FK_872 FG_873 FK_874 FG_875 FG_876 FG_877
          clear hb
          go_wp2
          go_ret
          exact ⟨rfl, FB_881.out⟩
end Go.Proofs.YtccofiakblmkhaaGreat
