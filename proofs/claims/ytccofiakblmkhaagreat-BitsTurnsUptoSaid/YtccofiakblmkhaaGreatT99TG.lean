/- BitsTurns: the walk (gen9w.py). -/
import Derived.Test.YtccofiakblmkhaaGreatT9NT9
import Derived.Test.YtccofiakblmkhaaGreatT9N5
import Derived.Test.YtccofiakblmkhaaGreatT99M
set_option linter.unusedVariables false
set_option linter.unusedSimpArgs false
namespace Go.Proofs.YtccofiakblmkhaaGreat
open Go.RowKit Mth

set_option maxHeartbeats 32000000 in
set_option maxRecDepth 100000 in
theorem turns_two (wd m c p : Nat) (h1 : 1 ≤ wd) (h2 : wd ≤ 4096) (hm : m < 2 ^ wd) (v : Value) (xs : List Nat) (hxs : val B64 xs = m) (cut k : Int) (w : World) (s0 : BvA w v (wd : Int) xs)
    (hc : c < wd) (hc1 : 1 ≤ c) (hcut : (cut < 1 ∨ (wd : Int) ≤ cut) ∧ (c : Int) = (wd : Int).tdiv 2 ∨ ¬ (cut < 1 ∨ (wd : Int) ≤ cut) ∧ (c : Int) = cut) (hp : p ≤ 4096) (hf : (wd : Int) + (p : Int) ≤ 4096) (hkp : (k < 0 ∨ 4096 < k) ∧ (p : Int) = 3 ∨ ¬ (k < 0 ∨ 4096 < k) ∧ (p : Int) = k) :
    Calls Tryz.prog 9 #[v, .int .i64 cut, .int .i64 k] w fun e w' => e = .returned (.bool true) ∧ Below w.heap.size w w' := by
  obtain ⟨u, rfl, t1, t2, t3⟩ := s0
  obtain ⟨a0, c0, rfl⟩ := t1.shape
  have VF : Hid (BvA w (.agg #[.int .i64 (wd : Int), .slice a0 xs.length c0]) (wd : Int) xs) := Lib.hid ⟨_, rfl, t1, t2, t3⟩
  generalize hk0 : xs.length = k0 at *
  clear t1 t2 t3 hk0
  obtain ⟨q, hq⟩ : ∃ q, p % wd = q := ⟨_, rfl⟩
  have hql : q ≤ wd := by have := Nat.mod_lt p (show 0 < wd by omega); omega
  have RT : Hid (∀ w1, BvA w1 (.agg #[.int .i64 (wd : Int), .slice a0 k0 c0]) (wd : Int) xs → Calls Tryz.prog 22 #[.agg #[.int .i64 (wd : Int), .slice a0 k0 c0]] w1 fun e w' => e = .returned (.bool true) ∧ Below w1.heap.size w1 w') := Lib.hid (fun w1 hv => by
    have h := hv.right
    rw [right_fine h1 h2 (by rw [hxs]; exact hm)] at h
    exact h)
  have UN : Hid (∀ w1, BvA w1 (.agg #[.int .i64 (wd : Int), .slice a0 k0 c0]) (wd : Int) xs → Calls Tryz.prog 16 #[.agg #[.int .i64 (wd : Int), .slice a0 k0 c0]] w1 fun e w' => ResI w1 w' e (m : Int) 0) := Lib.hid (fun w1 hv => by
    have h := uns_good _ wd xs h1 h2 (by rw [hxs]; exact hm) w1 hv
    rw [hxs] at h
    exact h)
  have SI : Hid (∀ w1, BvA w1 (.agg #[.int .i64 (wd : Int), .slice a0 k0 c0]) (wd : Int) xs → Calls Tryz.prog 18 #[.agg #[.int .i64 (wd : Int), .slice a0 k0 c0]] w1 fun e w' => ResI w1 w' e (sgV wd m) 0) := Lib.hid (fun w1 hv => by
    have h := sig_good _ wd xs h1 h2 (by rw [hxs]; exact hm) w1 hv
    rw [hxs] at h
    exact h)
  have FR : Hid (∀ va w1, IntV w1 va (m : Int) → Calls Tryz.prog 14 #[.int .i64 (wd : Int), va] w1 fun e w' => ResBE w1 w' e wd m) := Lib.hid (fun va w1 hv => (fromK wd h1 h2 va (m : Int) w1 hv).mono fun e w' h => to_wd h rfl (vec_small hm))
  obtain ⟨l, hl⟩ : ∃ l, vecN wd ((rotZ wd m q : Nat) : Int) = l := ⟨_, rfl⟩
  have hll : l < 2 ^ wd := by rw [← hl]; exact vec_lt _ _
  have RL : Hid (∀ pv av w1, PaL w1 pv [(p : Int)] → BvL w1 av [(wd, m)] → Calls Tryz.prog 25 #[.int .i64 66, pv, av] w1 fun e w' => ResBE w1 w' e wd l) := Lib.hid (fun pv av w1 g1 g2 => (apply_rotl pv av wd m p q hq h1 h2 hm hp w1 g1 g2).mono fun e w' h => to_wd h rfl hl)
  have RR : Hid (∀ pv av w1, PaL w1 pv [(p : Int)] → BvL w1 av [(wd, l)] → Calls Tryz.prog 25 #[.int .i64 67, pv, av] w1 fun e w' => ResBE w1 w' e wd m) := Lib.hid (fun pv av w1 g1 g2 => (apply_rotr pv av wd l p q hq h1 h2 hll hp w1 g1 g2).mono fun e w' h => to_wd h rfl (by rw [← hl]; exact rot_back hql hm))
  obtain ⟨whi, hwhi⟩ : ∃ x, wd - 1 - c + 1 = x := ⟨_, rfl⟩
  obtain ⟨wlo, hwlo⟩ : ∃ x, c - 1 - 0 + 1 = x := ⟨_, rfl⟩
  obtain ⟨nh, hnh⟩ : ∃ x, vecN (wd - 1 - c + 1) ((m / 2 ^ c : Nat) : Int) = x := ⟨_, rfl⟩
  obtain ⟨nl, hnl⟩ : ∃ x, vecN (c - 1 - 0 + 1) ((m / 2 ^ 0 : Nat) : Int) = x := ⟨_, rfl⟩
  have hcat := cat_back (wd := wd) (m := m) (c := c) (by omega) hc1 hc hm
  rw [hnh, hnl, hwhi, hwlo] at hcat
  have lh : nh < 2 ^ whi := by rw [← hnh, ← hwhi]; exact vec_lt _ _
  have ll : nl < 2 ^ wlo := by rw [← hnl, ← hwlo]; exact vec_lt _ _
  have EH : Hid (∀ pv av w1, PaL w1 pv [(wd : Int) - 1, (c : Int)] → BvL w1 av [(wd, m)] → Calls Tryz.prog 25 #[.int .i64 42, pv, av] w1 fun e w' => ResBE w1 w' e whi nh) := Lib.hid (fun pv av w1 g1 g2 => (apply_extract pv av wd m (wd - 1) c h1 h2 hm (by omega) (by omega) w1 (by rw [show ((wd - 1 : Nat) : Int) = (wd : Int) - 1 by omega]; exact g1) g2).mono fun e w' h => to_wd h hwhi hnh)
  have EL : Hid (∀ pv av w1, PaL w1 pv [(c : Int) - 1, 0] → BvL w1 av [(wd, m)] → Calls Tryz.prog 25 #[.int .i64 42, pv, av] w1 fun e w' => ResBE w1 w' e wlo nl) := Lib.hid (fun pv av w1 g1 g2 => (apply_extract pv av wd m (c - 1) 0 h1 h2 hm (by omega) (by omega) w1 (by rw [show ((c - 1 : Nat) : Int) = (c : Int) - 1 by omega]; exact g1) g2).mono fun e w' h => to_wd h hwlo hnl)
  have CC : Hid (∀ av w1, BvL w1 av [(whi, nh), (wlo, nl)] → Calls Tryz.prog 25 #[.int .i64 41, .slice none 0 0, av] w1 fun e w' => ResBE w1 w' e wd m) := Lib.hid (fun av w1 g2 => (apply_concat (.slice none 0 0) av whi wlo nh nl (by omega) (by omega) (by omega) lh ll w1 ⟨_, _, _, rfl⟩ g2).mono fun e w' h => to_wd h (by omega) hcat)
  have hwr1 : IntKind.i64.wrap ((wd : Int) - 1) = (wd : Int) - 1 := IntWalk.i64_in _ (by omega)
  have hwr2 : IntKind.i64.wrap ((c : Int) - 1) = (c : Int) - 1 := IntWalk.i64_in _ (by omega)
  clear hcat lh ll hnh hnl hwhi hwlo
  have SX : Hid (∀ (_ : (wd : Int) + (p : Int) ≤ 4096) pv av w1, PaL w1 pv [(p : Int)] → BvL w1 av [(wd, m)] → Calls Tryz.prog 25 #[.int .i64 65, pv, av] w1 fun e w' => ResBE w1 w' e (wd + p) (vecN (wd + p) (sgV wd m))) := Lib.hid (fun hf pv av w1 g1 g2 => apply_sext pv av wd m p h1 h2 hm (by omega) w1 g1 g2)
  have ZX : Hid (∀ (_ : (wd : Int) + (p : Int) ≤ 4096) pv av w1, PaL w1 pv [(p : Int)] → BvL w1 av [(wd, m)] → Calls Tryz.prog 25 #[.int .i64 64, pv, av] w1 fun e w' => ResBE w1 w' e (wd + p) m) := Lib.hid (fun hf pv av w1 g1 g2 => (apply_zext pv av wd m p h1 h2 hm (by omega) w1 g1 g2).mono fun e w' h => to_wd h rfl (vec_small (Nat.lt_of_lt_of_le hm (Nat.pow_le_pow_right (by omega) (by omega)))))
  have SXE : Hid (∀ (_ : ¬ (wd : Int) + (p : Int) ≤ 4096) pv av w1, PaL w1 pv [(p : Int)] → BvL w1 av [(wd, m)] → Calls Tryz.prog 25 #[.int .i64 65, pv, av] w1 fun e w' => e = .returned (.tuple #[.agg #[.int .i64 0, .slice none 0 0], .int .i64 55]) ∧ Below w1.heap.size w1 w') := Lib.hid (fun hf pv av w1 g1 g2 => apply_sextE pv av wd m p h1 h2 hm hp (by omega) w1 g1 g2)
  have ZXE : Hid (∀ (_ : ¬ (wd : Int) + (p : Int) ≤ 4096) pv av w1, PaL w1 pv [(p : Int)] → BvL w1 av [(wd, m)] → Calls Tryz.prog 25 #[.int .i64 64, pv, av] w1 fun e w' => e = .returned (.tuple #[.agg #[.int .i64 0, .slice none 0 0], .int .i64 55]) ∧ Below w1.heap.size w1 w') := Lib.hid (fun hf pv av w1 g1 g2 => apply_zextE pv av wd m p h1 h2 hm hp (by omega) w1 g1 g2)
  have SK : Hid (∀ (_ : (wd : Int) + (p : Int) ≤ 4096) a k c w1, BvK w1 (wd + p) a k c (vecN (wd + p) (sgV wd m)) → Calls Tryz.prog 18 #[.agg #[.int .i64 ((wd : Int) + (p : Int)), .slice a k c]] w1 fun e w' => ResI w1 w' e (sgV wd m) 0) := Lib.hid (fun hf a k c w1 h => by
    have h := sigK (by omega) (by omega) h
    rw [sext_back h1 hm, show ((wd + p : Nat) : Int) = (wd : Int) + (p : Int) by omega] at h
    exact h)
  have UK : Hid (∀ (_ : (wd : Int) + (p : Int) ≤ 4096) a k c w1, BvK w1 (wd + p) a k c m → Calls Tryz.prog 16 #[.agg #[.int .i64 ((wd : Int) + (p : Int)), .slice a k c]] w1 fun e w' => ResI w1 w' e (m : Int) 0) := Lib.hid (fun hf a k c w1 h => by
    have h := unsK (by omega) (by omega) h
    rw [show ((wd + p : Nat) : Int) = (wd : Int) + (p : Int) by omega] at h
    exact h)
  have hwd1 : (1 : Int) ≤ (wd : Int) := by omega
  have hwd2 : (wd : Int) ≤ 4096 := by omega
  have hpp : (p : Int) ≤ 4096 := by omega
  have hcc : (c : Int) < (wd : Int) := by omega
  have hc2 : (1 : Int) ≤ (c : Int) := by omega
  have HXS := Lib.hid hxs; have HCUT := Lib.hid hcut; have HKP := Lib.hid hkp; have HC1 := Lib.hid hc1
  clear hq hql hl hll hm hxs hcut hkp hc1
  have FB_1 := Lib.hid (Below.refl w.heap.size w)
  obtain ⟨V2, eV2, gV, bV, hV2⟩ := alloc1n w (Obj.cells #[.int .i64 (wd : Int), .slice a0 k0 c0] 28)
  have FK_3 := Lib.hid (VF.out.below bV)
  have FB_4 := Lib.hid (below_of FB_1.out bV)
  clear VF FB_1
  have EV2 := Lib.hid eV2
  clear eV2
  have FG_5 := Lib.hid gV
  clear gV bV
  obtain ⟨p6, q6, -, -, -⟩ := blk2 FG_5.out
  go_enter Tryz.func9, Tryz.ntmps9
  go_wp2_with fail
  try rw [EV2.out]
  refine (RT.out _ FK_3.out).mono ?_
  rintro e w7 ⟨rfl, hb⟩
  clear p6 q6
  have FK_8 := Lib.hid (FK_3.out.below hb)
  have FB_9 := Lib.hid (below_of FB_4.out hb)
  have FG_10 := Lib.hid (car hb FG_5.out)
  clear FK_3 FB_4 FG_5
  clear hb
  obtain ⟨p11, q11, -, -, -⟩ := blk2 FG_10.out
  go_wp2_with fail
  refine (UN.out _ FK_8.out).mono ?_
  rintro e w12 ⟨n12, a12, k12, c12, rfl, hk, hb⟩
  clear p11 q11
  have FK_13 := Lib.hid (FK_8.out.below hb)
  have FB_14 := Lib.hid (below_of FB_9.out hb)
  have FG_15 := Lib.hid (car hb FG_10.out)
  clear FK_8 FB_9 FG_10
  clear hb
  have FK_16 := Lib.hid hk
  clear hk
  obtain ⟨V17, eV17, gV, bV, hV17⟩ := alloc1n w12 (Obj.cells #[.bool n12, .slice a12 k12 c12] 26)
  have FK_18 := Lib.hid (FK_13.out.below bV)
  have FB_19 := Lib.hid (below_of FB_14.out bV)
  have FG_20 := Lib.hid (car bV FG_15.out)
  have FK_21 := Lib.hid (FK_16.out.below bV)
  clear FK_13 FB_14 FG_15 FK_16
  have EV17 := Lib.hid eV17
  clear eV17
  have FG_22 := Lib.hid gV
  clear gV bV
  go_upto_region 4 with fail
  try rw [EV17.out]
  obtain ⟨p23, q23, -, -, -⟩ := blk2 FG_20.out
  obtain ⟨p24, q24, -, -, -⟩ := blk2 FG_22.out
  go_wp2_with fail
  refine (FR.out _ _ FK_21.out).mono ?_
  rintro e w25 ⟨a25, k25, c25, rfl, hk, hb⟩
  clear p23 q23 p24 q24
  have FK_26 := Lib.hid (FK_18.out.below hb)
  have FB_27 := Lib.hid (below_of FB_19.out hb)
  have FG_28 := Lib.hid (car hb FG_20.out)
  have FK_29 := Lib.hid (FK_21.out.below hb)
  have FG_30 := Lib.hid (car hb FG_22.out)
  clear FK_18 FB_19 FG_20 FK_21 FG_22
  clear hb
  have FK_31 := Lib.hid hk
  clear hk
  obtain ⟨V32, eV32, gV, bV, hV32⟩ := alloc1n w25 (Obj.cells #[.int .i64 (wd : Int), .slice a25 k25 c25] 28)
  have FK_33 := Lib.hid (FK_26.out.below bV)
  have FB_34 := Lib.hid (below_of FB_27.out bV)
  have FG_35 := Lib.hid (car bV FG_28.out)
  have FK_36 := Lib.hid (FK_29.out.below bV)
  have FG_37 := Lib.hid (car bV FG_30.out)
  have FK_38 := Lib.hid (FK_31.out.below bV)
  clear FK_26 FB_27 FG_28 FK_29 FG_30 FK_31
  have EV32 := Lib.hid eV32
  clear eV32
  have FG_39 := Lib.hid gV
  clear gV bV
  go_upto_region 5 with fail
  try rw [EV32.out]
  go_upto_region 7 with fail
  obtain ⟨p40, q40, -, -, -⟩ := blk2 FG_35.out
  go_cut [60] (fun s wx => .bool (decide (cut < 1 ∨ (wd : Int) ≤ cut)) = s ∧ V32 = wx)
  case first =>
    by_cases z1 : cut < 1
    · have Z := Lib.hid (decide_eq_true (p := cut < 1 ∨ (wd : Int) ≤ cut) (Or.inl z1)); go_wp2; go_meet; exact ⟨congrArg Value.bool Z.out, rfl⟩
    · by_cases z2 : (wd : Int) ≤ cut
      · have Z := Lib.hid (decide_eq_true (p := cut < 1 ∨ (wd : Int) ≤ cut) (Or.inr z2)); go_wp2; go_meet; exact ⟨congrArg Value.bool Z.out, rfl⟩
      · have Z := Lib.hid (decide_eq_false (p := cut < 1 ∨ (wd : Int) ≤ cut) (fun z => z.elim z1 z2)); go_wp2; go_meet; exact ⟨congrArg Value.bool Z.out, rfl⟩
  case rest =>
    obtain ⟨rfl, rfl⟩ := hcut
    go_upto_if 60 with fail
    go_cut [1] (fun s wx => .int .i64 (c : Int) = s ∧ V32 = wx)
    case first =>
      rcases HCUT.out with ⟨z, z2⟩ | ⟨z, z2⟩
      · rw [decide_eq_true z]; have Z := Lib.hid z2; clear z z2; go_wp2_with fail; go_meet; exact ⟨congrArg (Value.int .i64) Z.out, rfl⟩
      · rw [decide_eq_false z]; have Z := Lib.hid z2; clear z z2; go_wp2_with fail; go_meet; exact ⟨congrArg (Value.int .i64) Z.out, rfl⟩
    case rest =>
      obtain ⟨rfl, rfl⟩ := hcut
      clear p40 q40
      go_upto_region 9 with fail
      go_cut [69] (fun s wx => .bool (decide (k < 0 ∨ 4096 < k)) = s ∧ V32 = wx)
      case first =>
        by_cases z1 : k < 0
        · have Z := Lib.hid (decide_eq_true (p := k < 0 ∨ 4096 < k) (Or.inl z1)); go_wp2; go_meet; exact ⟨congrArg Value.bool Z.out, rfl⟩
        · by_cases z2 : 4096 < k
          · have Z := Lib.hid (decide_eq_true (p := k < 0 ∨ 4096 < k) (Or.inr z2)); go_wp2; go_meet; exact ⟨congrArg Value.bool Z.out, rfl⟩
          · have Z := Lib.hid (decide_eq_false (p := k < 0 ∨ 4096 < k) (fun z => z.elim z1 z2)); go_wp2; go_meet; exact ⟨congrArg Value.bool Z.out, rfl⟩
      case rest =>
        obtain ⟨rfl, rfl⟩ := hcut
        go_upto_if 69 with fail
        go_cut [2] (fun s wx => .int .i64 (p : Int) = s ∧ V32 = wx)
        case first =>
          rcases HKP.out with ⟨z, z2⟩ | ⟨z, z2⟩
          · rw [decide_eq_true z]; have Z := Lib.hid z2; clear z z2; go_wp2_with fail; go_meet; exact ⟨congrArg (Value.int .i64) Z.out, rfl⟩
          · rw [decide_eq_false z]; have Z := Lib.hid z2; clear z z2; go_wp2_with fail; go_meet; exact ⟨congrArg (Value.int .i64) Z.out, rfl⟩
        case rest =>
          obtain ⟨rfl, rfl⟩ := hcut
          obtain ⟨V41, eV41, gV, bV, hV41⟩ := alloc1n V32 (Obj.cells #[.int .i64 (p : Int)] 3)
          have FK_42 := Lib.hid (FK_33.out.below bV)
          have FB_43 := Lib.hid (below_of FB_34.out bV)
          have FG_44 := Lib.hid (car bV FG_35.out)
          have FK_45 := Lib.hid (FK_36.out.below bV)
          have FG_46 := Lib.hid (car bV FG_37.out)
          have FK_47 := Lib.hid (FK_38.out.below bV)
          have FG_48 := Lib.hid (car bV FG_39.out)
          clear FK_33 FB_34 FG_35 FK_36 FG_37 FK_38 FG_39
          have gP := Lib.hid gV; clear gV bV
          obtain ⟨p49, q49, -, -, -⟩ := blk2 FG_44.out
          obtain ⟨V50, eV50, gV, bV, hV50⟩ := alloc1n V41 (Obj.cells #[.int .i64 (wd : Int), .slice a0 k0 c0] 28)
          have FK_51 := Lib.hid (FK_42.out.below bV)
          have FB_52 := Lib.hid (below_of FB_43.out bV)
          have FG_53 := Lib.hid (car bV FG_44.out)
          have FK_54 := Lib.hid (FK_45.out.below bV)
          have FG_55 := Lib.hid (car bV FG_46.out)
          have FK_56 := Lib.hid (FK_47.out.below bV)
          have FG_57 := Lib.hid (car bV FG_48.out)
          clear FK_42 FB_43 FG_44 FK_45 FG_46 FK_47 FG_48
          have EV50 := Lib.hid eV50
          clear eV50
          have PAL := Lib.hid ((pal_one gP.out).below bV)
          have BVL := Lib.hid (bva_one gV FK_51.out); rw [HXS.out] at BVL
          clear gV bV
          go_wp2_with fail
          try rw [EV50.out]
          refine (RL.out _ _ _ PAL.out BVL.out).mono ?_
          rintro e w58 ⟨a58, k58, c58, rfl, hk, hb⟩
          clear p49 q49
          have FK_59 := Lib.hid (FK_51.out.below hb)
          have FB_60 := Lib.hid (below_of FB_52.out hb)
          have FG_61 := Lib.hid (car hb FG_53.out)
          have FK_62 := Lib.hid (FK_54.out.below hb)
          have FG_63 := Lib.hid (car hb FG_55.out)
          have FK_64 := Lib.hid (FK_56.out.below hb)
          have FG_65 := Lib.hid (car hb FG_57.out)
          clear FK_51 FB_52 FG_53 FK_54 FG_55 FK_56 FG_57
          clear hb
          have FK_66 := Lib.hid hk
          clear hk
          obtain ⟨V67, eV67, gV, bV, hV67⟩ := alloc1n w58 (Obj.cells #[.int .i64 (wd : Int), .slice a58 k58 c58] 28)
          have FK_68 := Lib.hid (FK_59.out.below bV)
          have FB_69 := Lib.hid (below_of FB_60.out bV)
          have FG_70 := Lib.hid (car bV FG_61.out)
          have FK_71 := Lib.hid (FK_62.out.below bV)
          have FG_72 := Lib.hid (car bV FG_63.out)
          have FK_73 := Lib.hid (FK_64.out.below bV)
          have FG_74 := Lib.hid (car bV FG_65.out)
          have FK_75 := Lib.hid (FK_66.out.below bV)
          clear FK_59 FB_60 FG_61 FK_62 FG_63 FK_64 FG_65 FK_66
          have EV67 := Lib.hid eV67
          clear eV67
          have FG_76 := Lib.hid gV
          clear gV bV BVL PAL gP eV41
          go_upto_region 12 with fail
          try rw [EV67.out]
          obtain ⟨V77, eV77, gV, bV, hV77⟩ := alloc1n V67 (Obj.cells #[.int .i64 (p : Int)] 3)
          have FK_78 := Lib.hid (FK_68.out.below bV)
          have FB_79 := Lib.hid (below_of FB_69.out bV)
          have FG_80 := Lib.hid (car bV FG_70.out)
          have FK_81 := Lib.hid (FK_71.out.below bV)
          have FG_82 := Lib.hid (car bV FG_72.out)
          have FK_83 := Lib.hid (FK_73.out.below bV)
          have FG_84 := Lib.hid (car bV FG_74.out)
          have FK_85 := Lib.hid (FK_75.out.below bV)
          have FG_86 := Lib.hid (car bV FG_76.out)
          clear FK_68 FB_69 FG_70 FK_71 FG_72 FK_73 FG_74 FK_75 FG_76
          have gP := Lib.hid gV; clear gV bV
          obtain ⟨p87, q87, -, -, -⟩ := blk2 FG_86.out
          obtain ⟨V88, eV88, gV, bV, hV88⟩ := alloc1n V77 (Obj.cells #[.int .i64 (wd : Int), .slice a58 k58 c58] 28)
          have FK_89 := Lib.hid (FK_78.out.below bV)
          have FB_90 := Lib.hid (below_of FB_79.out bV)
          have FG_91 := Lib.hid (car bV FG_80.out)
          have FK_92 := Lib.hid (FK_81.out.below bV)
          have FG_93 := Lib.hid (car bV FG_82.out)
          have FK_94 := Lib.hid (FK_83.out.below bV)
          have FG_95 := Lib.hid (car bV FG_84.out)
          have FK_96 := Lib.hid (FK_85.out.below bV)
          have FG_97 := Lib.hid (car bV FG_86.out)
          clear FK_78 FB_79 FG_80 FK_81 FG_82 FK_83 FG_84 FK_85 FG_86
          have EV88 := Lib.hid eV88
          clear eV88
          have PAL := Lib.hid ((pal_one gP.out).below bV)
          have BVL := Lib.hid (bvl_one gV FK_96.out)
          clear gV bV
          go_wp2_with fail
          try rw [EV88.out]
          refine (RR.out _ _ _ PAL.out BVL.out).mono ?_
          rintro e w98 ⟨a98, k98, c98, rfl, hk, hb⟩
          clear p87 q87
          have FK_99 := Lib.hid (FK_89.out.below hb)
          have FB_100 := Lib.hid (below_of FB_90.out hb)
          have FG_101 := Lib.hid (car hb FG_91.out)
          have FK_102 := Lib.hid (FK_92.out.below hb)
          have FG_103 := Lib.hid (car hb FG_93.out)
          have FK_104 := Lib.hid (FK_94.out.below hb)
          have FG_105 := Lib.hid (car hb FG_95.out)
          have FK_106 := Lib.hid (FK_96.out.below hb)
          have FG_107 := Lib.hid (car hb FG_97.out)
          clear FK_89 FB_90 FG_91 FK_92 FG_93 FK_94 FG_95 FK_96 FG_97
          clear hb
          have FK_108 := Lib.hid hk
          clear hk
          obtain ⟨V109, eV109, gV, bV, hV109⟩ := alloc1n w98 (Obj.cells #[.int .i64 (wd : Int), .slice a98 k98 c98] 28)
          have FK_110 := Lib.hid (FK_99.out.below bV)
          have FB_111 := Lib.hid (below_of FB_100.out bV)
          have FG_112 := Lib.hid (car bV FG_101.out)
          have FK_113 := Lib.hid (FK_102.out.below bV)
          have FG_114 := Lib.hid (car bV FG_103.out)
          have FK_115 := Lib.hid (FK_104.out.below bV)
          have FG_116 := Lib.hid (car bV FG_105.out)
          have FK_117 := Lib.hid (FK_106.out.below bV)
          have FG_118 := Lib.hid (car bV FG_107.out)
          have FK_119 := Lib.hid (FK_108.out.below bV)
          clear FK_99 FB_100 FG_101 FK_102 FG_103 FK_104 FG_105 FK_106 FG_107 FK_108
          have EV109 := Lib.hid eV109
          clear eV109
          have FG_120 := Lib.hid gV
          clear gV bV BVL PAL gP eV77
          go_upto_region 13 with fail
          try rw [EV109.out]
          obtain ⟨p121, q121, -, -, -⟩ := blk2 FG_120.out
          obtain ⟨p122, q122, -, -, -⟩ := blk2 FG_116.out
          go_wp2_with fail
          refine (sameT FK_119.out FK_115.out rfl).mono ?_
          rintro e w123 ⟨rfl, hb⟩
          clear p121 q121 p122 q122
          have FK_124 := Lib.hid (FK_110.out.below hb)
          have FB_125 := Lib.hid (below_of FB_111.out hb)
          have FG_126 := Lib.hid (car hb FG_112.out)
          have FK_127 := Lib.hid (FK_113.out.below hb)
          have FG_128 := Lib.hid (car hb FG_114.out)
          have FK_129 := Lib.hid (FK_115.out.below hb)
          have FG_130 := Lib.hid (car hb FG_116.out)
          have FK_131 := Lib.hid (FK_117.out.below hb)
          have FG_132 := Lib.hid (car hb FG_118.out)
          have FK_133 := Lib.hid (FK_119.out.below hb)
          have FG_134 := Lib.hid (car hb FG_120.out)
          clear FK_110 FB_111 FG_112 FK_113 FG_114 FK_115 FG_116 FK_117 FG_118 FK_119 FG_120
          clear hb
          go_upto_region 15 with fail
          go_upto_region 16 with fail
          obtain ⟨p135, q135, -, -, -⟩ := blk2 FG_126.out
          obtain ⟨V136, eV136, gV, bV, hV136⟩ := alloc1n w123 (Obj.cells #[.int .i64 ((wd : Int) - 1), .int .i64 (c : Int)] 3)
          have FK_137 := Lib.hid (FK_124.out.below bV)
          have FB_138 := Lib.hid (below_of FB_125.out bV)
          have FG_139 := Lib.hid (car bV FG_126.out)
          have FK_140 := Lib.hid (FK_127.out.below bV)
          have FG_141 := Lib.hid (car bV FG_128.out)
          have FK_142 := Lib.hid (FK_129.out.below bV)
          have FG_143 := Lib.hid (car bV FG_130.out)
          have FK_144 := Lib.hid (FK_131.out.below bV)
          have FG_145 := Lib.hid (car bV FG_132.out)
          have FK_146 := Lib.hid (FK_133.out.below bV)
          have FG_147 := Lib.hid (car bV FG_134.out)
          clear FK_124 FB_125 FG_126 FK_127 FG_128 FK_129 FG_130 FK_131 FG_132 FK_133 FG_134
          have gP := Lib.hid gV; clear gV bV
          obtain ⟨p148, q148, -, -, -⟩ := blk2 FG_139.out
          obtain ⟨V149, eV149, gV, bV, hV149⟩ := alloc1n V136 (Obj.cells #[.int .i64 (wd : Int), .slice a0 k0 c0] 28)
          have FK_150 := Lib.hid (FK_137.out.below bV)
          have FB_151 := Lib.hid (below_of FB_138.out bV)
          have FG_152 := Lib.hid (car bV FG_139.out)
          have FK_153 := Lib.hid (FK_140.out.below bV)
          have FG_154 := Lib.hid (car bV FG_141.out)
          have FK_155 := Lib.hid (FK_142.out.below bV)
          have FG_156 := Lib.hid (car bV FG_143.out)
          have FK_157 := Lib.hid (FK_144.out.below bV)
          have FG_158 := Lib.hid (car bV FG_145.out)
          have FK_159 := Lib.hid (FK_146.out.below bV)
          have FG_160 := Lib.hid (car bV FG_147.out)
          clear FK_137 FB_138 FG_139 FK_140 FG_141 FK_142 FG_143 FK_144 FG_145 FK_146 FG_147
          have EV149 := Lib.hid eV149
          clear eV149
          have PAL := Lib.hid ((pal_two gP.out).below bV)
          have BVL := Lib.hid (bva_one gV FK_150.out); rw [HXS.out] at BVL
          clear gV bV
          go_wp2_with fail
          try rw [EV149.out]
          refine (EH.out _ _ _ PAL.out BVL.out).mono ?_
          rintro e w161 ⟨a161, k161, c161, rfl, hk, hb⟩
          clear p135 q135 p148 q148
          have FK_162 := Lib.hid (FK_150.out.below hb)
          have FB_163 := Lib.hid (below_of FB_151.out hb)
          have FG_164 := Lib.hid (car hb FG_152.out)
          have FK_165 := Lib.hid (FK_153.out.below hb)
          have FG_166 := Lib.hid (car hb FG_154.out)
          have FK_167 := Lib.hid (FK_155.out.below hb)
          have FG_168 := Lib.hid (car hb FG_156.out)
          have FK_169 := Lib.hid (FK_157.out.below hb)
          have FG_170 := Lib.hid (car hb FG_158.out)
          have FK_171 := Lib.hid (FK_159.out.below hb)
          have FG_172 := Lib.hid (car hb FG_160.out)
          clear FK_150 FB_151 FG_152 FK_153 FG_154 FK_155 FG_156 FK_157 FG_158 FK_159 FG_160
          clear hb
          have FK_173 := Lib.hid hk
          clear hk
          obtain ⟨V174, eV174, gV, bV, hV174⟩ := alloc1n w161 (Obj.cells #[.int .i64 (whi : Int), .slice a161 k161 c161] 28)
          have FK_175 := Lib.hid (FK_162.out.below bV)
          have FB_176 := Lib.hid (below_of FB_163.out bV)
          have FG_177 := Lib.hid (car bV FG_164.out)
          have FK_178 := Lib.hid (FK_165.out.below bV)
          have FG_179 := Lib.hid (car bV FG_166.out)
          have FK_180 := Lib.hid (FK_167.out.below bV)
          have FG_181 := Lib.hid (car bV FG_168.out)
          have FK_182 := Lib.hid (FK_169.out.below bV)
          have FG_183 := Lib.hid (car bV FG_170.out)
          have FK_184 := Lib.hid (FK_171.out.below bV)
          have FG_185 := Lib.hid (car bV FG_172.out)
          have FK_186 := Lib.hid (FK_173.out.below bV)
          clear FK_162 FB_163 FG_164 FK_165 FG_166 FK_167 FG_168 FK_169 FG_170 FK_171 FG_172 FK_173
          have EV174 := Lib.hid eV174
          clear eV174
          have FG_187 := Lib.hid gV
          clear gV bV BVL PAL gP eV136
          go_upto_region 17 with fail
          try rw [EV174.out]
          obtain ⟨V188, eV188, gV, bV, hV188⟩ := alloc1n V174 (Obj.cells #[.int .i64 ((c : Int) - 1), .int .i64 0] 3)
          have FK_189 := Lib.hid (FK_175.out.below bV)
          have FB_190 := Lib.hid (below_of FB_176.out bV)
          have FG_191 := Lib.hid (car bV FG_177.out)
          have FK_192 := Lib.hid (FK_178.out.below bV)
          have FG_193 := Lib.hid (car bV FG_179.out)
          have FK_194 := Lib.hid (FK_180.out.below bV)
          have FG_195 := Lib.hid (car bV FG_181.out)
          have FK_196 := Lib.hid (FK_182.out.below bV)
          have FG_197 := Lib.hid (car bV FG_183.out)
          have FK_198 := Lib.hid (FK_184.out.below bV)
          have FG_199 := Lib.hid (car bV FG_185.out)
          have FK_200 := Lib.hid (FK_186.out.below bV)
          have FG_201 := Lib.hid (car bV FG_187.out)
          clear FK_175 FB_176 FG_177 FK_178 FG_179 FK_180 FG_181 FK_182 FG_183 FK_184 FG_185 FK_186 FG_187
          have gP := Lib.hid gV; clear gV bV
          obtain ⟨p202, q202, -, -, -⟩ := blk2 FG_191.out
          obtain ⟨V203, eV203, gV, bV, hV203⟩ := alloc1n V188 (Obj.cells #[.int .i64 (wd : Int), .slice a0 k0 c0] 28)
          have FK_204 := Lib.hid (FK_189.out.below bV)
          have FB_205 := Lib.hid (below_of FB_190.out bV)
          have FG_206 := Lib.hid (car bV FG_191.out)
          have FK_207 := Lib.hid (FK_192.out.below bV)
          have FG_208 := Lib.hid (car bV FG_193.out)
          have FK_209 := Lib.hid (FK_194.out.below bV)
          have FG_210 := Lib.hid (car bV FG_195.out)
          have FK_211 := Lib.hid (FK_196.out.below bV)
          have FG_212 := Lib.hid (car bV FG_197.out)
          have FK_213 := Lib.hid (FK_198.out.below bV)
          have FG_214 := Lib.hid (car bV FG_199.out)
          have FK_215 := Lib.hid (FK_200.out.below bV)
          have FG_216 := Lib.hid (car bV FG_201.out)
          clear FK_189 FB_190 FG_191 FK_192 FG_193 FK_194 FG_195 FK_196 FG_197 FK_198 FG_199 FK_200 FG_201
          have EV203 := Lib.hid eV203
          clear eV203
          have PAL := Lib.hid ((pal_two gP.out).below bV)
          have BVL := Lib.hid (bva_one gV FK_204.out); rw [HXS.out] at BVL
          clear gV bV
          go_wp2_with fail
          try rw [EV203.out]
          refine (EL.out _ _ _ PAL.out BVL.out).mono ?_
          rintro e w217 ⟨a217, k217, c217, rfl, hk, hb⟩
          clear p202 q202
          have FK_218 := Lib.hid (FK_204.out.below hb)
          have FB_219 := Lib.hid (below_of FB_205.out hb)
          have FG_220 := Lib.hid (car hb FG_206.out)
          have FK_221 := Lib.hid (FK_207.out.below hb)
          have FG_222 := Lib.hid (car hb FG_208.out)
          have FK_223 := Lib.hid (FK_209.out.below hb)
          have FG_224 := Lib.hid (car hb FG_210.out)
          have FK_225 := Lib.hid (FK_211.out.below hb)
          have FG_226 := Lib.hid (car hb FG_212.out)
          have FK_227 := Lib.hid (FK_213.out.below hb)
          have FG_228 := Lib.hid (car hb FG_214.out)
          have FK_229 := Lib.hid (FK_215.out.below hb)
          have FG_230 := Lib.hid (car hb FG_216.out)
          clear FK_204 FB_205 FG_206 FK_207 FG_208 FK_209 FG_210 FK_211 FG_212 FK_213 FG_214 FK_215 FG_216
          clear hb
          have FK_231 := Lib.hid hk
          clear hk
          obtain ⟨V232, eV232, gV, bV, hV232⟩ := alloc1n w217 (Obj.cells #[.int .i64 (wlo : Int), .slice a217 k217 c217] 28)
          have FK_233 := Lib.hid (FK_218.out.below bV)
          have FB_234 := Lib.hid (below_of FB_219.out bV)
          have FG_235 := Lib.hid (car bV FG_220.out)
          have FK_236 := Lib.hid (FK_221.out.below bV)
          have FG_237 := Lib.hid (car bV FG_222.out)
          have FK_238 := Lib.hid (FK_223.out.below bV)
          have FG_239 := Lib.hid (car bV FG_224.out)
          have FK_240 := Lib.hid (FK_225.out.below bV)
          have FG_241 := Lib.hid (car bV FG_226.out)
          have FK_242 := Lib.hid (FK_227.out.below bV)
          have FG_243 := Lib.hid (car bV FG_228.out)
          have FK_244 := Lib.hid (FK_229.out.below bV)
          have FG_245 := Lib.hid (car bV FG_230.out)
          have FK_246 := Lib.hid (FK_231.out.below bV)
          clear FK_218 FB_219 FG_220 FK_221 FG_222 FK_223 FG_224 FK_225 FG_226 FK_227 FG_228 FK_229 FG_230 FK_231
          have EV232 := Lib.hid eV232
          clear eV232
          have FG_247 := Lib.hid gV
          clear gV bV BVL PAL gP eV188
          go_upto_region 18 with fail
          try rw [EV232.out]
          obtain ⟨p248, q248, -, -, -⟩ := blk2 FG_245.out
          obtain ⟨p249, q249, -, -, -⟩ := blk2 FG_247.out
          obtain ⟨V250, eV250, gV, bV, hV250⟩ := alloc1n V232 (Obj.cells #[.int .i64 (whi : Int), .slice a161 k161 c161, .int .i64 (wlo : Int), .slice a217 k217 c217] 28)
          have FK_251 := Lib.hid (FK_233.out.below bV)
          have FB_252 := Lib.hid (below_of FB_234.out bV)
          have FG_253 := Lib.hid (car bV FG_235.out)
          have FK_254 := Lib.hid (FK_236.out.below bV)
          have FG_255 := Lib.hid (car bV FG_237.out)
          have FK_256 := Lib.hid (FK_238.out.below bV)
          have FG_257 := Lib.hid (car bV FG_239.out)
          have FK_258 := Lib.hid (FK_240.out.below bV)
          have FG_259 := Lib.hid (car bV FG_241.out)
          have FK_260 := Lib.hid (FK_242.out.below bV)
          have FG_261 := Lib.hid (car bV FG_243.out)
          have FK_262 := Lib.hid (FK_244.out.below bV)
          have FG_263 := Lib.hid (car bV FG_245.out)
          have FK_264 := Lib.hid (FK_246.out.below bV)
          have FG_265 := Lib.hid (car bV FG_247.out)
          clear FK_233 FB_234 FG_235 FK_236 FG_237 FK_238 FG_239 FK_240 FG_241 FK_242 FG_243 FK_244 FG_245 FK_246 FG_247
          have EV250 := Lib.hid eV250
          clear eV250
          have BVL := Lib.hid (bvl_two gV FK_262.out FK_264.out)
          clear gV bV
          go_wp2_with fail
          try rw [EV250.out]
          refine (CC.out _ _ BVL.out).mono ?_
          rintro e w266 ⟨a266, k266, c266, rfl, hk, hb⟩
          clear p248 q248 p249 q249
          have FK_267 := Lib.hid (FK_251.out.below hb)
          have FB_268 := Lib.hid (below_of FB_252.out hb)
          have FG_269 := Lib.hid (car hb FG_253.out)
          have FK_270 := Lib.hid (FK_254.out.below hb)
          have FG_271 := Lib.hid (car hb FG_255.out)
          have FK_272 := Lib.hid (FK_256.out.below hb)
          have FG_273 := Lib.hid (car hb FG_257.out)
          have FK_274 := Lib.hid (FK_258.out.below hb)
          have FG_275 := Lib.hid (car hb FG_259.out)
          have FK_276 := Lib.hid (FK_260.out.below hb)
          have FG_277 := Lib.hid (car hb FG_261.out)
          have FK_278 := Lib.hid (FK_262.out.below hb)
          have FG_279 := Lib.hid (car hb FG_263.out)
          have FK_280 := Lib.hid (FK_264.out.below hb)
          have FG_281 := Lib.hid (car hb FG_265.out)
          clear FK_251 FB_252 FG_253 FK_254 FG_255 FK_256 FG_257 FK_258 FG_259 FK_260 FG_261 FK_262 FG_263 FK_264 FG_265
          clear hb
          have FK_282 := Lib.hid hk
          clear hk
          obtain ⟨V283, eV283, gV, bV, hV283⟩ := alloc1n w266 (Obj.cells #[.int .i64 (wd : Int), .slice a266 k266 c266] 28)
          have FK_284 := Lib.hid (FK_267.out.below bV)
          have FB_285 := Lib.hid (below_of FB_268.out bV)
          have FG_286 := Lib.hid (car bV FG_269.out)
          have FK_287 := Lib.hid (FK_270.out.below bV)
          have FG_288 := Lib.hid (car bV FG_271.out)
          have FK_289 := Lib.hid (FK_272.out.below bV)
          have FG_290 := Lib.hid (car bV FG_273.out)
          have FK_291 := Lib.hid (FK_274.out.below bV)
          have FG_292 := Lib.hid (car bV FG_275.out)
          have FK_293 := Lib.hid (FK_276.out.below bV)
          have FG_294 := Lib.hid (car bV FG_277.out)
          have FK_295 := Lib.hid (FK_278.out.below bV)
          have FG_296 := Lib.hid (car bV FG_279.out)
          have FK_297 := Lib.hid (FK_280.out.below bV)
          have FG_298 := Lib.hid (car bV FG_281.out)
          have FK_299 := Lib.hid (FK_282.out.below bV)
          clear FK_267 FB_268 FG_269 FK_270 FG_271 FK_272 FG_273 FK_274 FG_275 FK_276 FG_277 FK_278 FG_279 FK_280 FG_281 FK_282
          have EV283 := Lib.hid eV283
          clear eV283
          have FG_300 := Lib.hid gV
          clear gV bV BVL
          go_upto_region 19 with fail
          try rw [EV283.out]
          obtain ⟨p301, q301, -, -, -⟩ := blk2 FG_300.out
          obtain ⟨p302, q302, -, -, -⟩ := blk2 FG_290.out
          go_wp2_with fail
          refine (sameT FK_299.out FK_289.out rfl).mono ?_
          rintro e w303 ⟨rfl, hb⟩
          clear p301 q301 p302 q302
          have FK_304 := Lib.hid (FK_284.out.below hb)
          have FB_305 := Lib.hid (below_of FB_285.out hb)
          have FG_306 := Lib.hid (car hb FG_286.out)
          have FK_307 := Lib.hid (FK_287.out.below hb)
          have FG_308 := Lib.hid (car hb FG_288.out)
          have FK_309 := Lib.hid (FK_289.out.below hb)
          have FG_310 := Lib.hid (car hb FG_290.out)
          have FK_311 := Lib.hid (FK_291.out.below hb)
          have FG_312 := Lib.hid (car hb FG_292.out)
          have FK_313 := Lib.hid (FK_293.out.below hb)
          have FG_314 := Lib.hid (car hb FG_294.out)
          have FK_315 := Lib.hid (FK_295.out.below hb)
          have FG_316 := Lib.hid (car hb FG_296.out)
          have FK_317 := Lib.hid (FK_297.out.below hb)
          have FG_318 := Lib.hid (car hb FG_298.out)
          have FK_319 := Lib.hid (FK_299.out.below hb)
          have FG_320 := Lib.hid (car hb FG_300.out)
          clear FK_284 FB_285 FG_286 FK_287 FG_288 FK_289 FG_290 FK_291 FG_292 FK_293 FG_294 FK_295 FG_296 FK_297 FG_298 FK_299 FG_300
          clear hb
          go_upto_region 21 with fail
          obtain ⟨V321, eV321, gV, bV, hV321⟩ := alloc1n w303 (Obj.cells #[.int .i64 (p : Int)] 3)
          have FK_322 := Lib.hid (FK_304.out.below bV)
          have FB_323 := Lib.hid (below_of FB_305.out bV)
          have FG_324 := Lib.hid (car bV FG_306.out)
          have FK_325 := Lib.hid (FK_307.out.below bV)
          have FG_326 := Lib.hid (car bV FG_308.out)
          have FK_327 := Lib.hid (FK_309.out.below bV)
          have FG_328 := Lib.hid (car bV FG_310.out)
          have FK_329 := Lib.hid (FK_311.out.below bV)
          have FG_330 := Lib.hid (car bV FG_312.out)
          have FK_331 := Lib.hid (FK_313.out.below bV)
          have FG_332 := Lib.hid (car bV FG_314.out)
          have FK_333 := Lib.hid (FK_315.out.below bV)
          have FG_334 := Lib.hid (car bV FG_316.out)
          have FK_335 := Lib.hid (FK_317.out.below bV)
          have FG_336 := Lib.hid (car bV FG_318.out)
          have FK_337 := Lib.hid (FK_319.out.below bV)
          have FG_338 := Lib.hid (car bV FG_320.out)
          clear FK_304 FB_305 FG_306 FK_307 FG_308 FK_309 FG_310 FK_311 FG_312 FK_313 FG_314 FK_315 FG_316 FK_317 FG_318 FK_319 FG_320
          have gP := Lib.hid gV; clear gV bV
          obtain ⟨p339, q339, -, -, -⟩ := blk2 FG_324.out
          obtain ⟨V340, eV340, gV, bV, hV340⟩ := alloc1n V321 (Obj.cells #[.int .i64 (wd : Int), .slice a0 k0 c0] 28)
          have FK_341 := Lib.hid (FK_322.out.below bV)
          have FB_342 := Lib.hid (below_of FB_323.out bV)
          have FG_343 := Lib.hid (car bV FG_324.out)
          have FK_344 := Lib.hid (FK_325.out.below bV)
          have FG_345 := Lib.hid (car bV FG_326.out)
          have FK_346 := Lib.hid (FK_327.out.below bV)
          have FG_347 := Lib.hid (car bV FG_328.out)
          have FK_348 := Lib.hid (FK_329.out.below bV)
          have FG_349 := Lib.hid (car bV FG_330.out)
          have FK_350 := Lib.hid (FK_331.out.below bV)
          have FG_351 := Lib.hid (car bV FG_332.out)
          have FK_352 := Lib.hid (FK_333.out.below bV)
          have FG_353 := Lib.hid (car bV FG_334.out)
          have FK_354 := Lib.hid (FK_335.out.below bV)
          have FG_355 := Lib.hid (car bV FG_336.out)
          have FK_356 := Lib.hid (FK_337.out.below bV)
          have FG_357 := Lib.hid (car bV FG_338.out)
          clear FK_322 FB_323 FG_324 FK_325 FG_326 FK_327 FG_328 FK_329 FG_330 FK_331 FG_332 FK_333 FG_334 FK_335 FG_336 FK_337 FG_338
          have EV340 := Lib.hid eV340
          clear eV340
          have PAL := Lib.hid ((pal_one gP.out).below bV)
          have BVL := Lib.hid (bva_one gV FK_341.out); rw [HXS.out] at BVL
          clear gV bV
          go_wp2_with fail
          try rw [EV340.out]
          refine (SX.out hf _ _ _ PAL.out BVL.out).mono ?_
          rintro e w358 ⟨a358, k358, c358, rfl, hk, hb⟩
          clear p339 q339
          have FK_359 := Lib.hid (FK_341.out.below hb)
          have FB_360 := Lib.hid (below_of FB_342.out hb)
          have FG_361 := Lib.hid (car hb FG_343.out)
          have FK_362 := Lib.hid (FK_344.out.below hb)
          have FG_363 := Lib.hid (car hb FG_345.out)
          have FK_364 := Lib.hid (FK_346.out.below hb)
          have FG_365 := Lib.hid (car hb FG_347.out)
          have FK_366 := Lib.hid (FK_348.out.below hb)
          have FG_367 := Lib.hid (car hb FG_349.out)
          have FK_368 := Lib.hid (FK_350.out.below hb)
          have FG_369 := Lib.hid (car hb FG_351.out)
          have FK_370 := Lib.hid (FK_352.out.below hb)
          have FG_371 := Lib.hid (car hb FG_353.out)
          have FK_372 := Lib.hid (FK_354.out.below hb)
          have FG_373 := Lib.hid (car hb FG_355.out)
          have FK_374 := Lib.hid (FK_356.out.below hb)
          have FG_375 := Lib.hid (car hb FG_357.out)
          clear FK_341 FB_342 FG_343 FK_344 FG_345 FK_346 FG_347 FK_348 FG_349 FK_350 FG_351 FK_352 FG_353 FK_354 FG_355 FK_356 FG_357
          clear hb
          have FK_376 := Lib.hid hk
          clear hk
          obtain ⟨V377, eV377, gV, bV, hV377⟩ := alloc1n w358 (Obj.cells #[.int .i64 ((wd : Int) + (p : Int)), .slice a358 k358 c358] 28)
          have FK_378 := Lib.hid (FK_359.out.below bV)
          have FB_379 := Lib.hid (below_of FB_360.out bV)
          have FG_380 := Lib.hid (car bV FG_361.out)
          have FK_381 := Lib.hid (FK_362.out.below bV)
          have FG_382 := Lib.hid (car bV FG_363.out)
          have FK_383 := Lib.hid (FK_364.out.below bV)
          have FG_384 := Lib.hid (car bV FG_365.out)
          have FK_385 := Lib.hid (FK_366.out.below bV)
          have FG_386 := Lib.hid (car bV FG_367.out)
          have FK_387 := Lib.hid (FK_368.out.below bV)
          have FG_388 := Lib.hid (car bV FG_369.out)
          have FK_389 := Lib.hid (FK_370.out.below bV)
          have FG_390 := Lib.hid (car bV FG_371.out)
          have FK_391 := Lib.hid (FK_372.out.below bV)
          have FG_392 := Lib.hid (car bV FG_373.out)
          have FK_393 := Lib.hid (FK_374.out.below bV)
          have FG_394 := Lib.hid (car bV FG_375.out)
          have FK_395 := Lib.hid (FK_376.out.below bV)
          clear FK_359 FB_360 FG_361 FK_362 FG_363 FK_364 FG_365 FK_366 FG_367 FK_368 FG_369 FK_370 FG_371 FK_372 FG_373 FK_374 FG_375 FK_376
          have EV377 := Lib.hid eV377
          clear eV377
          have FG_396 := Lib.hid gV
          clear gV bV BVL PAL gP eV321
          go_upto_region 22 with fail
          try rw [EV377.out]
          obtain ⟨V397, eV397, gV, bV, hV397⟩ := alloc1n V377 (Obj.cells #[.int .i64 (p : Int)] 3)
          have FK_398 := Lib.hid (FK_378.out.below bV)
          have FB_399 := Lib.hid (below_of FB_379.out bV)
          have FG_400 := Lib.hid (car bV FG_380.out)
          have FK_401 := Lib.hid (FK_381.out.below bV)
          have FG_402 := Lib.hid (car bV FG_382.out)
          have FK_403 := Lib.hid (FK_383.out.below bV)
          have FG_404 := Lib.hid (car bV FG_384.out)
          have FK_405 := Lib.hid (FK_385.out.below bV)
          have FG_406 := Lib.hid (car bV FG_386.out)
          have FK_407 := Lib.hid (FK_387.out.below bV)
          have FG_408 := Lib.hid (car bV FG_388.out)
          have FK_409 := Lib.hid (FK_389.out.below bV)
          have FG_410 := Lib.hid (car bV FG_390.out)
          have FK_411 := Lib.hid (FK_391.out.below bV)
          have FG_412 := Lib.hid (car bV FG_392.out)
          have FK_413 := Lib.hid (FK_393.out.below bV)
          have FG_414 := Lib.hid (car bV FG_394.out)
          have FK_415 := Lib.hid (FK_395.out.below bV)
          have FG_416 := Lib.hid (car bV FG_396.out)
          clear FK_378 FB_379 FG_380 FK_381 FG_382 FK_383 FG_384 FK_385 FG_386 FK_387 FG_388 FK_389 FG_390 FK_391 FG_392 FK_393 FG_394 FK_395 FG_396
          have gP := Lib.hid gV; clear gV bV
          obtain ⟨p417, q417, -, -, -⟩ := blk2 FG_400.out
          obtain ⟨V418, eV418, gV, bV, hV418⟩ := alloc1n V397 (Obj.cells #[.int .i64 (wd : Int), .slice a0 k0 c0] 28)
          have FK_419 := Lib.hid (FK_398.out.below bV)
          have FB_420 := Lib.hid (below_of FB_399.out bV)
          have FG_421 := Lib.hid (car bV FG_400.out)
          have FK_422 := Lib.hid (FK_401.out.below bV)
          have FG_423 := Lib.hid (car bV FG_402.out)
          have FK_424 := Lib.hid (FK_403.out.below bV)
          have FG_425 := Lib.hid (car bV FG_404.out)
          have FK_426 := Lib.hid (FK_405.out.below bV)
          have FG_427 := Lib.hid (car bV FG_406.out)
          have FK_428 := Lib.hid (FK_407.out.below bV)
          have FG_429 := Lib.hid (car bV FG_408.out)
          have FK_430 := Lib.hid (FK_409.out.below bV)
          have FG_431 := Lib.hid (car bV FG_410.out)
          have FK_432 := Lib.hid (FK_411.out.below bV)
          have FG_433 := Lib.hid (car bV FG_412.out)
          have FK_434 := Lib.hid (FK_413.out.below bV)
          have FG_435 := Lib.hid (car bV FG_414.out)
          have FK_436 := Lib.hid (FK_415.out.below bV)
          have FG_437 := Lib.hid (car bV FG_416.out)
          clear FK_398 FB_399 FG_400 FK_401 FG_402 FK_403 FG_404 FK_405 FG_406 FK_407 FG_408 FK_409 FG_410 FK_411 FG_412 FK_413 FG_414 FK_415 FG_416
          have EV418 := Lib.hid eV418
          clear eV418
          have PAL := Lib.hid ((pal_one gP.out).below bV)
          have BVL := Lib.hid (bva_one gV FK_419.out); rw [HXS.out] at BVL
          clear gV bV
          go_wp2_with fail
          try rw [EV418.out]
          refine (ZX.out hf _ _ _ PAL.out BVL.out).mono ?_
          rintro e w438 ⟨a438, k438, c438, rfl, hk, hb⟩
          clear p417 q417
          have FK_439 := Lib.hid (FK_419.out.below hb)
          have FB_440 := Lib.hid (below_of FB_420.out hb)
          have FG_441 := Lib.hid (car hb FG_421.out)
          have FK_442 := Lib.hid (FK_422.out.below hb)
          have FG_443 := Lib.hid (car hb FG_423.out)
          have FK_444 := Lib.hid (FK_424.out.below hb)
          have FG_445 := Lib.hid (car hb FG_425.out)
          have FK_446 := Lib.hid (FK_426.out.below hb)
          have FG_447 := Lib.hid (car hb FG_427.out)
          have FK_448 := Lib.hid (FK_428.out.below hb)
          have FG_449 := Lib.hid (car hb FG_429.out)
          have FK_450 := Lib.hid (FK_430.out.below hb)
          have FG_451 := Lib.hid (car hb FG_431.out)
          have FK_452 := Lib.hid (FK_432.out.below hb)
          have FG_453 := Lib.hid (car hb FG_433.out)
          have FK_454 := Lib.hid (FK_434.out.below hb)
          have FG_455 := Lib.hid (car hb FG_435.out)
          have FK_456 := Lib.hid (FK_436.out.below hb)
          have FG_457 := Lib.hid (car hb FG_437.out)
          clear FK_419 FB_420 FG_421 FK_422 FG_423 FK_424 FG_425 FK_426 FG_427 FK_428 FG_429 FK_430 FG_431 FK_432 FG_433 FK_434 FG_435 FK_436 FG_437
          clear hb
          have FK_458 := Lib.hid hk
          clear hk
          obtain ⟨V459, eV459, gV, bV, hV459⟩ := alloc1n w438 (Obj.cells #[.int .i64 ((wd : Int) + (p : Int)), .slice a438 k438 c438] 28)
          have FK_460 := Lib.hid (FK_439.out.below bV)
          have FB_461 := Lib.hid (below_of FB_440.out bV)
          have FG_462 := Lib.hid (car bV FG_441.out)
          have FK_463 := Lib.hid (FK_442.out.below bV)
          have FG_464 := Lib.hid (car bV FG_443.out)
          have FK_465 := Lib.hid (FK_444.out.below bV)
          have FG_466 := Lib.hid (car bV FG_445.out)
          have FK_467 := Lib.hid (FK_446.out.below bV)
          have FG_468 := Lib.hid (car bV FG_447.out)
          have FK_469 := Lib.hid (FK_448.out.below bV)
          have FG_470 := Lib.hid (car bV FG_449.out)
          have FK_471 := Lib.hid (FK_450.out.below bV)
          have FG_472 := Lib.hid (car bV FG_451.out)
          have FK_473 := Lib.hid (FK_452.out.below bV)
          have FG_474 := Lib.hid (car bV FG_453.out)
          have FK_475 := Lib.hid (FK_454.out.below bV)
          have FG_476 := Lib.hid (car bV FG_455.out)
          have FK_477 := Lib.hid (FK_456.out.below bV)
          have FG_478 := Lib.hid (car bV FG_457.out)
          have FK_479 := Lib.hid (FK_458.out.below bV)
          clear FK_439 FB_440 FG_441 FK_442 FG_443 FK_444 FG_445 FK_446 FG_447 FK_448 FG_449 FK_450 FG_451 FK_452 FG_453 FK_454 FG_455 FK_456 FG_457 FK_458
          have EV459 := Lib.hid eV459
          clear eV459
          have FG_480 := Lib.hid gV
          clear gV bV BVL PAL gP eV397
          go_upto_region 23 with fail
          try rw [EV459.out]
          obtain ⟨p481, q481, -, -, -⟩ := blk2 FG_462.out
          go_upto_region 25 with fail
          clear p481 q481
          obtain ⟨p482, q482, -, -, -⟩ := blk2 FG_478.out
          go_wp2_with fail
          refine (SK.out hf _ _ _ _ FK_477.out).mono ?_
          rintro e w483 ⟨n483, a483, k483, c483, rfl, hk, hb⟩
          clear p482 q482
          have FK_484 := Lib.hid (FK_460.out.below hb)
          have FB_485 := Lib.hid (below_of FB_461.out hb)
          have FG_486 := Lib.hid (car hb FG_462.out)
          have FK_487 := Lib.hid (FK_463.out.below hb)
          have FG_488 := Lib.hid (car hb FG_464.out)
          have FK_489 := Lib.hid (FK_465.out.below hb)
          have FG_490 := Lib.hid (car hb FG_466.out)
          have FK_491 := Lib.hid (FK_467.out.below hb)
          have FG_492 := Lib.hid (car hb FG_468.out)
          have FK_493 := Lib.hid (FK_469.out.below hb)
          have FG_494 := Lib.hid (car hb FG_470.out)
          have FK_495 := Lib.hid (FK_471.out.below hb)
          have FG_496 := Lib.hid (car hb FG_472.out)
          have FK_497 := Lib.hid (FK_473.out.below hb)
          have FG_498 := Lib.hid (car hb FG_474.out)
          have FK_499 := Lib.hid (FK_475.out.below hb)
          have FG_500 := Lib.hid (car hb FG_476.out)
          have FK_501 := Lib.hid (FK_477.out.below hb)
          have FG_502 := Lib.hid (car hb FG_478.out)
          have FK_503 := Lib.hid (FK_479.out.below hb)
          have FG_504 := Lib.hid (car hb FG_480.out)
          clear FK_460 FB_461 FG_462 FK_463 FG_464 FK_465 FG_466 FK_467 FG_468 FK_469 FG_470 FK_471 FG_472 FK_473 FG_474 FK_475 FG_476 FK_477 FG_478 FK_479 FG_480
          clear hb
          have FK_505 := Lib.hid hk
          clear hk
          obtain ⟨V506, eV506, gV, bV, hV506⟩ := alloc1n w483 (Obj.cells #[.bool n483, .slice a483 k483 c483] 26)
          have FK_507 := Lib.hid (FK_484.out.below bV)
          have FB_508 := Lib.hid (below_of FB_485.out bV)
          have FG_509 := Lib.hid (car bV FG_486.out)
          have FK_510 := Lib.hid (FK_487.out.below bV)
          have FG_511 := Lib.hid (car bV FG_488.out)
          have FK_512 := Lib.hid (FK_489.out.below bV)
          have FG_513 := Lib.hid (car bV FG_490.out)
          have FK_514 := Lib.hid (FK_491.out.below bV)
          have FG_515 := Lib.hid (car bV FG_492.out)
          have FK_516 := Lib.hid (FK_493.out.below bV)
          have FG_517 := Lib.hid (car bV FG_494.out)
          have FK_518 := Lib.hid (FK_495.out.below bV)
          have FG_519 := Lib.hid (car bV FG_496.out)
          have FK_520 := Lib.hid (FK_497.out.below bV)
          have FG_521 := Lib.hid (car bV FG_498.out)
          have FK_522 := Lib.hid (FK_499.out.below bV)
          have FG_523 := Lib.hid (car bV FG_500.out)
          have FK_524 := Lib.hid (FK_501.out.below bV)
          have FG_525 := Lib.hid (car bV FG_502.out)
          have FK_526 := Lib.hid (FK_503.out.below bV)
          have FG_527 := Lib.hid (car bV FG_504.out)
          have FK_528 := Lib.hid (FK_505.out.below bV)
          clear FK_484 FB_485 FG_486 FK_487 FG_488 FK_489 FG_490 FK_491 FG_492 FK_493 FG_494 FK_495 FG_496 FK_497 FG_498 FK_499 FG_500 FK_501 FG_502 FK_503 FG_504 FK_505
          have EV506 := Lib.hid eV506
          clear eV506
          have FG_529 := Lib.hid gV
          clear gV bV
          go_upto_region 26 with fail
          try rw [EV506.out]
          obtain ⟨p530, q530, -, -, -⟩ := blk2 FG_509.out
          go_wp2_with fail
          refine (SI.out _ FK_507.out).mono ?_
          rintro e w531 ⟨n531, a531, k531, c531, rfl, hk, hb⟩
          clear p530 q530
          have FK_532 := Lib.hid (FK_507.out.below hb)
          have FB_533 := Lib.hid (below_of FB_508.out hb)
          have FG_534 := Lib.hid (car hb FG_509.out)
          have FK_535 := Lib.hid (FK_510.out.below hb)
          have FG_536 := Lib.hid (car hb FG_511.out)
          have FK_537 := Lib.hid (FK_512.out.below hb)
          have FG_538 := Lib.hid (car hb FG_513.out)
          have FK_539 := Lib.hid (FK_514.out.below hb)
          have FG_540 := Lib.hid (car hb FG_515.out)
          have FK_541 := Lib.hid (FK_516.out.below hb)
          have FG_542 := Lib.hid (car hb FG_517.out)
          have FK_543 := Lib.hid (FK_518.out.below hb)
          have FG_544 := Lib.hid (car hb FG_519.out)
          have FK_545 := Lib.hid (FK_520.out.below hb)
          have FG_546 := Lib.hid (car hb FG_521.out)
          have FK_547 := Lib.hid (FK_522.out.below hb)
          have FG_548 := Lib.hid (car hb FG_523.out)
          have FK_549 := Lib.hid (FK_524.out.below hb)
          have FG_550 := Lib.hid (car hb FG_525.out)
          have FK_551 := Lib.hid (FK_526.out.below hb)
          have FG_552 := Lib.hid (car hb FG_527.out)
          have FK_553 := Lib.hid (FK_528.out.below hb)
          have FG_554 := Lib.hid (car hb FG_529.out)
          clear FK_507 FB_508 FG_509 FK_510 FG_511 FK_512 FG_513 FK_514 FG_515 FK_516 FG_517 FK_518 FG_519 FK_520 FG_521 FK_522 FG_523 FK_524 FG_525 FK_526 FG_527 FK_528 FG_529
          clear hb
          have FK_555 := Lib.hid hk
          clear hk
          obtain ⟨V556, eV556, gV, bV, hV556⟩ := alloc1n w531 (Obj.cells #[.bool n531, .slice a531 k531 c531] 26)
          have FK_557 := Lib.hid (FK_532.out.below bV)
          have FB_558 := Lib.hid (below_of FB_533.out bV)
          have FG_559 := Lib.hid (car bV FG_534.out)
          have FK_560 := Lib.hid (FK_535.out.below bV)
          have FG_561 := Lib.hid (car bV FG_536.out)
          have FK_562 := Lib.hid (FK_537.out.below bV)
          have FG_563 := Lib.hid (car bV FG_538.out)
          have FK_564 := Lib.hid (FK_539.out.below bV)
          have FG_565 := Lib.hid (car bV FG_540.out)
          have FK_566 := Lib.hid (FK_541.out.below bV)
          have FG_567 := Lib.hid (car bV FG_542.out)
          have FK_568 := Lib.hid (FK_543.out.below bV)
          have FG_569 := Lib.hid (car bV FG_544.out)
          have FK_570 := Lib.hid (FK_545.out.below bV)
          have FG_571 := Lib.hid (car bV FG_546.out)
          have FK_572 := Lib.hid (FK_547.out.below bV)
          have FG_573 := Lib.hid (car bV FG_548.out)
          have FK_574 := Lib.hid (FK_549.out.below bV)
          have FG_575 := Lib.hid (car bV FG_550.out)
          have FK_576 := Lib.hid (FK_551.out.below bV)
          have FG_577 := Lib.hid (car bV FG_552.out)
          have FK_578 := Lib.hid (FK_553.out.below bV)
          have FG_579 := Lib.hid (car bV FG_554.out)
          have FK_580 := Lib.hid (FK_555.out.below bV)
          clear FK_532 FB_533 FG_534 FK_535 FG_536 FK_537 FG_538 FK_539 FG_540 FK_541 FG_542 FK_543 FG_544 FK_545 FG_546 FK_547 FG_548 FK_549 FG_550 FK_551 FG_552 FK_553 FG_554 FK_555
          have EV556 := Lib.hid eV556
          clear eV556
          have FG_581 := Lib.hid gV
          clear gV bV
          go_upto_region 27 with fail
          try rw [EV556.out]
          obtain ⟨p582, q582, -, -, -⟩ := blk2 FG_577.out
          go_wp2_with fail
          refine (UK.out hf _ _ _ _ FK_576.out).mono ?_
          rintro e w583 ⟨n583, a583, k583, c583, rfl, hk, hb⟩
          clear p582 q582
          have FK_584 := Lib.hid (FK_557.out.below hb)
          have FB_585 := Lib.hid (below_of FB_558.out hb)
          have FG_586 := Lib.hid (car hb FG_559.out)
          have FK_587 := Lib.hid (FK_560.out.below hb)
          have FG_588 := Lib.hid (car hb FG_561.out)
          have FK_589 := Lib.hid (FK_562.out.below hb)
          have FG_590 := Lib.hid (car hb FG_563.out)
          have FK_591 := Lib.hid (FK_564.out.below hb)
          have FG_592 := Lib.hid (car hb FG_565.out)
          have FK_593 := Lib.hid (FK_566.out.below hb)
          have FG_594 := Lib.hid (car hb FG_567.out)
          have FK_595 := Lib.hid (FK_568.out.below hb)
          have FG_596 := Lib.hid (car hb FG_569.out)
          have FK_597 := Lib.hid (FK_570.out.below hb)
          have FG_598 := Lib.hid (car hb FG_571.out)
          have FK_599 := Lib.hid (FK_572.out.below hb)
          have FG_600 := Lib.hid (car hb FG_573.out)
          have FK_601 := Lib.hid (FK_574.out.below hb)
          have FG_602 := Lib.hid (car hb FG_575.out)
          have FK_603 := Lib.hid (FK_576.out.below hb)
          have FG_604 := Lib.hid (car hb FG_577.out)
          have FK_605 := Lib.hid (FK_578.out.below hb)
          have FG_606 := Lib.hid (car hb FG_579.out)
          have FK_607 := Lib.hid (FK_580.out.below hb)
          have FG_608 := Lib.hid (car hb FG_581.out)
          clear FK_557 FB_558 FG_559 FK_560 FG_561 FK_562 FG_563 FK_564 FG_565 FK_566 FG_567 FK_568 FG_569 FK_570 FG_571 FK_572 FG_573 FK_574 FG_575 FK_576 FG_577 FK_578 FG_579 FK_580 FG_581
          clear hb
          have FK_609 := Lib.hid hk
          clear hk
          obtain ⟨V610, eV610, gV, bV, hV610⟩ := alloc1n w583 (Obj.cells #[.bool n583, .slice a583 k583 c583] 26)
          have FK_611 := Lib.hid (FK_584.out.below bV)
          have FB_612 := Lib.hid (below_of FB_585.out bV)
          have FG_613 := Lib.hid (car bV FG_586.out)
          have FK_614 := Lib.hid (FK_587.out.below bV)
          have FG_615 := Lib.hid (car bV FG_588.out)
          have FK_616 := Lib.hid (FK_589.out.below bV)
          have FG_617 := Lib.hid (car bV FG_590.out)
          have FK_618 := Lib.hid (FK_591.out.below bV)
          have FG_619 := Lib.hid (car bV FG_592.out)
          have FK_620 := Lib.hid (FK_593.out.below bV)
          have FG_621 := Lib.hid (car bV FG_594.out)
          have FK_622 := Lib.hid (FK_595.out.below bV)
          have FG_623 := Lib.hid (car bV FG_596.out)
          have FK_624 := Lib.hid (FK_597.out.below bV)
          have FG_625 := Lib.hid (car bV FG_598.out)
          have FK_626 := Lib.hid (FK_599.out.below bV)
          have FG_627 := Lib.hid (car bV FG_600.out)
          have FK_628 := Lib.hid (FK_601.out.below bV)
          have FG_629 := Lib.hid (car bV FG_602.out)
          have FK_630 := Lib.hid (FK_603.out.below bV)
          have FG_631 := Lib.hid (car bV FG_604.out)
          have FK_632 := Lib.hid (FK_605.out.below bV)
          have FG_633 := Lib.hid (car bV FG_606.out)
          have FK_634 := Lib.hid (FK_607.out.below bV)
          have FG_635 := Lib.hid (car bV FG_608.out)
          have FK_636 := Lib.hid (FK_609.out.below bV)
          clear FK_584 FB_585 FG_586 FK_587 FG_588 FK_589 FG_590 FK_591 FG_592 FK_593 FG_594 FK_595 FG_596 FK_597 FG_598 FK_599 FG_600 FK_601 FG_602 FK_603 FG_604 FK_605 FG_606 FK_607 FG_608 FK_609
          have EV610 := Lib.hid eV610
          clear eV610
          have FG_637 := Lib.hid gV
          clear gV bV
          go_upto_region 28 with fail
          try rw [EV610.out]
          obtain ⟨p638, q638, -, -, -⟩ := blk2 FG_633.out
          obtain ⟨p639, q639, -, -, -⟩ := blk2 FG_635.out
          go_wp2_with fail
          refine (cmp0 FK_632.out FK_634.out).mono ?_
          rintro e w640 ⟨rfl, hb⟩
          clear p638 q638 p639 q639
          have FK_641 := Lib.hid (FK_611.out.below hb)
          have FB_642 := Lib.hid (below_of FB_612.out hb)
          have FG_643 := Lib.hid (car hb FG_613.out)
          have FK_644 := Lib.hid (FK_614.out.below hb)
          have FG_645 := Lib.hid (car hb FG_615.out)
          have FK_646 := Lib.hid (FK_616.out.below hb)
          have FG_647 := Lib.hid (car hb FG_617.out)
          have FK_648 := Lib.hid (FK_618.out.below hb)
          have FG_649 := Lib.hid (car hb FG_619.out)
          have FK_650 := Lib.hid (FK_620.out.below hb)
          have FG_651 := Lib.hid (car hb FG_621.out)
          have FK_652 := Lib.hid (FK_622.out.below hb)
          have FG_653 := Lib.hid (car hb FG_623.out)
          have FK_654 := Lib.hid (FK_624.out.below hb)
          have FG_655 := Lib.hid (car hb FG_625.out)
          have FK_656 := Lib.hid (FK_626.out.below hb)
          have FG_657 := Lib.hid (car hb FG_627.out)
          have FK_658 := Lib.hid (FK_628.out.below hb)
          have FG_659 := Lib.hid (car hb FG_629.out)
          have FK_660 := Lib.hid (FK_630.out.below hb)
          have FG_661 := Lib.hid (car hb FG_631.out)
          have FK_662 := Lib.hid (FK_632.out.below hb)
          have FG_663 := Lib.hid (car hb FG_633.out)
          have FK_664 := Lib.hid (FK_634.out.below hb)
          have FG_665 := Lib.hid (car hb FG_635.out)
          have FK_666 := Lib.hid (FK_636.out.below hb)
          have FG_667 := Lib.hid (car hb FG_637.out)
          clear FK_611 FB_612 FG_613 FK_614 FG_615 FK_616 FG_617 FK_618 FG_619 FK_620 FG_621 FK_622 FG_623 FK_624 FG_625 FK_626 FG_627 FK_628 FG_629 FK_630 FG_631 FK_632 FG_633 FK_634 FG_635 FK_636 FG_637
          clear hb
          obtain ⟨p668, q668, -, -, -⟩ := blk2 FG_667.out
          obtain ⟨p669, q669, -, -, -⟩ := blk2 FG_645.out
          go_wp2_with fail
          refine (cmp0 FK_666.out FK_644.out).mono ?_
          rintro e w670 ⟨rfl, hb⟩
          clear p668 q668 p669 q669
          have FK_671 := Lib.hid (FK_641.out.below hb)
          have FB_672 := Lib.hid (below_of FB_642.out hb)
          have FG_673 := Lib.hid (car hb FG_643.out)
          have FK_674 := Lib.hid (FK_644.out.below hb)
          have FG_675 := Lib.hid (car hb FG_645.out)
          have FK_676 := Lib.hid (FK_646.out.below hb)
          have FG_677 := Lib.hid (car hb FG_647.out)
          have FK_678 := Lib.hid (FK_648.out.below hb)
          have FG_679 := Lib.hid (car hb FG_649.out)
          have FK_680 := Lib.hid (FK_650.out.below hb)
          have FG_681 := Lib.hid (car hb FG_651.out)
          have FK_682 := Lib.hid (FK_652.out.below hb)
          have FG_683 := Lib.hid (car hb FG_653.out)
          have FK_684 := Lib.hid (FK_654.out.below hb)
          have FG_685 := Lib.hid (car hb FG_655.out)
          have FK_686 := Lib.hid (FK_656.out.below hb)
          have FG_687 := Lib.hid (car hb FG_657.out)
          have FK_688 := Lib.hid (FK_658.out.below hb)
          have FG_689 := Lib.hid (car hb FG_659.out)
          have FK_690 := Lib.hid (FK_660.out.below hb)
          have FG_691 := Lib.hid (car hb FG_661.out)
          have FK_692 := Lib.hid (FK_662.out.below hb)
          have FG_693 := Lib.hid (car hb FG_663.out)
          have FK_694 := Lib.hid (FK_664.out.below hb)
          have FG_695 := Lib.hid (car hb FG_665.out)
          have FK_696 := Lib.hid (FK_666.out.below hb)
          have FG_697 := Lib.hid (car hb FG_667.out)
          clear FK_641 FB_642 FG_643 FK_644 FG_645 FK_646 FG_647 FK_648 FG_649 FK_650 FG_651 FK_652 FG_653 FK_654 FG_655 FK_656 FG_657 FK_658 FG_659 FK_660 FG_661 FK_662 FG_663 FK_664 FG_665 FK_666 FG_667
          clear hb
          go_wp2_with fail
          refine (alive9 _).mono ?_
          rintro e w698 ⟨rfl, hb⟩
          have FK_699 := Lib.hid (FK_671.out.below hb)
          have FB_700 := Lib.hid (below_of FB_672.out hb)
          have FG_701 := Lib.hid (car hb FG_673.out)
          have FK_702 := Lib.hid (FK_674.out.below hb)
          have FG_703 := Lib.hid (car hb FG_675.out)
          have FK_704 := Lib.hid (FK_676.out.below hb)
          have FG_705 := Lib.hid (car hb FG_677.out)
          have FK_706 := Lib.hid (FK_678.out.below hb)
          have FG_707 := Lib.hid (car hb FG_679.out)
          have FK_708 := Lib.hid (FK_680.out.below hb)
          have FG_709 := Lib.hid (car hb FG_681.out)
          have FK_710 := Lib.hid (FK_682.out.below hb)
          have FG_711 := Lib.hid (car hb FG_683.out)
          have FK_712 := Lib.hid (FK_684.out.below hb)
          have FG_713 := Lib.hid (car hb FG_685.out)
          have FK_714 := Lib.hid (FK_686.out.below hb)
          have FG_715 := Lib.hid (car hb FG_687.out)
          have FK_716 := Lib.hid (FK_688.out.below hb)
          have FG_717 := Lib.hid (car hb FG_689.out)
          have FK_718 := Lib.hid (FK_690.out.below hb)
          have FG_719 := Lib.hid (car hb FG_691.out)
          have FK_720 := Lib.hid (FK_692.out.below hb)
          have FG_721 := Lib.hid (car hb FG_693.out)
          have FK_722 := Lib.hid (FK_694.out.below hb)
          have FG_723 := Lib.hid (car hb FG_695.out)
          have FK_724 := Lib.hid (FK_696.out.below hb)
          have FG_725 := Lib.hid (car hb FG_697.out)
          clear FK_671 FB_672 FG_673 FK_674 FG_675 FK_676 FG_677 FK_678 FG_679 FK_680 FG_681 FK_682 FG_683 FK_684 FG_685 FK_686 FG_687 FK_688 FG_689 FK_690 FG_691 FK_692 FG_693 FK_694 FG_695 FK_696 FG_697
          clear hb
          go_wp2
          go_ret
          exact ⟨rfl, FB_700.out⟩
end Go.Proofs.YtccofiakblmkhaaGreat
