/- BitsTurns: the walk (gen9w.py). -/
import Derived.Test.YtccofiakblmkhaaGreatT9NT9
import Derived.Test.YtccofiakblmkhaaGreatT9N5
import Derived.Test.YtccofiakblmkhaaGreatT99M
set_option linter.unusedVariables false
set_option linter.unusedSimpArgs false
namespace Go.Proofs.YtccofiakblmkhaaGreat
open Go.RowKit Mth

set_option maxHeartbeats 32000000 in
set_option maxRecDepth 100000 in
theorem turns_one (wd m c p : Nat) (h1 : 1 ≤ wd) (h2 : wd ≤ 4096) (hm : m < 2 ^ wd) (v : Value) (xs : List Nat) (hxs : val B64 xs = m) (cut k : Int) (w : World) (s0 : BvA w v (wd : Int) xs)
    (hc : c < wd) (hc1 : c = 0) (hcut : (cut < 1 ∨ (wd : Int) ≤ cut) ∧ (c : Int) = (wd : Int).tdiv 2 ∨ ¬ (cut < 1 ∨ (wd : Int) ≤ cut) ∧ (c : Int) = cut) (hp : p ≤ 4096) (hkp : (k < 0 ∨ 4096 < k) ∧ (p : Int) = 3 ∨ ¬ (k < 0 ∨ 4096 < k) ∧ (p : Int) = k) :
    Calls Tryz.prog 9 #[v, .int .i64 cut, .int .i64 k] w fun e w' => e = .returned (.bool true) ∧ Below w.heap.size w w' := by
  obtain ⟨u, rfl, t1, t2, t3⟩ := s0
  obtain ⟨a0, c0, rfl⟩ := t1.shape
  have VF : Hid (BvA w (.agg #[.int .i64 (wd : Int), .slice a0 xs.length c0]) (wd : Int) xs) := Lib.hid ⟨_, rfl, t1, t2, t3⟩
  generalize hk0 : xs.length = k0 at *
  clear t1 t2 t3 hk0
  obtain ⟨q, hq⟩ : ∃ q, p % wd = q := ⟨_, rfl⟩
  have hql : q ≤ wd := by have := Nat.mod_lt p (show 0 < wd by omega); omega
  have RT : Hid (∀ w1, BvA w1 (.agg #[.int .i64 (wd : Int), .slice a0 k0 c0]) (wd : Int) xs → Calls Tryz.prog 22 #[.agg #[.int .i64 (wd : Int), .slice a0 k0 c0]] w1 fun e w' => e = .returned (.bool true) ∧ Below w1.heap.size w1 w') := Lib.hid (fun w1 hv => by
    have h := hv.right
    rw [right_fine h1 h2 (by rw [hxs]; exact hm)] at h
    exact h)
  have UN : Hid (∀ w1, BvA w1 (.agg #[.int .i64 (wd : Int), .slice a0 k0 c0]) (wd : Int) xs → Calls Tryz.prog 16 #[.agg #[.int .i64 (wd : Int), .slice a0 k0 c0]] w1 fun e w' => ResI w1 w' e (m : Int) 0) := Lib.hid (fun w1 hv => by
    have h := uns_good _ wd xs h1 h2 (by rw [hxs]; exact hm) w1 hv
    rw [hxs] at h
    exact h)
  have SI : Hid (∀ w1, BvA w1 (.agg #[.int .i64 (wd : Int), .slice a0 k0 c0]) (wd : Int) xs → Calls Tryz.prog 18 #[.agg #[.int .i64 (wd : Int), .slice a0 k0 c0]] w1 fun e w' => ResI w1 w' e (sgV wd m) 0) := Lib.hid (fun w1 hv => by
    have h := sig_good _ wd xs h1 h2 (by rw [hxs]; exact hm) w1 hv
    rw [hxs] at h
    exact h)
  have FR : Hid (∀ va w1, IntV w1 va (m : Int) → Calls Tryz.prog 14 #[.int .i64 (wd : Int), va] w1 fun e w' => ResBE w1 w' e wd m) := Lib.hid (fun va w1 hv => (fromK wd h1 h2 va (m : Int) w1 hv).mono fun e w' h => to_wd h rfl (vec_small hm))
  obtain ⟨l, hl⟩ : ∃ l, vecN wd ((rotZ wd m q : Nat) : Int) = l := ⟨_, rfl⟩
  have hll : l < 2 ^ wd := by rw [← hl]; exact vec_lt _ _
  have RL : Hid (∀ pv av w1, PaL w1 pv [(p : Int)] → BvL w1 av [(wd, m)] → Calls Tryz.prog 25 #[.int .i64 66, pv, av] w1 fun e w' => ResBE w1 w' e wd l) := Lib.hid (fun pv av w1 g1 g2 => (apply_rotl pv av wd m p q hq h1 h2 hm hp w1 g1 g2).mono fun e w' h => to_wd h rfl hl)
  have RR : Hid (∀ pv av w1, PaL w1 pv [(p : Int)] → BvL w1 av [(wd, l)] → Calls Tryz.prog 25 #[.int .i64 67, pv, av] w1 fun e w' => ResBE w1 w' e wd m) := Lib.hid (fun pv av w1 g1 g2 => (apply_rotr pv av wd l p q hq h1 h2 hll hp w1 g1 g2).mono fun e w' h => to_wd h rfl (by rw [← hl]; exact rot_back hql hm))
  have SX : Hid (∀ (_ : (wd : Int) + (p : Int) ≤ 4096) pv av w1, PaL w1 pv [(p : Int)] → BvL w1 av [(wd, m)] → Calls Tryz.prog 25 #[.int .i64 65, pv, av] w1 fun e w' => ResBE w1 w' e (wd + p) (vecN (wd + p) (sgV wd m))) := Lib.hid (fun hf pv av w1 g1 g2 => apply_sext pv av wd m p h1 h2 hm (by omega) w1 g1 g2)
  have ZX : Hid (∀ (_ : (wd : Int) + (p : Int) ≤ 4096) pv av w1, PaL w1 pv [(p : Int)] → BvL w1 av [(wd, m)] → Calls Tryz.prog 25 #[.int .i64 64, pv, av] w1 fun e w' => ResBE w1 w' e (wd + p) m) := Lib.hid (fun hf pv av w1 g1 g2 => (apply_zext pv av wd m p h1 h2 hm (by omega) w1 g1 g2).mono fun e w' h => to_wd h rfl (vec_small (Nat.lt_of_lt_of_le hm (Nat.pow_le_pow_right (by omega) (by omega)))))
  have SXE : Hid (∀ (_ : ¬ (wd : Int) + (p : Int) ≤ 4096) pv av w1, PaL w1 pv [(p : Int)] → BvL w1 av [(wd, m)] → Calls Tryz.prog 25 #[.int .i64 65, pv, av] w1 fun e w' => e = .returned (.tuple #[.agg #[.int .i64 0, .slice none 0 0], .int .i64 55]) ∧ Below w1.heap.size w1 w') := Lib.hid (fun hf pv av w1 g1 g2 => apply_sextE pv av wd m p h1 h2 hm hp (by omega) w1 g1 g2)
  have ZXE : Hid (∀ (_ : ¬ (wd : Int) + (p : Int) ≤ 4096) pv av w1, PaL w1 pv [(p : Int)] → BvL w1 av [(wd, m)] → Calls Tryz.prog 25 #[.int .i64 64, pv, av] w1 fun e w' => e = .returned (.tuple #[.agg #[.int .i64 0, .slice none 0 0], .int .i64 55]) ∧ Below w1.heap.size w1 w') := Lib.hid (fun hf pv av w1 g1 g2 => apply_zextE pv av wd m p h1 h2 hm hp (by omega) w1 g1 g2)
  have SK : Hid (∀ (_ : (wd : Int) + (p : Int) ≤ 4096) a k c w1, BvK w1 (wd + p) a k c (vecN (wd + p) (sgV wd m)) → Calls Tryz.prog 18 #[.agg #[.int .i64 ((wd : Int) + (p : Int)), .slice a k c]] w1 fun e w' => ResI w1 w' e (sgV wd m) 0) := Lib.hid (fun hf a k c w1 h => by
    have h := sigK (by omega) (by omega) h
    rw [sext_back h1 hm, show ((wd + p : Nat) : Int) = (wd : Int) + (p : Int) by omega] at h
    exact h)
  have UK : Hid (∀ (_ : (wd : Int) + (p : Int) ≤ 4096) a k c w1, BvK w1 (wd + p) a k c m → Calls Tryz.prog 16 #[.agg #[.int .i64 ((wd : Int) + (p : Int)), .slice a k c]] w1 fun e w' => ResI w1 w' e (m : Int) 0) := Lib.hid (fun hf a k c w1 h => by
    have h := unsK (by omega) (by omega) h
    rw [show ((wd + p : Nat) : Int) = (wd : Int) + (p : Int) by omega] at h
    exact h)
  have hwd1 : (1 : Int) ≤ (wd : Int) := by omega
  have hwd2 : (wd : Int) ≤ 4096 := by omega
  have hpp : (p : Int) ≤ 4096 := by omega
  have hcc : (c : Int) < (wd : Int) := by omega
  have hc2 : ¬ (1 : Int) ≤ (c : Int) := by omega
  have HXS := Lib.hid hxs; have HCUT := Lib.hid hcut; have HKP := Lib.hid hkp; have HC1 := Lib.hid hc1
  clear hq hql hl hll hm hxs hcut hkp hc1
  have FB_1 := Lib.hid (Below.refl w.heap.size w)
  obtain ⟨V2, eV2, gV, bV, hV2⟩ := alloc1n w (Obj.cells #[.int .i64 (wd : Int), .slice a0 k0 c0] 28)
  have FK_3 := Lib.hid (VF.out.below bV)
  have FB_4 := Lib.hid (below_of FB_1.out bV)
  clear VF FB_1
  have EV2 := Lib.hid eV2
  clear eV2
  have FG_5 := Lib.hid gV
  clear gV bV
  obtain ⟨p6, q6, -, -, -⟩ := blk2 FG_5.out
  go_enter Tryz.func9, Tryz.ntmps9
  go_wp2_with fail
  try rw [EV2.out]
  refine (RT.out _ FK_3.out).mono ?_
  rintro e w7 ⟨rfl, hb⟩
  clear p6 q6
  have FK_8 := Lib.hid (FK_3.out.below hb)
  have FB_9 := Lib.hid (below_of FB_4.out hb)
  have FG_10 := Lib.hid (car hb FG_5.out)
  clear FK_3 FB_4 FG_5
  clear hb
  obtain ⟨p11, q11, -, -, -⟩ := blk2 FG_10.out
  go_wp2_with fail
  refine (UN.out _ FK_8.out).mono ?_
  rintro e w12 ⟨n12, a12, k12, c12, rfl, hk, hb⟩
  clear p11 q11
  have FK_13 := Lib.hid (FK_8.out.below hb)
  have FB_14 := Lib.hid (below_of FB_9.out hb)
  have FG_15 := Lib.hid (car hb FG_10.out)
  clear FK_8 FB_9 FG_10
  clear hb
  have FK_16 := Lib.hid hk
  clear hk
  obtain ⟨V17, eV17, gV, bV, hV17⟩ := alloc1n w12 (Obj.cells #[.bool n12, .slice a12 k12 c12] 26)
  have FK_18 := Lib.hid (FK_13.out.below bV)
  have FB_19 := Lib.hid (below_of FB_14.out bV)
  have FG_20 := Lib.hid (car bV FG_15.out)
  have FK_21 := Lib.hid (FK_16.out.below bV)
  clear FK_13 FB_14 FG_15 FK_16
  have EV17 := Lib.hid eV17
  clear eV17
  have FG_22 := Lib.hid gV
  clear gV bV
  go_upto_region 4 with fail
  try rw [EV17.out]
  obtain ⟨p23, q23, -, -, -⟩ := blk2 FG_20.out
  obtain ⟨p24, q24, -, -, -⟩ := blk2 FG_22.out
  go_wp2_with fail
  refine (FR.out _ _ FK_21.out).mono ?_
  rintro e w25 ⟨a25, k25, c25, rfl, hk, hb⟩
  clear p23 q23 p24 q24
  have FK_26 := Lib.hid (FK_18.out.below hb)
  have FB_27 := Lib.hid (below_of FB_19.out hb)
  have FG_28 := Lib.hid (car hb FG_20.out)
  have FK_29 := Lib.hid (FK_21.out.below hb)
  have FG_30 := Lib.hid (car hb FG_22.out)
  clear FK_18 FB_19 FG_20 FK_21 FG_22
  clear hb
  have FK_31 := Lib.hid hk
  clear hk
  obtain ⟨V32, eV32, gV, bV, hV32⟩ := alloc1n w25 (Obj.cells #[.int .i64 (wd : Int), .slice a25 k25 c25] 28)
  have FK_33 := Lib.hid (FK_26.out.below bV)
  have FB_34 := Lib.hid (below_of FB_27.out bV)
  have FG_35 := Lib.hid (car bV FG_28.out)
  have FK_36 := Lib.hid (FK_29.out.below bV)
  have FG_37 := Lib.hid (car bV FG_30.out)
  have FK_38 := Lib.hid (FK_31.out.below bV)
  clear FK_26 FB_27 FG_28 FK_29 FG_30 FK_31
  have EV32 := Lib.hid eV32
  clear eV32
  have FG_39 := Lib.hid gV
  clear gV bV
  go_upto_region 5 with fail
  try rw [EV32.out]
  go_upto_region 7 with fail
  obtain ⟨p40, q40, -, -, -⟩ := blk2 FG_35.out
  go_cut [60] (fun s wx => .bool (decide (cut < 1 ∨ (wd : Int) ≤ cut)) = s ∧ V32 = wx)
  case first =>
    by_cases z1 : cut < 1
    · have Z := Lib.hid (decide_eq_true (p := cut < 1 ∨ (wd : Int) ≤ cut) (Or.inl z1)); go_wp2; go_meet; exact ⟨congrArg Value.bool Z.out, rfl⟩
    · by_cases z2 : (wd : Int) ≤ cut
      · have Z := Lib.hid (decide_eq_true (p := cut < 1 ∨ (wd : Int) ≤ cut) (Or.inr z2)); go_wp2; go_meet; exact ⟨congrArg Value.bool Z.out, rfl⟩
      · have Z := Lib.hid (decide_eq_false (p := cut < 1 ∨ (wd : Int) ≤ cut) (fun z => z.elim z1 z2)); go_wp2; go_meet; exact ⟨congrArg Value.bool Z.out, rfl⟩
  case rest =>
    obtain ⟨rfl, rfl⟩ := hcut
    go_upto_if 60 with fail
    go_cut [1] (fun s wx => .int .i64 (c : Int) = s ∧ V32 = wx)
    case first =>
      rcases HCUT.out with ⟨z, z2⟩ | ⟨z, z2⟩
      · rw [decide_eq_true z]; have Z := Lib.hid z2; clear z z2; go_wp2_with fail; go_meet; exact ⟨congrArg (Value.int .i64) Z.out, rfl⟩
      · rw [decide_eq_false z]; have Z := Lib.hid z2; clear z z2; go_wp2_with fail; go_meet; exact ⟨congrArg (Value.int .i64) Z.out, rfl⟩
    case rest =>
      obtain ⟨rfl, rfl⟩ := hcut
      clear p40 q40
      go_upto_region 9 with fail
      go_cut [69] (fun s wx => .bool (decide (k < 0 ∨ 4096 < k)) = s ∧ V32 = wx)
      case first =>
        by_cases z1 : k < 0
        · have Z := Lib.hid (decide_eq_true (p := k < 0 ∨ 4096 < k) (Or.inl z1)); go_wp2; go_meet; exact ⟨congrArg Value.bool Z.out, rfl⟩
        · by_cases z2 : 4096 < k
          · have Z := Lib.hid (decide_eq_true (p := k < 0 ∨ 4096 < k) (Or.inr z2)); go_wp2; go_meet; exact ⟨congrArg Value.bool Z.out, rfl⟩
          · have Z := Lib.hid (decide_eq_false (p := k < 0 ∨ 4096 < k) (fun z => z.elim z1 z2)); go_wp2; go_meet; exact ⟨congrArg Value.bool Z.out, rfl⟩
      case rest =>
        obtain ⟨rfl, rfl⟩ := hcut
        go_upto_if 69 with fail
        go_cut [2] (fun s wx => .int .i64 (p : Int) = s ∧ V32 = wx)
        case first =>
          rcases HKP.out with ⟨z, z2⟩ | ⟨z, z2⟩
          · rw [decide_eq_true z]; have Z := Lib.hid z2; clear z z2; go_wp2_with fail; go_meet; exact ⟨congrArg (Value.int .i64) Z.out, rfl⟩
          · rw [decide_eq_false z]; have Z := Lib.hid z2; clear z z2; go_wp2_with fail; go_meet; exact ⟨congrArg (Value.int .i64) Z.out, rfl⟩
        case rest =>
          obtain ⟨rfl, rfl⟩ := hcut
          obtain ⟨V41, eV41, gV, bV, hV41⟩ := alloc1n V32 (Obj.cells #[.int .i64 (p : Int)] 3)
          have FK_42 := Lib.hid (FK_33.out.below bV)
          have FB_43 := Lib.hid (below_of FB_34.out bV)
          have FG_44 := Lib.hid (car bV FG_35.out)
          have FK_45 := Lib.hid (FK_36.out.below bV)
          have FG_46 := Lib.hid (car bV FG_37.out)
          have FK_47 := Lib.hid (FK_38.out.below bV)
          have FG_48 := Lib.hid (car bV FG_39.out)
          clear FK_33 FB_34 FG_35 FK_36 FG_37 FK_38 FG_39
          have gP := Lib.hid gV; clear gV bV
          obtain ⟨p49, q49, -, -, -⟩ := blk2 FG_44.out
          obtain ⟨V50, eV50, gV, bV, hV50⟩ := alloc1n V41 (Obj.cells #[.int .i64 (wd : Int), .slice a0 k0 c0] 28)
          have FK_51 := Lib.hid (FK_42.out.below bV)
          have FB_52 := Lib.hid (below_of FB_43.out bV)
          have FG_53 := Lib.hid (car bV FG_44.out)
          have FK_54 := Lib.hid (FK_45.out.below bV)
          have FG_55 := Lib.hid (car bV FG_46.out)
          have FK_56 := Lib.hid (FK_47.out.below bV)
          have FG_57 := Lib.hid (car bV FG_48.out)
          clear FK_42 FB_43 FG_44 FK_45 FG_46 FK_47 FG_48
          have EV50 := Lib.hid eV50
          clear eV50
          have PAL := Lib.hid ((pal_one gP.out).below bV)
          have BVL := Lib.hid (bva_one gV FK_51.out); rw [HXS.out] at BVL
          clear gV bV
          go_wp2_with fail
          try rw [EV50.out]
          refine (RL.out _ _ _ PAL.out BVL.out).mono ?_
          rintro e w58 ⟨a58, k58, c58, rfl, hk, hb⟩
          clear p49 q49
          have FK_59 := Lib.hid (FK_51.out.below hb)
          have FB_60 := Lib.hid (below_of FB_52.out hb)
          have FG_61 := Lib.hid (car hb FG_53.out)
          have FK_62 := Lib.hid (FK_54.out.below hb)
          have FG_63 := Lib.hid (car hb FG_55.out)
          have FK_64 := Lib.hid (FK_56.out.below hb)
          have FG_65 := Lib.hid (car hb FG_57.out)
          clear FK_51 FB_52 FG_53 FK_54 FG_55 FK_56 FG_57
          clear hb
          have FK_66 := Lib.hid hk
          clear hk
          obtain ⟨V67, eV67, gV, bV, hV67⟩ := alloc1n w58 (Obj.cells #[.int .i64 (wd : Int), .slice a58 k58 c58] 28)
          have FK_68 := Lib.hid (FK_59.out.below bV)
          have FB_69 := Lib.hid (below_of FB_60.out bV)
          have FG_70 := Lib.hid (car bV FG_61.out)
          have FK_71 := Lib.hid (FK_62.out.below bV)
          have FG_72 := Lib.hid (car bV FG_63.out)
          have FK_73 := Lib.hid (FK_64.out.below bV)
          have FG_74 := Lib.hid (car bV FG_65.out)
          have FK_75 := Lib.hid (FK_66.out.below bV)
          clear FK_59 FB_60 FG_61 FK_62 FG_63 FK_64 FG_65 FK_66
          have EV67 := Lib.hid eV67
          clear eV67
          have FG_76 := Lib.hid gV
          clear gV bV BVL PAL gP eV41
          go_upto_region 12 with fail
          try rw [EV67.out]
          obtain ⟨V77, eV77, gV, bV, hV77⟩ := alloc1n V67 (Obj.cells #[.int .i64 (p : Int)] 3)
          have FK_78 := Lib.hid (FK_68.out.below bV)
          have FB_79 := Lib.hid (below_of FB_69.out bV)
          have FG_80 := Lib.hid (car bV FG_70.out)
          have FK_81 := Lib.hid (FK_71.out.below bV)
          have FG_82 := Lib.hid (car bV FG_72.out)
          have FK_83 := Lib.hid (FK_73.out.below bV)
          have FG_84 := Lib.hid (car bV FG_74.out)
          have FK_85 := Lib.hid (FK_75.out.below bV)
          have FG_86 := Lib.hid (car bV FG_76.out)
          clear FK_68 FB_69 FG_70 FK_71 FG_72 FK_73 FG_74 FK_75 FG_76
          have gP := Lib.hid gV; clear gV bV
          obtain ⟨p87, q87, -, -, -⟩ := blk2 FG_86.out
          obtain ⟨V88, eV88, gV, bV, hV88⟩ := alloc1n V77 (Obj.cells #[.int .i64 (wd : Int), .slice a58 k58 c58] 28)
          have FK_89 := Lib.hid (FK_78.out.below bV)
          have FB_90 := Lib.hid (below_of FB_79.out bV)
          have FG_91 := Lib.hid (car bV FG_80.out)
          have FK_92 := Lib.hid (FK_81.out.below bV)
          have FG_93 := Lib.hid (car bV FG_82.out)
          have FK_94 := Lib.hid (FK_83.out.below bV)
          have FG_95 := Lib.hid (car bV FG_84.out)
          have FK_96 := Lib.hid (FK_85.out.below bV)
          have FG_97 := Lib.hid (car bV FG_86.out)
          clear FK_78 FB_79 FG_80 FK_81 FG_82 FK_83 FG_84 FK_85 FG_86
          have EV88 := Lib.hid eV88
          clear eV88
          have PAL := Lib.hid ((pal_one gP.out).below bV)
          have BVL := Lib.hid (bvl_one gV FK_96.out)
          clear gV bV
          go_wp2_with fail
          try rw [EV88.out]
          refine (RR.out _ _ _ PAL.out BVL.out).mono ?_
          rintro e w98 ⟨a98, k98, c98, rfl, hk, hb⟩
          clear p87 q87
          have FK_99 := Lib.hid (FK_89.out.below hb)
          have FB_100 := Lib.hid (below_of FB_90.out hb)
          have FG_101 := Lib.hid (car hb FG_91.out)
          have FK_102 := Lib.hid (FK_92.out.below hb)
          have FG_103 := Lib.hid (car hb FG_93.out)
          have FK_104 := Lib.hid (FK_94.out.below hb)
          have FG_105 := Lib.hid (car hb FG_95.out)
          have FK_106 := Lib.hid (FK_96.out.below hb)
          have FG_107 := Lib.hid (car hb FG_97.out)
          clear FK_89 FB_90 FG_91 FK_92 FG_93 FK_94 FG_95 FK_96 FG_97
          clear hb
          have FK_108 := Lib.hid hk
          clear hk
          obtain ⟨V109, eV109, gV, bV, hV109⟩ := alloc1n w98 (Obj.cells #[.int .i64 (wd : Int), .slice a98 k98 c98] 28)
          have FK_110 := Lib.hid (FK_99.out.below bV)
          have FB_111 := Lib.hid (below_of FB_100.out bV)
          have FG_112 := Lib.hid (car bV FG_101.out)
          have FK_113 := Lib.hid (FK_102.out.below bV)
          have FG_114 := Lib.hid (car bV FG_103.out)
          have FK_115 := Lib.hid (FK_104.out.below bV)
          have FG_116 := Lib.hid (car bV FG_105.out)
          have FK_117 := Lib.hid (FK_106.out.below bV)
          have FG_118 := Lib.hid (car bV FG_107.out)
          have FK_119 := Lib.hid (FK_108.out.below bV)
          clear FK_99 FB_100 FG_101 FK_102 FG_103 FK_104 FG_105 FK_106 FG_107 FK_108
          have EV109 := Lib.hid eV109
          clear eV109
          have FG_120 := Lib.hid gV
          clear gV bV BVL PAL gP eV77
          go_upto_region 13 with fail
          try rw [EV109.out]
          obtain ⟨p121, q121, -, -, -⟩ := blk2 FG_120.out
          obtain ⟨p122, q122, -, -, -⟩ := blk2 FG_116.out
          go_wp2_with fail
          refine (sameT FK_119.out FK_115.out rfl).mono ?_
          rintro e w123 ⟨rfl, hb⟩
          clear p121 q121 p122 q122
          have FK_124 := Lib.hid (FK_110.out.below hb)
          have FB_125 := Lib.hid (below_of FB_111.out hb)
          have FG_126 := Lib.hid (car hb FG_112.out)
          have FK_127 := Lib.hid (FK_113.out.below hb)
          have FG_128 := Lib.hid (car hb FG_114.out)
          have FK_129 := Lib.hid (FK_115.out.below hb)
          have FG_130 := Lib.hid (car hb FG_116.out)
          have FK_131 := Lib.hid (FK_117.out.below hb)
          have FG_132 := Lib.hid (car hb FG_118.out)
          have FK_133 := Lib.hid (FK_119.out.below hb)
          have FG_134 := Lib.hid (car hb FG_120.out)
          clear FK_110 FB_111 FG_112 FK_113 FG_114 FK_115 FG_116 FK_117 FG_118 FK_119 FG_120
          clear hb
          go_upto_region 15 with fail
          go_upto_region 21 with fail
          by_cases hf : (wd : Int) + (p : Int) ≤ 4096
          · obtain ⟨V135, eV135, gV, bV, hV135⟩ := alloc1n w123 (Obj.cells #[.int .i64 (p : Int)] 3)
            have FK_136 := Lib.hid (FK_124.out.below bV)
            have FB_137 := Lib.hid (below_of FB_125.out bV)
            have FG_138 := Lib.hid (car bV FG_126.out)
            have FK_139 := Lib.hid (FK_127.out.below bV)
            have FG_140 := Lib.hid (car bV FG_128.out)
            have FK_141 := Lib.hid (FK_129.out.below bV)
            have FG_142 := Lib.hid (car bV FG_130.out)
            have FK_143 := Lib.hid (FK_131.out.below bV)
            have FG_144 := Lib.hid (car bV FG_132.out)
            have FK_145 := Lib.hid (FK_133.out.below bV)
            have FG_146 := Lib.hid (car bV FG_134.out)
            clear FK_124 FB_125 FG_126 FK_127 FG_128 FK_129 FG_130 FK_131 FG_132 FK_133 FG_134
            have gP := Lib.hid gV; clear gV bV
            obtain ⟨p147, q147, -, -, -⟩ := blk2 FG_138.out
            obtain ⟨V148, eV148, gV, bV, hV148⟩ := alloc1n V135 (Obj.cells #[.int .i64 (wd : Int), .slice a0 k0 c0] 28)
            have FK_149 := Lib.hid (FK_136.out.below bV)
            have FB_150 := Lib.hid (below_of FB_137.out bV)
            have FG_151 := Lib.hid (car bV FG_138.out)
            have FK_152 := Lib.hid (FK_139.out.below bV)
            have FG_153 := Lib.hid (car bV FG_140.out)
            have FK_154 := Lib.hid (FK_141.out.below bV)
            have FG_155 := Lib.hid (car bV FG_142.out)
            have FK_156 := Lib.hid (FK_143.out.below bV)
            have FG_157 := Lib.hid (car bV FG_144.out)
            have FK_158 := Lib.hid (FK_145.out.below bV)
            have FG_159 := Lib.hid (car bV FG_146.out)
            clear FK_136 FB_137 FG_138 FK_139 FG_140 FK_141 FG_142 FK_143 FG_144 FK_145 FG_146
            have EV148 := Lib.hid eV148
            clear eV148
            have PAL := Lib.hid ((pal_one gP.out).below bV)
            have BVL := Lib.hid (bva_one gV FK_149.out); rw [HXS.out] at BVL
            clear gV bV
            go_wp2_with fail
            try rw [EV148.out]
            refine (SX.out hf _ _ _ PAL.out BVL.out).mono ?_
            rintro e w160 ⟨a160, k160, c160, rfl, hk, hb⟩
            clear p147 q147
            have FK_161 := Lib.hid (FK_149.out.below hb)
            have FB_162 := Lib.hid (below_of FB_150.out hb)
            have FG_163 := Lib.hid (car hb FG_151.out)
            have FK_164 := Lib.hid (FK_152.out.below hb)
            have FG_165 := Lib.hid (car hb FG_153.out)
            have FK_166 := Lib.hid (FK_154.out.below hb)
            have FG_167 := Lib.hid (car hb FG_155.out)
            have FK_168 := Lib.hid (FK_156.out.below hb)
            have FG_169 := Lib.hid (car hb FG_157.out)
            have FK_170 := Lib.hid (FK_158.out.below hb)
            have FG_171 := Lib.hid (car hb FG_159.out)
            clear FK_149 FB_150 FG_151 FK_152 FG_153 FK_154 FG_155 FK_156 FG_157 FK_158 FG_159
            clear hb
            have FK_172 := Lib.hid hk
            clear hk
            obtain ⟨V173, eV173, gV, bV, hV173⟩ := alloc1n w160 (Obj.cells #[.int .i64 ((wd : Int) + (p : Int)), .slice a160 k160 c160] 28)
            have FK_174 := Lib.hid (FK_161.out.below bV)
            have FB_175 := Lib.hid (below_of FB_162.out bV)
            have FG_176 := Lib.hid (car bV FG_163.out)
            have FK_177 := Lib.hid (FK_164.out.below bV)
            have FG_178 := Lib.hid (car bV FG_165.out)
            have FK_179 := Lib.hid (FK_166.out.below bV)
            have FG_180 := Lib.hid (car bV FG_167.out)
            have FK_181 := Lib.hid (FK_168.out.below bV)
            have FG_182 := Lib.hid (car bV FG_169.out)
            have FK_183 := Lib.hid (FK_170.out.below bV)
            have FG_184 := Lib.hid (car bV FG_171.out)
            have FK_185 := Lib.hid (FK_172.out.below bV)
            clear FK_161 FB_162 FG_163 FK_164 FG_165 FK_166 FG_167 FK_168 FG_169 FK_170 FG_171 FK_172
            have EV173 := Lib.hid eV173
            clear eV173
            have FG_186 := Lib.hid gV
            clear gV bV BVL PAL gP eV135
            go_upto_region 22 with fail
            try rw [EV173.out]
            obtain ⟨V187, eV187, gV, bV, hV187⟩ := alloc1n V173 (Obj.cells #[.int .i64 (p : Int)] 3)
            have FK_188 := Lib.hid (FK_174.out.below bV)
            have FB_189 := Lib.hid (below_of FB_175.out bV)
            have FG_190 := Lib.hid (car bV FG_176.out)
            have FK_191 := Lib.hid (FK_177.out.below bV)
            have FG_192 := Lib.hid (car bV FG_178.out)
            have FK_193 := Lib.hid (FK_179.out.below bV)
            have FG_194 := Lib.hid (car bV FG_180.out)
            have FK_195 := Lib.hid (FK_181.out.below bV)
            have FG_196 := Lib.hid (car bV FG_182.out)
            have FK_197 := Lib.hid (FK_183.out.below bV)
            have FG_198 := Lib.hid (car bV FG_184.out)
            have FK_199 := Lib.hid (FK_185.out.below bV)
            have FG_200 := Lib.hid (car bV FG_186.out)
            clear FK_174 FB_175 FG_176 FK_177 FG_178 FK_179 FG_180 FK_181 FG_182 FK_183 FG_184 FK_185 FG_186
            have gP := Lib.hid gV; clear gV bV
            obtain ⟨p201, q201, -, -, -⟩ := blk2 FG_190.out
            obtain ⟨V202, eV202, gV, bV, hV202⟩ := alloc1n V187 (Obj.cells #[.int .i64 (wd : Int), .slice a0 k0 c0] 28)
            have FK_203 := Lib.hid (FK_188.out.below bV)
            have FB_204 := Lib.hid (below_of FB_189.out bV)
            have FG_205 := Lib.hid (car bV FG_190.out)
            have FK_206 := Lib.hid (FK_191.out.below bV)
            have FG_207 := Lib.hid (car bV FG_192.out)
            have FK_208 := Lib.hid (FK_193.out.below bV)
            have FG_209 := Lib.hid (car bV FG_194.out)
            have FK_210 := Lib.hid (FK_195.out.below bV)
            have FG_211 := Lib.hid (car bV FG_196.out)
            have FK_212 := Lib.hid (FK_197.out.below bV)
            have FG_213 := Lib.hid (car bV FG_198.out)
            have FK_214 := Lib.hid (FK_199.out.below bV)
            have FG_215 := Lib.hid (car bV FG_200.out)
            clear FK_188 FB_189 FG_190 FK_191 FG_192 FK_193 FG_194 FK_195 FG_196 FK_197 FG_198 FK_199 FG_200
            have EV202 := Lib.hid eV202
            clear eV202
            have PAL := Lib.hid ((pal_one gP.out).below bV)
            have BVL := Lib.hid (bva_one gV FK_203.out); rw [HXS.out] at BVL
            clear gV bV
            go_wp2_with fail
            try rw [EV202.out]
            refine (ZX.out hf _ _ _ PAL.out BVL.out).mono ?_
            rintro e w216 ⟨a216, k216, c216, rfl, hk, hb⟩
            clear p201 q201
            have FK_217 := Lib.hid (FK_203.out.below hb)
            have FB_218 := Lib.hid (below_of FB_204.out hb)
            have FG_219 := Lib.hid (car hb FG_205.out)
            have FK_220 := Lib.hid (FK_206.out.below hb)
            have FG_221 := Lib.hid (car hb FG_207.out)
            have FK_222 := Lib.hid (FK_208.out.below hb)
            have FG_223 := Lib.hid (car hb FG_209.out)
            have FK_224 := Lib.hid (FK_210.out.below hb)
            have FG_225 := Lib.hid (car hb FG_211.out)
            have FK_226 := Lib.hid (FK_212.out.below hb)
            have FG_227 := Lib.hid (car hb FG_213.out)
            have FK_228 := Lib.hid (FK_214.out.below hb)
            have FG_229 := Lib.hid (car hb FG_215.out)
            clear FK_203 FB_204 FG_205 FK_206 FG_207 FK_208 FG_209 FK_210 FG_211 FK_212 FG_213 FK_214 FG_215
            clear hb
            have FK_230 := Lib.hid hk
            clear hk
            obtain ⟨V231, eV231, gV, bV, hV231⟩ := alloc1n w216 (Obj.cells #[.int .i64 ((wd : Int) + (p : Int)), .slice a216 k216 c216] 28)
            have FK_232 := Lib.hid (FK_217.out.below bV)
            have FB_233 := Lib.hid (below_of FB_218.out bV)
            have FG_234 := Lib.hid (car bV FG_219.out)
            have FK_235 := Lib.hid (FK_220.out.below bV)
            have FG_236 := Lib.hid (car bV FG_221.out)
            have FK_237 := Lib.hid (FK_222.out.below bV)
            have FG_238 := Lib.hid (car bV FG_223.out)
            have FK_239 := Lib.hid (FK_224.out.below bV)
            have FG_240 := Lib.hid (car bV FG_225.out)
            have FK_241 := Lib.hid (FK_226.out.below bV)
            have FG_242 := Lib.hid (car bV FG_227.out)
            have FK_243 := Lib.hid (FK_228.out.below bV)
            have FG_244 := Lib.hid (car bV FG_229.out)
            have FK_245 := Lib.hid (FK_230.out.below bV)
            clear FK_217 FB_218 FG_219 FK_220 FG_221 FK_222 FG_223 FK_224 FG_225 FK_226 FG_227 FK_228 FG_229 FK_230
            have EV231 := Lib.hid eV231
            clear eV231
            have FG_246 := Lib.hid gV
            clear gV bV BVL PAL gP eV187
            go_upto_region 23 with fail
            try rw [EV231.out]
            obtain ⟨p247, q247, -, -, -⟩ := blk2 FG_234.out
            go_upto_region 25 with fail
            clear p247 q247
            obtain ⟨p248, q248, -, -, -⟩ := blk2 FG_244.out
            go_wp2_with fail
            refine (SK.out hf _ _ _ _ FK_243.out).mono ?_
            rintro e w249 ⟨n249, a249, k249, c249, rfl, hk, hb⟩
            clear p248 q248
            have FK_250 := Lib.hid (FK_232.out.below hb)
            have FB_251 := Lib.hid (below_of FB_233.out hb)
            have FG_252 := Lib.hid (car hb FG_234.out)
            have FK_253 := Lib.hid (FK_235.out.below hb)
            have FG_254 := Lib.hid (car hb FG_236.out)
            have FK_255 := Lib.hid (FK_237.out.below hb)
            have FG_256 := Lib.hid (car hb FG_238.out)
            have FK_257 := Lib.hid (FK_239.out.below hb)
            have FG_258 := Lib.hid (car hb FG_240.out)
            have FK_259 := Lib.hid (FK_241.out.below hb)
            have FG_260 := Lib.hid (car hb FG_242.out)
            have FK_261 := Lib.hid (FK_243.out.below hb)
            have FG_262 := Lib.hid (car hb FG_244.out)
            have FK_263 := Lib.hid (FK_245.out.below hb)
            have FG_264 := Lib.hid (car hb FG_246.out)
            clear FK_232 FB_233 FG_234 FK_235 FG_236 FK_237 FG_238 FK_239 FG_240 FK_241 FG_242 FK_243 FG_244 FK_245 FG_246
            clear hb
            have FK_265 := Lib.hid hk
            clear hk
            obtain ⟨V266, eV266, gV, bV, hV266⟩ := alloc1n w249 (Obj.cells #[.bool n249, .slice a249 k249 c249] 26)
            have FK_267 := Lib.hid (FK_250.out.below bV)
            have FB_268 := Lib.hid (below_of FB_251.out bV)
            have FG_269 := Lib.hid (car bV FG_252.out)
            have FK_270 := Lib.hid (FK_253.out.below bV)
            have FG_271 := Lib.hid (car bV FG_254.out)
            have FK_272 := Lib.hid (FK_255.out.below bV)
            have FG_273 := Lib.hid (car bV FG_256.out)
            have FK_274 := Lib.hid (FK_257.out.below bV)
            have FG_275 := Lib.hid (car bV FG_258.out)
            have FK_276 := Lib.hid (FK_259.out.below bV)
            have FG_277 := Lib.hid (car bV FG_260.out)
            have FK_278 := Lib.hid (FK_261.out.below bV)
            have FG_279 := Lib.hid (car bV FG_262.out)
            have FK_280 := Lib.hid (FK_263.out.below bV)
            have FG_281 := Lib.hid (car bV FG_264.out)
            have FK_282 := Lib.hid (FK_265.out.below bV)
            clear FK_250 FB_251 FG_252 FK_253 FG_254 FK_255 FG_256 FK_257 FG_258 FK_259 FG_260 FK_261 FG_262 FK_263 FG_264 FK_265
            have EV266 := Lib.hid eV266
            clear eV266
            have FG_283 := Lib.hid gV
            clear gV bV
            go_upto_region 26 with fail
            try rw [EV266.out]
            obtain ⟨p284, q284, -, -, -⟩ := blk2 FG_269.out
            go_wp2_with fail
            refine (SI.out _ FK_267.out).mono ?_
            rintro e w285 ⟨n285, a285, k285, c285, rfl, hk, hb⟩
            clear p284 q284
            have FK_286 := Lib.hid (FK_267.out.below hb)
            have FB_287 := Lib.hid (below_of FB_268.out hb)
            have FG_288 := Lib.hid (car hb FG_269.out)
            have FK_289 := Lib.hid (FK_270.out.below hb)
            have FG_290 := Lib.hid (car hb FG_271.out)
            have FK_291 := Lib.hid (FK_272.out.below hb)
            have FG_292 := Lib.hid (car hb FG_273.out)
            have FK_293 := Lib.hid (FK_274.out.below hb)
            have FG_294 := Lib.hid (car hb FG_275.out)
            have FK_295 := Lib.hid (FK_276.out.below hb)
            have FG_296 := Lib.hid (car hb FG_277.out)
            have FK_297 := Lib.hid (FK_278.out.below hb)
            have FG_298 := Lib.hid (car hb FG_279.out)
            have FK_299 := Lib.hid (FK_280.out.below hb)
            have FG_300 := Lib.hid (car hb FG_281.out)
            have FK_301 := Lib.hid (FK_282.out.below hb)
            have FG_302 := Lib.hid (car hb FG_283.out)
            clear FK_267 FB_268 FG_269 FK_270 FG_271 FK_272 FG_273 FK_274 FG_275 FK_276 FG_277 FK_278 FG_279 FK_280 FG_281 FK_282 FG_283
            clear hb
            have FK_303 := Lib.hid hk
            clear hk
            obtain ⟨V304, eV304, gV, bV, hV304⟩ := alloc1n w285 (Obj.cells #[.bool n285, .slice a285 k285 c285] 26)
            have FK_305 := Lib.hid (FK_286.out.below bV)
            have FB_306 := Lib.hid (below_of FB_287.out bV)
            have FG_307 := Lib.hid (car bV FG_288.out)
            have FK_308 := Lib.hid (FK_289.out.below bV)
            have FG_309 := Lib.hid (car bV FG_290.out)
            have FK_310 := Lib.hid (FK_291.out.below bV)
            have FG_311 := Lib.hid (car bV FG_292.out)
            have FK_312 := Lib.hid (FK_293.out.below bV)
            have FG_313 := Lib.hid (car bV FG_294.out)
            have FK_314 := Lib.hid (FK_295.out.below bV)
            have FG_315 := Lib.hid (car bV FG_296.out)
            have FK_316 := Lib.hid (FK_297.out.below bV)
            have FG_317 := Lib.hid (car bV FG_298.out)
            have FK_318 := Lib.hid (FK_299.out.below bV)
            have FG_319 := Lib.hid (car bV FG_300.out)
            have FK_320 := Lib.hid (FK_301.out.below bV)
            have FG_321 := Lib.hid (car bV FG_302.out)
            have FK_322 := Lib.hid (FK_303.out.below bV)
            clear FK_286 FB_287 FG_288 FK_289 FG_290 FK_291 FG_292 FK_293 FG_294 FK_295 FG_296 FK_297 FG_298 FK_299 FG_300 FK_301 FG_302 FK_303
            have EV304 := Lib.hid eV304
            clear eV304
            have FG_323 := Lib.hid gV
            clear gV bV
            go_upto_region 27 with fail
            try rw [EV304.out]
            obtain ⟨p324, q324, -, -, -⟩ := blk2 FG_319.out
            go_wp2_with fail
            refine (UK.out hf _ _ _ _ FK_318.out).mono ?_
            rintro e w325 ⟨n325, a325, k325, c325, rfl, hk, hb⟩
            clear p324 q324
            have FK_326 := Lib.hid (FK_305.out.below hb)
            have FB_327 := Lib.hid (below_of FB_306.out hb)
            have FG_328 := Lib.hid (car hb FG_307.out)
            have FK_329 := Lib.hid (FK_308.out.below hb)
            have FG_330 := Lib.hid (car hb FG_309.out)
            have FK_331 := Lib.hid (FK_310.out.below hb)
            have FG_332 := Lib.hid (car hb FG_311.out)
            have FK_333 := Lib.hid (FK_312.out.below hb)
            have FG_334 := Lib.hid (car hb FG_313.out)
            have FK_335 := Lib.hid (FK_314.out.below hb)
            have FG_336 := Lib.hid (car hb FG_315.out)
            have FK_337 := Lib.hid (FK_316.out.below hb)
            have FG_338 := Lib.hid (car hb FG_317.out)
            have FK_339 := Lib.hid (FK_318.out.below hb)
            have FG_340 := Lib.hid (car hb FG_319.out)
            have FK_341 := Lib.hid (FK_320.out.below hb)
            have FG_342 := Lib.hid (car hb FG_321.out)
            have FK_343 := Lib.hid (FK_322.out.below hb)
            have FG_344 := Lib.hid (car hb FG_323.out)
            clear FK_305 FB_306 FG_307 FK_308 FG_309 FK_310 FG_311 FK_312 FG_313 FK_314 FG_315 FK_316 FG_317 FK_318 FG_319 FK_320 FG_321 FK_322 FG_323
            clear hb
            have FK_345 := Lib.hid hk
            clear hk
            obtain ⟨V346, eV346, gV, bV, hV346⟩ := alloc1n w325 (Obj.cells #[.bool n325, .slice a325 k325 c325] 26)
            have FK_347 := Lib.hid (FK_326.out.below bV)
            have FB_348 := Lib.hid (below_of FB_327.out bV)
            have FG_349 := Lib.hid (car bV FG_328.out)
            have FK_350 := Lib.hid (FK_329.out.below bV)
            have FG_351 := Lib.hid (car bV FG_330.out)
            have FK_352 := Lib.hid (FK_331.out.below bV)
            have FG_353 := Lib.hid (car bV FG_332.out)
            have FK_354 := Lib.hid (FK_333.out.below bV)
            have FG_355 := Lib.hid (car bV FG_334.out)
            have FK_356 := Lib.hid (FK_335.out.below bV)
            have FG_357 := Lib.hid (car bV FG_336.out)
            have FK_358 := Lib.hid (FK_337.out.below bV)
            have FG_359 := Lib.hid (car bV FG_338.out)
            have FK_360 := Lib.hid (FK_339.out.below bV)
            have FG_361 := Lib.hid (car bV FG_340.out)
            have FK_362 := Lib.hid (FK_341.out.below bV)
            have FG_363 := Lib.hid (car bV FG_342.out)
            have FK_364 := Lib.hid (FK_343.out.below bV)
            have FG_365 := Lib.hid (car bV FG_344.out)
            have FK_366 := Lib.hid (FK_345.out.below bV)
            clear FK_326 FB_327 FG_328 FK_329 FG_330 FK_331 FG_332 FK_333 FG_334 FK_335 FG_336 FK_337 FG_338 FK_339 FG_340 FK_341 FG_342 FK_343 FG_344 FK_345
            have EV346 := Lib.hid eV346
            clear eV346
            have FG_367 := Lib.hid gV
            clear gV bV
            go_upto_region 28 with fail
            try rw [EV346.out]
            obtain ⟨p368, q368, -, -, -⟩ := blk2 FG_363.out
            obtain ⟨p369, q369, -, -, -⟩ := blk2 FG_365.out
            go_wp2_with fail
            refine (cmp0 FK_362.out FK_364.out).mono ?_
            rintro e w370 ⟨rfl, hb⟩
            clear p368 q368 p369 q369
            have FK_371 := Lib.hid (FK_347.out.below hb)
            have FB_372 := Lib.hid (below_of FB_348.out hb)
            have FG_373 := Lib.hid (car hb FG_349.out)
            have FK_374 := Lib.hid (FK_350.out.below hb)
            have FG_375 := Lib.hid (car hb FG_351.out)
            have FK_376 := Lib.hid (FK_352.out.below hb)
            have FG_377 := Lib.hid (car hb FG_353.out)
            have FK_378 := Lib.hid (FK_354.out.below hb)
            have FG_379 := Lib.hid (car hb FG_355.out)
            have FK_380 := Lib.hid (FK_356.out.below hb)
            have FG_381 := Lib.hid (car hb FG_357.out)
            have FK_382 := Lib.hid (FK_358.out.below hb)
            have FG_383 := Lib.hid (car hb FG_359.out)
            have FK_384 := Lib.hid (FK_360.out.below hb)
            have FG_385 := Lib.hid (car hb FG_361.out)
            have FK_386 := Lib.hid (FK_362.out.below hb)
            have FG_387 := Lib.hid (car hb FG_363.out)
            have FK_388 := Lib.hid (FK_364.out.below hb)
            have FG_389 := Lib.hid (car hb FG_365.out)
            have FK_390 := Lib.hid (FK_366.out.below hb)
            have FG_391 := Lib.hid (car hb FG_367.out)
            clear FK_347 FB_348 FG_349 FK_350 FG_351 FK_352 FG_353 FK_354 FG_355 FK_356 FG_357 FK_358 FG_359 FK_360 FG_361 FK_362 FG_363 FK_364 FG_365 FK_366 FG_367
            clear hb
            obtain ⟨p392, q392, -, -, -⟩ := blk2 FG_391.out
            obtain ⟨p393, q393, -, -, -⟩ := blk2 FG_375.out
            go_wp2_with fail
            refine (cmp0 FK_390.out FK_374.out).mono ?_
            rintro e w394 ⟨rfl, hb⟩
            clear p392 q392 p393 q393
            have FK_395 := Lib.hid (FK_371.out.below hb)
            have FB_396 := Lib.hid (below_of FB_372.out hb)
            have FG_397 := Lib.hid (car hb FG_373.out)
            have FK_398 := Lib.hid (FK_374.out.below hb)
            have FG_399 := Lib.hid (car hb FG_375.out)
            have FK_400 := Lib.hid (FK_376.out.below hb)
            have FG_401 := Lib.hid (car hb FG_377.out)
            have FK_402 := Lib.hid (FK_378.out.below hb)
            have FG_403 := Lib.hid (car hb FG_379.out)
            have FK_404 := Lib.hid (FK_380.out.below hb)
            have FG_405 := Lib.hid (car hb FG_381.out)
            have FK_406 := Lib.hid (FK_382.out.below hb)
            have FG_407 := Lib.hid (car hb FG_383.out)
            have FK_408 := Lib.hid (FK_384.out.below hb)
            have FG_409 := Lib.hid (car hb FG_385.out)
            have FK_410 := Lib.hid (FK_386.out.below hb)
            have FG_411 := Lib.hid (car hb FG_387.out)
            have FK_412 := Lib.hid (FK_388.out.below hb)
            have FG_413 := Lib.hid (car hb FG_389.out)
            have FK_414 := Lib.hid (FK_390.out.below hb)
            have FG_415 := Lib.hid (car hb FG_391.out)
            clear FK_371 FB_372 FG_373 FK_374 FG_375 FK_376 FG_377 FK_378 FG_379 FK_380 FG_381 FK_382 FG_383 FK_384 FG_385 FK_386 FG_387 FK_388 FG_389 FK_390 FG_391
            clear hb
            go_wp2_with fail
            refine (alive9 _).mono ?_
            rintro e w416 ⟨rfl, hb⟩
            have FK_417 := Lib.hid (FK_395.out.below hb)
            have FB_418 := Lib.hid (below_of FB_396.out hb)
            have FG_419 := Lib.hid (car hb FG_397.out)
            have FK_420 := Lib.hid (FK_398.out.below hb)
            have FG_421 := Lib.hid (car hb FG_399.out)
            have FK_422 := Lib.hid (FK_400.out.below hb)
            have FG_423 := Lib.hid (car hb FG_401.out)
            have FK_424 := Lib.hid (FK_402.out.below hb)
            have FG_425 := Lib.hid (car hb FG_403.out)
            have FK_426 := Lib.hid (FK_404.out.below hb)
            have FG_427 := Lib.hid (car hb FG_405.out)
            have FK_428 := Lib.hid (FK_406.out.below hb)
            have FG_429 := Lib.hid (car hb FG_407.out)
            have FK_430 := Lib.hid (FK_408.out.below hb)
            have FG_431 := Lib.hid (car hb FG_409.out)
            have FK_432 := Lib.hid (FK_410.out.below hb)
            have FG_433 := Lib.hid (car hb FG_411.out)
            have FK_434 := Lib.hid (FK_412.out.below hb)
            have FG_435 := Lib.hid (car hb FG_413.out)
            have FK_436 := Lib.hid (FK_414.out.below hb)
            have FG_437 := Lib.hid (car hb FG_415.out)
            clear FK_395 FB_396 FG_397 FK_398 FG_399 FK_400 FG_401 FK_402 FG_403 FK_404 FG_405 FK_406 FG_407 FK_408 FG_409 FK_410 FG_411 FK_412 FG_413 FK_414 FG_415
            clear hb
            go_wp2
            go_ret
            exact ⟨rfl, FB_418.out⟩
          · obtain ⟨V438, eV438, gV, bV, hV438⟩ := alloc1n w123 (Obj.cells #[.int .i64 (p : Int)] 3)
            have FK_439 := Lib.hid (FK_124.out.below bV)
            have FB_440 := Lib.hid (below_of FB_125.out bV)
            have FG_441 := Lib.hid (car bV FG_126.out)
            have FK_442 := Lib.hid (FK_127.out.below bV)
            have FG_443 := Lib.hid (car bV FG_128.out)
            have FK_444 := Lib.hid (FK_129.out.below bV)
            have FG_445 := Lib.hid (car bV FG_130.out)
            have FK_446 := Lib.hid (FK_131.out.below bV)
            have FG_447 := Lib.hid (car bV FG_132.out)
            have FK_448 := Lib.hid (FK_133.out.below bV)
            have FG_449 := Lib.hid (car bV FG_134.out)
            clear FK_124 FB_125 FG_126 FK_127 FG_128 FK_129 FG_130 FK_131 FG_132 FK_133 FG_134
            have gP := Lib.hid gV; clear gV bV
            obtain ⟨p450, q450, -, -, -⟩ := blk2 FG_441.out
            obtain ⟨V451, eV451, gV, bV, hV451⟩ := alloc1n V438 (Obj.cells #[.int .i64 (wd : Int), .slice a0 k0 c0] 28)
            have FK_452 := Lib.hid (FK_439.out.below bV)
            have FB_453 := Lib.hid (below_of FB_440.out bV)
            have FG_454 := Lib.hid (car bV FG_441.out)
            have FK_455 := Lib.hid (FK_442.out.below bV)
            have FG_456 := Lib.hid (car bV FG_443.out)
            have FK_457 := Lib.hid (FK_444.out.below bV)
            have FG_458 := Lib.hid (car bV FG_445.out)
            have FK_459 := Lib.hid (FK_446.out.below bV)
            have FG_460 := Lib.hid (car bV FG_447.out)
            have FK_461 := Lib.hid (FK_448.out.below bV)
            have FG_462 := Lib.hid (car bV FG_449.out)
            clear FK_439 FB_440 FG_441 FK_442 FG_443 FK_444 FG_445 FK_446 FG_447 FK_448 FG_449
            have EV451 := Lib.hid eV451
            clear eV451
            have PAL := Lib.hid ((pal_one gP.out).below bV)
            have BVL := Lib.hid (bva_one gV FK_452.out); rw [HXS.out] at BVL
            clear gV bV
            go_wp2_with fail
            try rw [EV451.out]
            refine (SXE.out hf _ _ _ PAL.out BVL.out).mono ?_
            rintro e w463 ⟨rfl, hb⟩
            clear p450 q450
            have FK_464 := Lib.hid (FK_452.out.below hb)
            have FB_465 := Lib.hid (below_of FB_453.out hb)
            have FG_466 := Lib.hid (car hb FG_454.out)
            have FK_467 := Lib.hid (FK_455.out.below hb)
            have FG_468 := Lib.hid (car hb FG_456.out)
            have FK_469 := Lib.hid (FK_457.out.below hb)
            have FG_470 := Lib.hid (car hb FG_458.out)
            have FK_471 := Lib.hid (FK_459.out.below hb)
            have FG_472 := Lib.hid (car hb FG_460.out)
            have FK_473 := Lib.hid (FK_461.out.below hb)
            have FG_474 := Lib.hid (car hb FG_462.out)
            clear FK_452 FB_453 FG_454 FK_455 FG_456 FK_457 FG_458 FK_459 FG_460 FK_461 FG_462
            clear hb
            obtain ⟨V475, eV475, gV, bV, hV475⟩ := alloc1n w463 (Obj.cells #[.int .i64 0, .slice none 0 0] 28)
            have FK_476 := Lib.hid (FK_464.out.below bV)
            have FB_477 := Lib.hid (below_of FB_465.out bV)
            have FG_478 := Lib.hid (car bV FG_466.out)
            have FK_479 := Lib.hid (FK_467.out.below bV)
            have FG_480 := Lib.hid (car bV FG_468.out)
            have FK_481 := Lib.hid (FK_469.out.below bV)
            have FG_482 := Lib.hid (car bV FG_470.out)
            have FK_483 := Lib.hid (FK_471.out.below bV)
            have FG_484 := Lib.hid (car bV FG_472.out)
            have FK_485 := Lib.hid (FK_473.out.below bV)
            have FG_486 := Lib.hid (car bV FG_474.out)
            clear FK_464 FB_465 FG_466 FK_467 FG_468 FK_469 FG_470 FK_471 FG_472 FK_473 FG_474
            have EV475 := Lib.hid eV475
            clear eV475
            have FG_487 := Lib.hid gV
            clear gV bV BVL PAL gP eV438
            go_upto_region 22 with fail
            try rw [EV475.out]
            obtain ⟨V488, eV488, gV, bV, hV488⟩ := alloc1n V475 (Obj.cells #[.int .i64 (p : Int)] 3)
            have FK_489 := Lib.hid (FK_476.out.below bV)
            have FB_490 := Lib.hid (below_of FB_477.out bV)
            have FG_491 := Lib.hid (car bV FG_478.out)
            have FK_492 := Lib.hid (FK_479.out.below bV)
            have FG_493 := Lib.hid (car bV FG_480.out)
            have FK_494 := Lib.hid (FK_481.out.below bV)
            have FG_495 := Lib.hid (car bV FG_482.out)
            have FK_496 := Lib.hid (FK_483.out.below bV)
            have FG_497 := Lib.hid (car bV FG_484.out)
            have FK_498 := Lib.hid (FK_485.out.below bV)
            have FG_499 := Lib.hid (car bV FG_486.out)
            have FG_500 := Lib.hid (car bV FG_487.out)
            clear FK_476 FB_477 FG_478 FK_479 FG_480 FK_481 FG_482 FK_483 FG_484 FK_485 FG_486 FG_487
            have gP := Lib.hid gV; clear gV bV
            obtain ⟨p501, q501, -, -, -⟩ := blk2 FG_491.out
            obtain ⟨V502, eV502, gV, bV, hV502⟩ := alloc1n V488 (Obj.cells #[.int .i64 (wd : Int), .slice a0 k0 c0] 28)
            have FK_503 := Lib.hid (FK_489.out.below bV)
            have FB_504 := Lib.hid (below_of FB_490.out bV)
            have FG_505 := Lib.hid (car bV FG_491.out)
            have FK_506 := Lib.hid (FK_492.out.below bV)
            have FG_507 := Lib.hid (car bV FG_493.out)
            have FK_508 := Lib.hid (FK_494.out.below bV)
            have FG_509 := Lib.hid (car bV FG_495.out)
            have FK_510 := Lib.hid (FK_496.out.below bV)
            have FG_511 := Lib.hid (car bV FG_497.out)
            have FK_512 := Lib.hid (FK_498.out.below bV)
            have FG_513 := Lib.hid (car bV FG_499.out)
            have FG_514 := Lib.hid (car bV FG_500.out)
            clear FK_489 FB_490 FG_491 FK_492 FG_493 FK_494 FG_495 FK_496 FG_497 FK_498 FG_499 FG_500
            have EV502 := Lib.hid eV502
            clear eV502
            have PAL := Lib.hid ((pal_one gP.out).below bV)
            have BVL := Lib.hid (bva_one gV FK_503.out); rw [HXS.out] at BVL
            clear gV bV
            go_wp2_with fail
            try rw [EV502.out]
            refine (ZXE.out hf _ _ _ PAL.out BVL.out).mono ?_
            rintro e w515 ⟨rfl, hb⟩
            clear p501 q501
            have FK_516 := Lib.hid (FK_503.out.below hb)
            have FB_517 := Lib.hid (below_of FB_504.out hb)
            have FG_518 := Lib.hid (car hb FG_505.out)
            have FK_519 := Lib.hid (FK_506.out.below hb)
            have FG_520 := Lib.hid (car hb FG_507.out)
            have FK_521 := Lib.hid (FK_508.out.below hb)
            have FG_522 := Lib.hid (car hb FG_509.out)
            have FK_523 := Lib.hid (FK_510.out.below hb)
            have FG_524 := Lib.hid (car hb FG_511.out)
            have FK_525 := Lib.hid (FK_512.out.below hb)
            have FG_526 := Lib.hid (car hb FG_513.out)
            have FG_527 := Lib.hid (car hb FG_514.out)
            clear FK_503 FB_504 FG_505 FK_506 FG_507 FK_508 FG_509 FK_510 FG_511 FK_512 FG_513 FG_514
            clear hb
            obtain ⟨V528, eV528, gV, bV, hV528⟩ := alloc1n w515 (Obj.cells #[.int .i64 0, .slice none 0 0] 28)
            have FK_529 := Lib.hid (FK_516.out.below bV)
            have FB_530 := Lib.hid (below_of FB_517.out bV)
            have FG_531 := Lib.hid (car bV FG_518.out)
            have FK_532 := Lib.hid (FK_519.out.below bV)
            have FG_533 := Lib.hid (car bV FG_520.out)
            have FK_534 := Lib.hid (FK_521.out.below bV)
            have FG_535 := Lib.hid (car bV FG_522.out)
            have FK_536 := Lib.hid (FK_523.out.below bV)
            have FG_537 := Lib.hid (car bV FG_524.out)
            have FK_538 := Lib.hid (FK_525.out.below bV)
            have FG_539 := Lib.hid (car bV FG_526.out)
            have FG_540 := Lib.hid (car bV FG_527.out)
            clear FK_516 FB_517 FG_518 FK_519 FG_520 FK_521 FG_522 FK_523 FG_524 FK_525 FG_526 FG_527
            have EV528 := Lib.hid eV528
            clear eV528
            have FG_541 := Lib.hid gV
            clear gV bV BVL PAL gP eV488
            go_upto_region 23 with fail
            try rw [EV528.out]
            obtain ⟨p542, q542, -, -, -⟩ := blk2 FG_531.out
            go_wp2_with fail
            clear p542 q542
            refine (alive9 _).mono ?_
            rintro e w543 ⟨rfl, hb⟩
            have FK_544 := Lib.hid (FK_529.out.below hb)
            have FB_545 := Lib.hid (below_of FB_530.out hb)
            have FG_546 := Lib.hid (car hb FG_531.out)
            have FK_547 := Lib.hid (FK_532.out.below hb)
            have FG_548 := Lib.hid (car hb FG_533.out)
            have FK_549 := Lib.hid (FK_534.out.below hb)
            have FG_550 := Lib.hid (car hb FG_535.out)
            have FK_551 := Lib.hid (FK_536.out.below hb)
            have FG_552 := Lib.hid (car hb FG_537.out)
            have FK_553 := Lib.hid (FK_538.out.below hb)
            have FG_554 := Lib.hid (car hb FG_539.out)
            have FG_555 := Lib.hid (car hb FG_540.out)
            have FG_556 := Lib.hid (car hb FG_541.out)
            clear FK_529 FB_530 FG_531 FK_532 FG_533 FK_534 FG_535 FK_536 FG_537 FK_538 FG_539 FG_540 FG_541
            clear hb
            go_wp2
            go_ret
            exact ⟨rfl, FB_545.out⟩
end Go.Proofs.YtccofiakblmkhaaGreat
