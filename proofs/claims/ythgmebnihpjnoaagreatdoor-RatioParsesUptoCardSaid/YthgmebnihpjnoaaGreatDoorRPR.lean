/- tribunalref03: Parse (written by genrpr.py). -/
import Derived.Test.YthgmebnihpjnoaaGreatDoorRPA
import Derived.Test.YthgmebnihpjnoaaGreatDoorRFR
import Derived.Test.YthgmebnihpjnoaaGreatDoorQB6
set_option linter.unusedVariables false
set_option linter.unusedSimpArgs false
namespace Go.Proofs.YthgmebnihpjnoaaGreatDoor
open Go.RowKit Mth

theorem bt47 {s : ByteArray} {j : Nat} (hj : j < s.size) : bt s j = 47 ↔ s.data.toList[j]? = some 47 := by
  have hj' : j < s.data.toList.length := by simpa using hj
  rw [List.getElem?_eq_getElem hj', ← bt_at hj]
  have e : s.data.toList[j] = s[j] := by simp [ByteArray.getElem_eq_getElem_data]
  rw [e, Option.some.injEq]
  constructor
  · intro h; exact UInt8.toNat_inj.1 h
  · intro h; rw [h]; rfl
theorem slI_miss {s : ByteArray} (h : ∀ j, j < s.size → bt s j ≠ 47) : slI s = -1 := by
  rcases slI_cases s with e | ⟨i, e, hi⟩
  · exact e
  · exact absurd ((bt47 hi).2 (Lib.indexByte_some (show Lib.indexByte s.data.toList 47 = (i : Int) from e)).1) (h i hi)
theorem slI_hit {s : ByteArray} {m : Nat} (hm : m < s.size) (h1 : bt s m = 47) (h : ∀ j, j < m → bt s j ≠ 47) : slI s = (m : Int) := by
  rcases slI_cases s with e | ⟨i, e, hi⟩
  · exact absurd ((bt47 hm).1 h1) (Lib.indexByte_none (show Lib.indexByte s.data.toList 47 = -1 from e) m)
  · obtain ⟨g1, g2⟩ := Lib.indexByte_some (show Lib.indexByte s.data.toList 47 = (i : Int) from e)
    rw [e]
    rcases Nat.lt_trichotomy i m with h3 | h3 | h3
    · exact absurd ((bt47 hi).2 g1) (h i h3)
    · rw [h3]
    · exact absurd ((bt47 hm).1 h1) (g2 m h3)
def CuO (s : ByteArray) (c i : Value) : Prop := ∃ k : Nat, k ≤ s.size ∧ i = .int .i64 (k : Int) ∧ ((c = .int .i64 (-1) ∧ ∀ j, j < k → bt s j ≠ 47) ∨ ∃ m : Nat, m < k ∧ c = .int .i64 (m : Int) ∧ bt s m = 47 ∧ ∀ j, j < m → bt s j ≠ 47)
theorem before_step {s : ByteArray} {k : Nat} (h : ∀ j, j < k → bt s j ≠ 47) (hk : bt s k ≠ 47) : ∀ j, j < k + 1 → bt s j ≠ 47 := fun j hj => by
  rcases Nat.lt_or_ge j k with h1 | h1
  · exact h j h1
  · rw [show j = k by omega]; exact hk
theorem ZV.dnum {w : World} {n : Bool} {a : Option Addr} {k c N : Nat} (h : ZV w (.agg #[.bool n, .slice a k c]) ((N : Nat) : Int)) : DNum w (.slice a k c) N := by
  have hq := h.digits
  rw [Int.natAbs_natCast] at hq
  exact hq.d
/-- what there is of a text: the halves, what they say -/
structure Halves (OKP : Prop) (X : Int) (Y : Nat) (L D : ByteArray) : Prop where
  ok : OKP ↔ okD (psD L) 10 ∧ okD D 10
  px : X = sg (psG L) (pv (psD L) 10 (psD L).size)
  py : Y = pv D 10 D.size
  hl : L.size ≤ 20000
  hd : D.size ≤ 20000
def PrsX (OKP : Prop) (X : Int) (Y : Nat) (w' : World) (v' : Value) (E : Int) : Prop :=
  (¬ OKP ∧ E = 13 ∧ v' = zRat) ∨ (OKP ∧ longQ (X, Y) ∧ E = 5 ∧ v' = zRat) ∨ (OKP ∧ ¬ longQ (X, Y) ∧ Y = 0 ∧ E = 11 ∧ v' = zRat) ∨
    (OKP ∧ ¬ longQ (X, Y) ∧ 0 < Y ∧ E = 0 ∧ FrV w' v' (lowN X Y) (lowD X Y))
theorem PrsX.far3 {OKP : Prop} {X : Int} {Y : Nat} {w : World} {v y0 y1 y2 : Value} {E : Int} {R : Nat} {T : TypeId} {b : Bool} {ao ao' : Option Addr} {k c k' c' : Nat} (h : PrsX OKP X Y w v E) (hR : w.heap[R]? = some (.cells #[.bool b, .slice ao k c, .slice ao' k' c'] T (0, 0))) : PrsX OKP X Y (((w.setCell ⟨R, 0, none⟩ y0).setCell ⟨R, 1, none⟩ y1).setCell ⟨R, 2, none⟩ y2) v E := by
  rcases h with h | h | h | ⟨h1, h2, h3, h4, h5⟩
  · exact .inl h
  · exact .inr (.inl h)
  · exact .inr (.inr (.inl h))
  · exact .inr (.inr (.inr ⟨h1, h2, h3, h4, h5.far3 hR⟩))
theorem halves (s : ByteArray) (h : s.size ≤ 20000) : Halves (prOk s) (prX s) (prY s) (slL s) (slD s) := by
  refine ⟨Iff.rfl, rfl, rfl, Nat.le_trans (slL_size s) h, ?_⟩
  rcases slI_cases s with e | ⟨i, e, hi⟩
  · rw [slD_no e]; show 1 ≤ _; omega
  · rw [slD_at e, extract_size (by omega)]; omega
set_option maxHeartbeats 16000000 in
set_option maxRecDepth 100000 in
theorem rprs_core (s : ByteArray) (OKP : Prop) (X : Int) (Y : Nat) (w : World) (hs : s.size ≤ 20000) (hv : Halves OKP X Y (slL s) (slD s)) :
    Calls Tryz.prog 35 #[.string s] w fun e w' => ∃ v' E, e = .returned (.tuple #[v', .int .i64 E]) ∧ PrsX OKP X Y w' v' E ∧ Below w.heap.size w w' := by
  have HV := Lib.hid hv
  have hle : w.heap.size ≤ w.heap.size := Nat.le_refl _
  clear hv
  go_enter Tryz.func35, Tryz.ntmps35
  go_wp2_with fail
  obtain ⟨W, eW, h1, bW, hsW⟩ := alloc1 w (Obj.cells #[.bool false, .slice none 0 0, .slice none 0 0] 27)
  rw [eW]
  have HR := Lib.hid h1; have BW := Lib.hid bW; have HSW := Lib.hid hsW
  clear eW h1 bW hsW
  go_loop [4, 5] (fun c i => CuO s c i) (fun _ i => s.size - (intOf i).toNat)
  case atStart => exact ⟨0, Nat.zero_le _, rfl, .inl ⟨rfl, fun j hj => by omega⟩⟩
  case round =>
    obtain ⟨k, hk, rfl, hc⟩ := hrel
    by_cases hlt : k < s.size
    · have hbk := bt_at hlt
      have HC := Lib.hid hc
      clear hc
      rcases HC.out with ⟨rfl, h2⟩ | ⟨m, hm, rfl, h2, h3⟩
      · by_cases h47 : bt s k = 47
        · have HN : Hid (CuO s (.int .i64 (k : Int)) (.int .i64 ((k + 1 : Nat) : Int))) := Lib.hid ⟨k + 1, by omega, rfl, .inr ⟨k, by omega, rfl, h47, h2⟩⟩
          rw [h47] at hbk
          clear h47 h2 HC
          go_wp2
          go_round
          case rel => exact HN.out
          case measure => simp [intOf]; omega
        · have HN : Hid (CuO s (.int .i64 (-1)) (.int .i64 ((k + 1 : Nat) : Int))) := Lib.hid ⟨k + 1, by omega, rfl, .inl ⟨rfl, before_step h2 h47⟩⟩
          have hd : ((bt s k : Int) == 47) = false := beq_eq_false_iff_ne.2 (by omega)
          generalize bt s k = d at *
          clear h47 h2 HC
          go_wp2
          go_round
          case rel => exact HN.out
          case measure => simp [intOf]; omega
      · have HN : Hid (CuO s (.int .i64 (m : Int)) (.int .i64 ((k + 1 : Nat) : Int))) := Lib.hid ⟨k + 1, by omega, rfl, .inr ⟨m, by omega, rfl, h2, h3⟩⟩
        have hm0 : decide ((m : Int) < 0) = false := decide_eq_false (by omega)
        clear h2 h3 HC
        by_cases h47 : bt s k = 47
        · rw [h47] at hbk
          clear h47
          go_wp2
          go_round
          case rel => exact HN.out
          case measure => simp [intOf]; omega
        · have hd : ((bt s k : Int) == 47) = false := beq_eq_false_iff_ne.2 (by omega)
          generalize bt s k = d at *
          clear h47
          go_wp2
          go_round
          case rel => exact HN.out
          case measure => simp [intOf]; omega
    · obtain rfl : k = s.size := by omega
      rcases hc with ⟨rfl, h2⟩ | ⟨m, hm, rfl, h2, h3⟩
      · have e := slI_miss h2
        rw [slL_no e, slD_no e] at HV
        clear h2 e hlt
        have RD2 : Hid (∀ w1, Calls Tryz.prog 79 #[.string ⟨#[49]⟩] w1 fun e w' => RdPost w1 w' ⟨#[49]⟩ e) := Lib.hid (fun w1 => read_any _ w1 HV.out.hd)
        have RD1 : Hid (∀ w1, Calls Tryz.prog 79 #[.string (psD s)] w1 fun e w' => RdPost w1 w' (psD s) e) := Lib.hid (fun w1 => read_any _ w1 (Nat.le_trans (psD_size _) HV.out.hl))
        have HLL := Lib.hid HV.out.hl
        go_upto_region 10 with fail
        go_cut [8] (fun s8 wx => ∃ g : Bool, s8 = .bool g ∧ psG s = g ∧ Below w.heap.size w wx ∧ wx.heap[w.heap.size]? = some (Obj.cells #[.bool false, .slice none 0 0, .slice none 0 0] 27 (0, 0)) ∧ w.heap.size < wx.heap.size)
        case first =>
          clear RD1 RD2 HV
          rcases bytes_cases s with hL | ⟨x, l, hL⟩
          · subst hL
            go_wp2
            go_meet
            exact ⟨_, rfl, ps_nil.1, BW.out, HR.out, HSW.out⟩
          · have hll : l.length ≤ 20000 := by have := HLL.out; rw [hL, bytes_size] at this; omega
            subst hL
            have hsz := bytes_size x l
            have hix := byte_first x l
            have hex := bytes_cut x l
            by_cases h45 : x = 45
            · have hd1 : ((x.toNat : Int) == 45) = true := by subst h45; rfl
              have G1 := Lib.hid (ps_minus l)
              subst h45
              go_wp2
              go_meet
              exact ⟨_, rfl, G1.out.1, BW.out, HR.out, HSW.out⟩
            · have hd1 : ((x.toNat : Int) == 45) = false := by
                rw [beq_eq_false_iff_ne]; intro e; exact h45 (UInt8.toNat_inj.1 (by have : (45 : UInt8).toNat = 45 := rfl; omega))
              have G1 := Lib.hid (ps_other l h45)
              clear h45
              go_wp2
              go_meet
              exact ⟨_, rfl, G1.out.1, BW.out, HR.out, HSW.out⟩
        case rest =>
          obtain ⟨g, rfl, hgg, hBW, hHR, hHSW⟩ := hcut
          clear BW HR HSW
          have BW := Lib.hid hBW; have HR := Lib.hid hHR; have HSW := Lib.hid hHSW
          have HGG := Lib.hid hgg
          clear hgg hBW hHR hHSW
          go_upto_if 46 with fail
          go_cut [6] (fun s6 wx => s6 = .string (psD s) ∧ Below w.heap.size w wx ∧ wx.heap[w.heap.size]? = some (Obj.cells #[.bool false, .slice none 0 0, .slice none 0 0] 27 (0, 0)) ∧ w.heap.size < wx.heap.size)
          case first =>
            clear RD1 RD2 HV
            rcases bytes_cases s with hL | ⟨x, l, hL⟩
            · subst hL
              obtain rfl : g = false := HGG.out.symm.trans ps_nil.1
              go_wp2
              go_meet
              exact ⟨by rw [ps_nil.2], BW.out, HR.out, HSW.out⟩
            · have hll : l.length ≤ 20000 := by have := HLL.out; rw [hL, bytes_size] at this; omega
              subst hL
              have hsz := bytes_size x l
              have hix := byte_first x l
              have hex := bytes_cut x l
              by_cases h45 : x = 45
              · have hd1 : ((x.toNat : Int) == 45) = true := by subst h45; rfl
                have G1 := Lib.hid (ps_minus l)
                subst h45
                obtain rfl : g = true := HGG.out.symm.trans G1.out.1
                go_wp2
                go_meet
                exact ⟨by rw [G1.out.2], BW.out, HR.out, HSW.out⟩
              · have hd1 : ((x.toNat : Int) == 45) = false := by
                  rw [beq_eq_false_iff_ne]; intro e; exact h45 (UInt8.toNat_inj.1 (by have : (45 : UInt8).toNat = 45 := rfl; omega))
                have G1 := Lib.hid (ps_other l h45)
                clear h45
                obtain rfl : g = false := HGG.out.symm.trans G1.out.1
                go_wp2
                go_meet
                exact ⟨by rw [G1.out.2], BW.out, HR.out, HSW.out⟩
          case rest =>
            obtain ⟨rfl, hBW, hHR, hHSW⟩ := hcut
            clear BW HR HSW
            have BW := Lib.hid hBW; have HR := Lib.hid hHR; have HSW := Lib.hid hHSW
            clear hBW hHR hHSW
            clear HLL
            go_wp2_with fail
            refine (RD1.out _).mono ?_
            rintro e w1 ⟨n1, a1, m1, c1, ok1, rfl, hok1, hno1, hb1⟩
            obtain ⟨U, eU, gU, bU, hsU⟩ := alloc1q w1 (Obj.cells #[.bool n1, .slice a1 m1 c1] 66)
            have bb := below_of hb1 bU
            have RU := Lib.hid (blk_below' bb HR.out); have BU := Lib.hid (below_of BW.out bb); have GU := Lib.hid gU; have O1 := Lib.hid hok1; have O1n := Lib.hid hno1; have BU1 := Lib.hid bU
            have hz1 : w1.heap.size < U.heap.size := hsU
            have hwU : w.heap.size < w1.heap.size := Nat.lt_of_lt_of_le HSW.out hb1.size
            clear hb1 bU gU bb RD1 hok1 hno1
            go_wp2_with fail
            try rw [eU]
            try clear eU
            refine (RD2.out _).mono ?_
            rintro e w2 ⟨n2, a2, m2, c2, ok2, rfl, hok2, hno2, hb2⟩
            obtain ⟨V, eV, gV, bV, hsV⟩ := alloc1q w2 (Obj.cells #[.bool n2, .slice a2 m2 c2] 66)
            have bb := below_of hb2 bV
            have RV := Lib.hid (blk_below' bb RU.out); have BV := Lib.hid (below_of BU.out bb); have GX := Lib.hid (blk_below' bb GU.out); have GY := Lib.hid gV; have O2 := Lib.hid hok2; have O2n := Lib.hid hno2; have BV2 := Lib.hid bV; have BUV := Lib.hid bb
            have hwV : w1.heap.size < w2.heap.size := Nat.lt_of_lt_of_le hz1 hb2.size
            clear hb2 bV gV bb RD2 hok2 hno2 RU BU GU
            obtain ⟨⟨r0, r1, r2⟩, ⟨f0, f1, f2⟩, _⟩ := blk3 RV.out
            cases ok1
            · have HO : Hid (¬ OKP) := Lib.hid (fun h => O1n.out rfl (HV.out.ok.1 h).1)
              go_wp2
              try rw [eV]
              refine bodyPost_ret (v := .tuple #[.agg #[.bool false, .slice none 0 0, .slice none 0 0], .int .i64 13]) ?_ rfl ⟨_, _, rfl, .inl ⟨HO.out, rfl, rfl⟩, ((BV.out.setCell (p := ⟨w.heap.size, 0, none⟩) hle _).setCell (p := ⟨w.heap.size, 1, none⟩) hle _).setCell (p := ⟨w.heap.size, 2, none⟩) hle _⟩
              simp [results, Tryz.results35, go_sem, *]
            · cases ok2
              · have HO : Hid (¬ OKP) := Lib.hid (fun h => O2n.out rfl (HV.out.ok.1 h).2)
                go_wp2
                try rw [eV]
                refine bodyPost_ret (v := .tuple #[.agg #[.bool false, .slice none 0 0, .slice none 0 0], .int .i64 13]) ?_ rfl ⟨_, _, rfl, .inl ⟨HO.out, rfl, rfl⟩, ((BV.out.setCell (p := ⟨w.heap.size, 0, none⟩) hle _).setCell (p := ⟨w.heap.size, 1, none⟩) hle _).setCell (p := ⟨w.heap.size, 2, none⟩) hle _⟩
                simp [results, Tryz.results35, go_sem, *]
              · obtain ⟨k1, zx⟩ := O1.out rfl
                obtain ⟨k2, zy⟩ := O2.out rfl
                have HO : Hid (OKP) := Lib.hid (HV.out.ok.2 ⟨k1, k2⟩)
                rw [← HV.out.py] at zy
                have ZY := Lib.hid (zy.below BV2.out)
                have DX := Lib.hid ((zx.below BU1.out).below BUV.out).dnum
                have HPX := Lib.hid HV.out.px
                obtain ⟨x0, x1, fx0, fx1, lx⟩ := blk2 GX.out
                clear k1 k2 zx zy O1 O2 O1n O2n r0 r1 r2 f0 f1 f2
                go_wp2_with fail
                try rw [eV]
                try clear eV
                refine (make_dnum DX.out _).mono ?_
                rintro e w3 ⟨v3, rfl, z3, b3⟩
                obtain ⟨n3, a3, m3, c3, rfl⟩ := z3.shape
                rw [← HGG.out, ← HPX.out] at z3
                have R3 := Lib.hid (blk_below' b3 RV.out); have B3 := Lib.hid (below_of BV.out b3); have GX3 := Lib.hid (blk_below' b3 GX.out); have GY3 := Lib.hid (blk_below' b3 GY.out); have ZY3 := Lib.hid (ZY.out.below b3)
                have hle1 : w.heap.size ≤ w1.heap.size := Nat.le_of_lt hwU
                have ZX := Lib.hid (z3.far (y0 := .bool n3) (y1 := .slice a3 m3 c3) GX3.out); have ZYT := Lib.hid (ZY3.out.far (y0 := .bool n3) (y1 := .slice a3 m3 c3) GX3.out)
                have RT := Lib.hid (blk_far2 (y0 := .bool n3) (y1 := .slice a3 m3 c3) R3.out (Nat.ne_of_lt hwU)); have GYT := Lib.hid (blk_far2 (y0 := .bool n3) (y1 := .slice a3 m3 c3) GY3.out (Nat.ne_of_gt hwV)); have GXT := Lib.hid (blk_to2 (x := .bool n3) (y := .slice a3 m3 c3) GX3.out)
                have BT := Lib.hid (set_below (set_below B3.out hle1 (v := .bool n3) (i := 0)) hle1 (v := .slice a3 m3 c3) (i := 1))
                obtain ⟨x0, x1, fx0, fx1, lx⟩ := blk2 GX3.out
                obtain ⟨y0, y1, _, _, ly⟩ := blk2 GY3.out
                clear z3 b3 RV GX GY ZY DX
                go_wp2_with fail
                generalize ((w3.setCell ⟨w1.heap.size, 0, none⟩ (.bool n3)).setCell ⟨w1.heap.size, 1, none⟩ (.slice a3 m3 c3)) = Q at *
                clear x0 x1 fx0 fx1 lx y0 y1 ly
                by_cases l1 : BigR ≤ (X).natAbs
                · have HL : Hid (longQ (X, Y)) := Lib.hid (.inl l1)
                  refine Calls.mono (long3_any _ _ true Q ZX.out (decide_eq_true l1)) ?_
                  rintro e w4 ⟨rfl, b4⟩
                  have B4 := Lib.hid (below_of BT.out b4)
                  obtain ⟨⟨r0, r1, r2⟩, ⟨f0, f1, f2⟩, _⟩ := blk3 (blk_below' b4 RT.out)
                  clear l1 b4
                  go_wp2
                  refine bodyPost_ret (v := .tuple #[.agg #[.bool false, .slice none 0 0, .slice none 0 0], .int .i64 5]) ?_ rfl ⟨_, _, rfl, .inr (.inl ⟨HO.out, HL.out, rfl, rfl⟩), ((B4.out.setCell (p := ⟨w.heap.size, 0, none⟩) hle _).setCell (p := ⟨w.heap.size, 1, none⟩) hle _).setCell (p := ⟨w.heap.size, 2, none⟩) hle _⟩
                  simp [results, Tryz.results35, go_sem, *]
                · refine Calls.mono (long3_any _ _ false Q ZX.out (decide_eq_false l1)) ?_
                  rintro e w4 ⟨rfl, b4⟩
                  have B4 := Lib.hid (below_of BT.out b4); have R4 := Lib.hid (blk_below' b4 RT.out); have GX4 := Lib.hid (blk_below' b4 GXT.out); have GY4 := Lib.hid (blk_below' b4 GYT.out); have ZX4 := Lib.hid (ZX.out.below b4); have ZY4 := Lib.hid (ZYT.out.below b4)
                  have H1 := Lib.hid l1
                  obtain ⟨y0, y1, _, _, _⟩ := blk2 GY4.out
                  clear l1 b4 BT RT GXT GYT ZX ZYT
                  go_wp2_with fail
                  refine Calls.mono (long3_any _ _ (decide (BigR ≤ Y)) w4 ZY4.out (by rw [Int.natAbs_natCast])) ?_
                  rintro e w5 ⟨rfl, b5⟩
                  have B5 := Lib.hid (below_of B4.out b5); have R5 := Lib.hid (blk_below' b5 R4.out); have GX5 := Lib.hid (blk_below' b5 GX4.out); have GY5 := Lib.hid (blk_below' b5 GY4.out); have ZX5 := Lib.hid (ZX4.out.below b5); have ZY5 := Lib.hid (ZY4.out.below b5)
                  clear y0 y1 b5 B4 R4 GX4 GY4 ZX4 ZY4
                  obtain ⟨⟨r0, r1, r2⟩, ⟨f0, f1, f2⟩, _⟩ := blk3 R5.out
                  obtain ⟨y0, y1, _, _, _⟩ := blk2 GY5.out
                  by_cases l2 : BigR ≤ Y
                  · have HL : Hid (longQ (X, Y)) := Lib.hid (.inr l2)
                    rw [decide_eq_true l2]
                    clear l2
                    go_wp2
                    refine bodyPost_ret (v := .tuple #[.agg #[.bool false, .slice none 0 0, .slice none 0 0], .int .i64 5]) ?_ rfl ⟨_, _, rfl, .inr (.inl ⟨HO.out, HL.out, rfl, rfl⟩), ((B5.out.setCell (p := ⟨w.heap.size, 0, none⟩) hle _).setCell (p := ⟨w.heap.size, 1, none⟩) hle _).setCell (p := ⟨w.heap.size, 2, none⟩) hle _⟩
                    simp [results, Tryz.results35, go_sem, *]
                  · have HL : Hid (¬ longQ (X, Y)) := Lib.hid (fun h => h.elim H1.out l2)
                    have HB := Lib.hid l2
                    rw [decide_eq_false l2]
                    clear l2
                    have HLZ := Lib.hid (zv_len ZY5.out)
                    by_cases h0 : Y = 0
                    · have H0 := Lib.hid h0
                      obtain rfl : m2 = 0 := HLZ.out.2 (by rw [h0]; rfl)
                      clear h0
                      go_wp2
                      refine bodyPost_ret (v := .tuple #[.agg #[.bool false, .slice none 0 0, .slice none 0 0], .int .i64 11]) ?_ rfl ⟨_, _, rfl, .inr (.inr (.inl ⟨HO.out, HL.out, H0.out, rfl, rfl⟩)), ((B5.out.setCell (p := ⟨w.heap.size, 0, none⟩) hle _).setCell (p := ⟨w.heap.size, 1, none⟩) hle _).setCell (p := ⟨w.heap.size, 2, none⟩) hle _⟩
                      simp [results, Tryz.results35, go_sem, *]
                    · have H0 := Lib.hid (Nat.pos_of_ne_zero h0)
                      have hd : ((m2 : Int) == 0) = false := by
                        rw [beq_eq_false_iff_ne]; intro h; have := HLZ.out.1 (by omega); omega
                      have hlow := low_le (X) (Y)
                      have TO : Hid (Calls Tryz.prog 41 #[.agg #[.bool n3, .slice a3 m3 c3, .bool n2, .slice a2 m2 c2]] w5 fun e w' => ∃ v', e = .returned (.tuple #[v', .int .i64 0]) ∧ FrV w' v' (lowN (X) (Y)) (lowD (X) (Y)) ∧ Below w5.heap.size w5 w') := Lib.hid (rto_fine _ (X) (Y) w5 ⟨_, _, _, _, _, _, _, _, rfl, ZX5.out, ZY5.out⟩ H0.out (Nat.lt_of_lt_of_le (bigR_lt (Nat.lt_of_not_le HB.out)) (Nat.le_trans big_huge huge_d)) (Nat.lt_of_le_of_lt hlow.1 (Nat.lt_of_not_le H1.out)) (Nat.lt_of_le_of_lt hlow.2 (Nat.lt_of_not_le HB.out)))
                      obtain ⟨x0, x1, _, _, _⟩ := blk2 GX5.out
                      clear h0 hlow r0 r1 r2 f0 f1 f2
                      go_wp2_with fail
                      refine TO.out.mono ?_
                      rintro e w6 ⟨v6, rfl, hf, b6⟩
                      obtain ⟨n6, a6, k6, c6, a7, k7, c7, rfl⟩ := frv_shape hf
                      have R6 := Lib.hid (blk_below' b6 R5.out); have B6 := Lib.hid (below_of B5.out b6); have F6 := Lib.hid hf
                      obtain ⟨⟨r0, r1, r2⟩, ⟨f0, f1, f2⟩, _⟩ := blk3 R6.out
                      clear hf b6 TO x0 x1 y0 y1 hd
                      go_wp2
                      refine bodyPost_ret (v := .tuple #[.agg #[.bool n6, .slice a6 k6 c6, .slice a7 k7 c7], .int .i64 0]) ?_ rfl ⟨_, _, rfl, (PrsX.far3 (.inr (.inr (.inr ⟨HO.out, HL.out, H0.out, rfl, F6.out⟩))) R6.out), ((B6.out.setCell (p := ⟨w.heap.size, 0, none⟩) hle _).setCell (p := ⟨w.heap.size, 1, none⟩) hle _).setCell (p := ⟨w.heap.size, 2, none⟩) hle _⟩
                      simp [results, Tryz.results35, go_sem, *]
      · have e := slI_hit hm h2 h3
        rw [slL_at e, slD_at e] at HV
        clear h2 h3 e hlt
        have hm0 : decide ((0 : Int) ≤ (m : Int)) = true := decide_eq_true (by omega)
        have c1 : (0 : Int) ≤ ↑m := by omega
        have c2 : (↑m : Int) ≤ ↑s.size := by omega
        have c3 : (0 : Int) ≤ ↑m + 1 := by omega
        have c4 : (↑m + 1 : Int) ≤ ↑s.size := by omega
        have c5 : ((m : Int) + 1).toNat = m + 1 := by omega
        have c6 : wrap64 ((m : Int) + 1) = (m : Int) + 1 := IntWalk.wrap64_in _ (by omega)
        go_wp2
        go_region
        have HR : Hid (W.drew.heap[w.heap.size]? = some (.cells #[.bool false, .slice none 0 0, .slice none 0 0] 27 (0, 0))) := Lib.hid HR.out
        have BW : Hid (Below w.heap.size w W.drew) := Lib.hid BW.out.drew
        have HSW : Hid (w.heap.size < W.drew.heap.size) := Lib.hid HSW.out
        obtain ⟨W', eW'⟩ : ∃ W', W.drew = W' := ⟨_, rfl⟩
        rw [eW'] at HR BW HSW
        try rw [eW']
        clear eW'
        generalize s.extract 0 m = L at *
        generalize s.extract (m + 1) s.size = D at *
        have RD2 : Hid (∀ w1, Calls Tryz.prog 79 #[.string D] w1 fun e w' => RdPost w1 w' D e) := Lib.hid (fun w1 => read_any _ w1 HV.out.hd)
        have RD1 : Hid (∀ w1, Calls Tryz.prog 79 #[.string (psD L)] w1 fun e w' => RdPost w1 w' (psD L) e) := Lib.hid (fun w1 => read_any _ w1 (Nat.le_trans (psD_size _) HV.out.hl))
        have HLL := Lib.hid HV.out.hl
        go_upto_region 10 with fail
        go_cut [8] (fun s8 wx => ∃ g : Bool, s8 = .bool g ∧ psG L = g ∧ Below w.heap.size w wx ∧ wx.heap[w.heap.size]? = some (Obj.cells #[.bool false, .slice none 0 0, .slice none 0 0] 27 (0, 0)) ∧ w.heap.size < wx.heap.size)
        case first =>
          clear RD1 RD2 HV
          rcases bytes_cases L with hL | ⟨x, l, hL⟩
          · subst hL
            go_wp2
            go_meet
            exact ⟨_, rfl, ps_nil.1, BW.out, HR.out, HSW.out⟩
          · have hll : l.length ≤ 20000 := by have := HLL.out; rw [hL, bytes_size] at this; omega
            subst hL
            have hsz := bytes_size x l
            have hix := byte_first x l
            have hex := bytes_cut x l
            by_cases h45 : x = 45
            · have hd1 : ((x.toNat : Int) == 45) = true := by subst h45; rfl
              have G1 := Lib.hid (ps_minus l)
              subst h45
              go_wp2
              go_meet
              exact ⟨_, rfl, G1.out.1, BW.out, HR.out, HSW.out⟩
            · have hd1 : ((x.toNat : Int) == 45) = false := by
                rw [beq_eq_false_iff_ne]; intro e; exact h45 (UInt8.toNat_inj.1 (by have : (45 : UInt8).toNat = 45 := rfl; omega))
              have G1 := Lib.hid (ps_other l h45)
              clear h45
              go_wp2
              go_meet
              exact ⟨_, rfl, G1.out.1, BW.out, HR.out, HSW.out⟩
        case rest =>
          obtain ⟨g, rfl, hgg, hBW, hHR, hHSW⟩ := hcut
          clear BW HR HSW
          have BW := Lib.hid hBW; have HR := Lib.hid hHR; have HSW := Lib.hid hHSW
          have HGG := Lib.hid hgg
          clear hgg hBW hHR hHSW
          go_upto_if 46 with fail
          go_cut [6] (fun s6 wx => s6 = .string (psD L) ∧ Below w.heap.size w wx ∧ wx.heap[w.heap.size]? = some (Obj.cells #[.bool false, .slice none 0 0, .slice none 0 0] 27 (0, 0)) ∧ w.heap.size < wx.heap.size)
          case first =>
            clear RD1 RD2 HV
            rcases bytes_cases L with hL | ⟨x, l, hL⟩
            · subst hL
              obtain rfl : g = false := HGG.out.symm.trans ps_nil.1
              go_wp2
              go_meet
              exact ⟨by rw [ps_nil.2], BW.out, HR.out, HSW.out⟩
            · have hll : l.length ≤ 20000 := by have := HLL.out; rw [hL, bytes_size] at this; omega
              subst hL
              have hsz := bytes_size x l
              have hix := byte_first x l
              have hex := bytes_cut x l
              by_cases h45 : x = 45
              · have hd1 : ((x.toNat : Int) == 45) = true := by subst h45; rfl
                have G1 := Lib.hid (ps_minus l)
                subst h45
                obtain rfl : g = true := HGG.out.symm.trans G1.out.1
                go_wp2
                go_meet
                exact ⟨by rw [G1.out.2], BW.out, HR.out, HSW.out⟩
              · have hd1 : ((x.toNat : Int) == 45) = false := by
                  rw [beq_eq_false_iff_ne]; intro e; exact h45 (UInt8.toNat_inj.1 (by have : (45 : UInt8).toNat = 45 := rfl; omega))
                have G1 := Lib.hid (ps_other l h45)
                clear h45
                obtain rfl : g = false := HGG.out.symm.trans G1.out.1
                go_wp2
                go_meet
                exact ⟨by rw [G1.out.2], BW.out, HR.out, HSW.out⟩
          case rest =>
            obtain ⟨rfl, hBW, hHR, hHSW⟩ := hcut
            clear BW HR HSW
            have BW := Lib.hid hBW; have HR := Lib.hid hHR; have HSW := Lib.hid hHSW
            clear hBW hHR hHSW
            clear HLL
            go_wp2_with fail
            refine (RD1.out _).mono ?_
            rintro e w1 ⟨n1, a1, m1, c1, ok1, rfl, hok1, hno1, hb1⟩
            obtain ⟨U, eU, gU, bU, hsU⟩ := alloc1q w1 (Obj.cells #[.bool n1, .slice a1 m1 c1] 66)
            have bb := below_of hb1 bU
            have RU := Lib.hid (blk_below' bb HR.out); have BU := Lib.hid (below_of BW.out bb); have GU := Lib.hid gU; have O1 := Lib.hid hok1; have O1n := Lib.hid hno1; have BU1 := Lib.hid bU
            have hz1 : w1.heap.size < U.heap.size := hsU
            have hwU : w.heap.size < w1.heap.size := Nat.lt_of_lt_of_le HSW.out hb1.size
            clear hb1 bU gU bb RD1 hok1 hno1
            go_wp2_with fail
            try rw [eU]
            try clear eU
            refine (RD2.out _).mono ?_
            rintro e w2 ⟨n2, a2, m2, c2, ok2, rfl, hok2, hno2, hb2⟩
            obtain ⟨V, eV, gV, bV, hsV⟩ := alloc1q w2 (Obj.cells #[.bool n2, .slice a2 m2 c2] 66)
            have bb := below_of hb2 bV
            have RV := Lib.hid (blk_below' bb RU.out); have BV := Lib.hid (below_of BU.out bb); have GX := Lib.hid (blk_below' bb GU.out); have GY := Lib.hid gV; have O2 := Lib.hid hok2; have O2n := Lib.hid hno2; have BV2 := Lib.hid bV; have BUV := Lib.hid bb
            have hwV : w1.heap.size < w2.heap.size := Nat.lt_of_lt_of_le hz1 hb2.size
            clear hb2 bV gV bb RD2 hok2 hno2 RU BU GU
            obtain ⟨⟨r0, r1, r2⟩, ⟨f0, f1, f2⟩, _⟩ := blk3 RV.out
            cases ok1
            · have HO : Hid (¬ OKP) := Lib.hid (fun h => O1n.out rfl (HV.out.ok.1 h).1)
              go_wp2
              try rw [eV]
              refine bodyPost_ret (v := .tuple #[.agg #[.bool false, .slice none 0 0, .slice none 0 0], .int .i64 13]) ?_ rfl ⟨_, _, rfl, .inl ⟨HO.out, rfl, rfl⟩, ((BV.out.setCell (p := ⟨w.heap.size, 0, none⟩) hle _).setCell (p := ⟨w.heap.size, 1, none⟩) hle _).setCell (p := ⟨w.heap.size, 2, none⟩) hle _⟩
              simp [results, Tryz.results35, go_sem, *]
            · cases ok2
              · have HO : Hid (¬ OKP) := Lib.hid (fun h => O2n.out rfl (HV.out.ok.1 h).2)
                go_wp2
                try rw [eV]
                refine bodyPost_ret (v := .tuple #[.agg #[.bool false, .slice none 0 0, .slice none 0 0], .int .i64 13]) ?_ rfl ⟨_, _, rfl, .inl ⟨HO.out, rfl, rfl⟩, ((BV.out.setCell (p := ⟨w.heap.size, 0, none⟩) hle _).setCell (p := ⟨w.heap.size, 1, none⟩) hle _).setCell (p := ⟨w.heap.size, 2, none⟩) hle _⟩
                simp [results, Tryz.results35, go_sem, *]
              · obtain ⟨k1, zx⟩ := O1.out rfl
                obtain ⟨k2, zy⟩ := O2.out rfl
                have HO : Hid (OKP) := Lib.hid (HV.out.ok.2 ⟨k1, k2⟩)
                rw [← HV.out.py] at zy
                have ZY := Lib.hid (zy.below BV2.out)
                have DX := Lib.hid ((zx.below BU1.out).below BUV.out).dnum
                have HPX := Lib.hid HV.out.px
                obtain ⟨x0, x1, fx0, fx1, lx⟩ := blk2 GX.out
                clear k1 k2 zx zy O1 O2 O1n O2n r0 r1 r2 f0 f1 f2
                go_wp2_with fail
                try rw [eV]
                try clear eV
                refine (make_dnum DX.out _).mono ?_
                rintro e w3 ⟨v3, rfl, z3, b3⟩
                obtain ⟨n3, a3, m3, c3, rfl⟩ := z3.shape
                rw [← HGG.out, ← HPX.out] at z3
                have R3 := Lib.hid (blk_below' b3 RV.out); have B3 := Lib.hid (below_of BV.out b3); have GX3 := Lib.hid (blk_below' b3 GX.out); have GY3 := Lib.hid (blk_below' b3 GY.out); have ZY3 := Lib.hid (ZY.out.below b3)
                have hle1 : w.heap.size ≤ w1.heap.size := Nat.le_of_lt hwU
                have ZX := Lib.hid (z3.far (y0 := .bool n3) (y1 := .slice a3 m3 c3) GX3.out); have ZYT := Lib.hid (ZY3.out.far (y0 := .bool n3) (y1 := .slice a3 m3 c3) GX3.out)
                have RT := Lib.hid (blk_far2 (y0 := .bool n3) (y1 := .slice a3 m3 c3) R3.out (Nat.ne_of_lt hwU)); have GYT := Lib.hid (blk_far2 (y0 := .bool n3) (y1 := .slice a3 m3 c3) GY3.out (Nat.ne_of_gt hwV)); have GXT := Lib.hid (blk_to2 (x := .bool n3) (y := .slice a3 m3 c3) GX3.out)
                have BT := Lib.hid (set_below (set_below B3.out hle1 (v := .bool n3) (i := 0)) hle1 (v := .slice a3 m3 c3) (i := 1))
                obtain ⟨x0, x1, fx0, fx1, lx⟩ := blk2 GX3.out
                obtain ⟨y0, y1, _, _, ly⟩ := blk2 GY3.out
                clear z3 b3 RV GX GY ZY DX
                go_wp2_with fail
                generalize ((w3.setCell ⟨w1.heap.size, 0, none⟩ (.bool n3)).setCell ⟨w1.heap.size, 1, none⟩ (.slice a3 m3 c3)) = Q at *
                clear x0 x1 fx0 fx1 lx y0 y1 ly
                by_cases l1 : BigR ≤ (X).natAbs
                · have HL : Hid (longQ (X, Y)) := Lib.hid (.inl l1)
                  refine Calls.mono (long3_any _ _ true Q ZX.out (decide_eq_true l1)) ?_
                  rintro e w4 ⟨rfl, b4⟩
                  have B4 := Lib.hid (below_of BT.out b4)
                  obtain ⟨⟨r0, r1, r2⟩, ⟨f0, f1, f2⟩, _⟩ := blk3 (blk_below' b4 RT.out)
                  clear l1 b4
                  go_wp2
                  refine bodyPost_ret (v := .tuple #[.agg #[.bool false, .slice none 0 0, .slice none 0 0], .int .i64 5]) ?_ rfl ⟨_, _, rfl, .inr (.inl ⟨HO.out, HL.out, rfl, rfl⟩), ((B4.out.setCell (p := ⟨w.heap.size, 0, none⟩) hle _).setCell (p := ⟨w.heap.size, 1, none⟩) hle _).setCell (p := ⟨w.heap.size, 2, none⟩) hle _⟩
                  simp [results, Tryz.results35, go_sem, *]
                · refine Calls.mono (long3_any _ _ false Q ZX.out (decide_eq_false l1)) ?_
                  rintro e w4 ⟨rfl, b4⟩
                  have B4 := Lib.hid (below_of BT.out b4); have R4 := Lib.hid (blk_below' b4 RT.out); have GX4 := Lib.hid (blk_below' b4 GXT.out); have GY4 := Lib.hid (blk_below' b4 GYT.out); have ZX4 := Lib.hid (ZX.out.below b4); have ZY4 := Lib.hid (ZYT.out.below b4)
                  have H1 := Lib.hid l1
                  obtain ⟨y0, y1, _, _, _⟩ := blk2 GY4.out
                  clear l1 b4 BT RT GXT GYT ZX ZYT
                  go_wp2_with fail
                  refine Calls.mono (long3_any _ _ (decide (BigR ≤ Y)) w4 ZY4.out (by rw [Int.natAbs_natCast])) ?_
                  rintro e w5 ⟨rfl, b5⟩
                  have B5 := Lib.hid (below_of B4.out b5); have R5 := Lib.hid (blk_below' b5 R4.out); have GX5 := Lib.hid (blk_below' b5 GX4.out); have GY5 := Lib.hid (blk_below' b5 GY4.out); have ZX5 := Lib.hid (ZX4.out.below b5); have ZY5 := Lib.hid (ZY4.out.below b5)
                  clear y0 y1 b5 B4 R4 GX4 GY4 ZX4 ZY4
                  obtain ⟨⟨r0, r1, r2⟩, ⟨f0, f1, f2⟩, _⟩ := blk3 R5.out
                  obtain ⟨y0, y1, _, _, _⟩ := blk2 GY5.out
                  by_cases l2 : BigR ≤ Y
                  · have HL : Hid (longQ (X, Y)) := Lib.hid (.inr l2)
                    rw [decide_eq_true l2]
                    clear l2
                    go_wp2
                    refine bodyPost_ret (v := .tuple #[.agg #[.bool false, .slice none 0 0, .slice none 0 0], .int .i64 5]) ?_ rfl ⟨_, _, rfl, .inr (.inl ⟨HO.out, HL.out, rfl, rfl⟩), ((B5.out.setCell (p := ⟨w.heap.size, 0, none⟩) hle _).setCell (p := ⟨w.heap.size, 1, none⟩) hle _).setCell (p := ⟨w.heap.size, 2, none⟩) hle _⟩
                    simp [results, Tryz.results35, go_sem, *]
                  · have HL : Hid (¬ longQ (X, Y)) := Lib.hid (fun h => h.elim H1.out l2)
                    have HB := Lib.hid l2
                    rw [decide_eq_false l2]
                    clear l2
                    have HLZ := Lib.hid (zv_len ZY5.out)
                    by_cases h0 : Y = 0
                    · have H0 := Lib.hid h0
                      obtain rfl : m2 = 0 := HLZ.out.2 (by rw [h0]; rfl)
                      clear h0
                      go_wp2
                      refine bodyPost_ret (v := .tuple #[.agg #[.bool false, .slice none 0 0, .slice none 0 0], .int .i64 11]) ?_ rfl ⟨_, _, rfl, .inr (.inr (.inl ⟨HO.out, HL.out, H0.out, rfl, rfl⟩)), ((B5.out.setCell (p := ⟨w.heap.size, 0, none⟩) hle _).setCell (p := ⟨w.heap.size, 1, none⟩) hle _).setCell (p := ⟨w.heap.size, 2, none⟩) hle _⟩
                      simp [results, Tryz.results35, go_sem, *]
                    · have H0 := Lib.hid (Nat.pos_of_ne_zero h0)
                      have hd : ((m2 : Int) == 0) = false := by
                        rw [beq_eq_false_iff_ne]; intro h; have := HLZ.out.1 (by omega); omega
                      have hlow := low_le (X) (Y)
                      have TO : Hid (Calls Tryz.prog 41 #[.agg #[.bool n3, .slice a3 m3 c3, .bool n2, .slice a2 m2 c2]] w5 fun e w' => ∃ v', e = .returned (.tuple #[v', .int .i64 0]) ∧ FrV w' v' (lowN (X) (Y)) (lowD (X) (Y)) ∧ Below w5.heap.size w5 w') := Lib.hid (rto_fine _ (X) (Y) w5 ⟨_, _, _, _, _, _, _, _, rfl, ZX5.out, ZY5.out⟩ H0.out (Nat.lt_of_lt_of_le (bigR_lt (Nat.lt_of_not_le HB.out)) (Nat.le_trans big_huge huge_d)) (Nat.lt_of_le_of_lt hlow.1 (Nat.lt_of_not_le H1.out)) (Nat.lt_of_le_of_lt hlow.2 (Nat.lt_of_not_le HB.out)))
                      obtain ⟨x0, x1, _, _, _⟩ := blk2 GX5.out
                      clear h0 hlow r0 r1 r2 f0 f1 f2
                      go_wp2_with fail
                      refine TO.out.mono ?_
                      rintro e w6 ⟨v6, rfl, hf, b6⟩
                      obtain ⟨n6, a6, k6, c6, a7, k7, c7, rfl⟩ := frv_shape hf
                      have R6 := Lib.hid (blk_below' b6 R5.out); have B6 := Lib.hid (below_of B5.out b6); have F6 := Lib.hid hf
                      obtain ⟨⟨r0, r1, r2⟩, ⟨f0, f1, f2⟩, _⟩ := blk3 R6.out
                      clear hf b6 TO x0 x1 y0 y1 hd
                      go_wp2
                      refine bodyPost_ret (v := .tuple #[.agg #[.bool n6, .slice a6 k6 c6, .slice a7 k7 c7], .int .i64 0]) ?_ rfl ⟨_, _, rfl, (PrsX.far3 (.inr (.inr (.inr ⟨HO.out, HL.out, H0.out, rfl, F6.out⟩))) R6.out), ((B6.out.setCell (p := ⟨w.heap.size, 0, none⟩) hle _).setCell (p := ⟨w.heap.size, 1, none⟩) hle _).setCell (p := ⟨w.heap.size, 2, none⟩) hle _⟩
                      simp [results, Tryz.results35, go_sem, *]
theorem rprs_any3 (s : ByteArray) (w : World) (hs : s.size ≤ 20000) :
    Calls Tryz.prog 35 #[.string s] w fun e w' => ∃ v' E, e = .returned (.tuple #[v', .int .i64 E]) ∧ PrsO w' s v' E ∧ Below w.heap.size w w' := rprs_core s _ _ _ w hs (halves s hs)
end Go.Proofs.YthgmebnihpjnoaaGreatDoor
