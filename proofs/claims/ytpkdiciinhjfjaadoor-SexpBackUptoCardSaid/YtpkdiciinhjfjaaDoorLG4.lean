/- LV LW LX LY. -/
import Derived.Test.YtpkdiciinhjfjaaDoorLG2
import Derived.Test.YtpkdiciinhjfjaaDoorLG3
import Derived.Test.YtpkdiciinhjfjaaDoorShelf
import Derived.Laws.EntriesVeiled
set_option linter.unusedVariables false
set_option linter.unusedSimpArgs false
/- lexis: barred, quoted, prefixed (written by genlv.py). -/
namespace Go.Proofs.YtpkdiciinhjfjaaDoor
open Go.RowKit Mth

theorem RdA.here {s : ByteArray} {p q : Nat} {w : World} {g : Nat} (hl : lnAt s q = lnAt s p) (hf : fsAt s q = fsAt s p) (h : Rdr w g s q (lnAt s p) (fsAt s p)) : RdA w g s q := by
  unfold RdA; rw [hl, hf]; exact h
theorem nl_next {s : ByteArray} {p : Nat} (h : cb s p ≠ 10) : lnAt s (p + 1) = lnAt s p ∧ fsAt s (p + 1) = fsAt s p := ln_same h
theorem Adv.ofA {w w' : World} {g p : Nat} {s : ByteArray} (h : AdA w w' g s p) : Adv w w' g s p (lnAt s p) (fsAt s p) := h
set_option maxHeartbeats 1000000 in
set_option maxRecDepth 100000 in
theorem barred_any (g : Nat) (s : ByteArray) (p : Nat) (w : World) (h : RdA w g s p) (hL : LexW w) (hs : s.size ≤ 1048576) (hp : p < s.size) (h1 : cb s p = 124) :
    Calls Tryd.prog 44 #[.pointer (some ⟨g, 0, none⟩)] w fun e w' => TokO w w' g s p e := by
  have HR := Lib.hid h
  have hg := h.lt
  have HB : Hid (Blk (w.alloc (Obj.cells #[.int .i64 0, .string ⟨#[]⟩, .bool false, .int .i64 0, .int .i64 0] 34)) w.heap.size) := Lib.hid (heap_alloc_new w (Obj.cells #[.int .i64 0, .string ⟨#[]⟩, .bool false, .int .i64 0, .int .i64 0] 34))
  have HL := Lib.hid (hL.below ((Below.refl _ _).alloc (Nat.le_refl _) (Obj.cells #[.int .i64 0, .string ⟨#[]⟩, .bool false, .int .i64 0, .int .i64 0] 34)))
  have HR1 := Lib.hid (h.alloc (Obj.cells #[.int .i64 0, .string ⟨#[]⟩, .bool false, .int .i64 0, .int .i64 0] 34))
  obtain ⟨c0, c1, c2, c3, f0, f1, f2, f3⟩ := h.cells
  obtain ⟨⟨b0, b1, b2, b3, b4⟩, b5, b6, b7, b8, b9⟩ := Blk.all HB.out
  have HL0 := Lib.hid hL
  have H1 := Lib.hid h1
  clear h hL h1
  go_enter Tryd.func44, Tryd.ntmps44
  have ea : ((p + 1 : Nat) : Int) = (p : Int) + 1 := by omega
  have HRa : Hid (Rdr ((w.setCell ⟨g, 1, none⟩ (.int .i64 ((p : Int) + 1))).alloc (Obj.cells #[.int .i64 0, .string ⟨#[]⟩, .bool false, .int .i64 0, .int .i64 0] 34)) g s (p + 1) (lnAt s p) (fsAt s p)) := Lib.hid (by have h := (HR.out.setAt (a' := p + 1)).alloc (Obj.cells #[.int .i64 0, .string ⟨#[]⟩, .bool false, .int .i64 0, .int .i64 0] 34); rwa [ea] at h)
  have HLa : Hid (LexW ((w.setCell ⟨g, 1, none⟩ (.int .i64 ((p : Int) + 1))).alloc (Obj.cells #[.int .i64 0, .string ⟨#[]⟩, .bool false, .int .i64 0, .int .i64 0] 34))) := Lib.hid ((HL0.out.grown HR.out (grown_set (grown_refl _ _) _)).below ((Below.refl _ _).alloc (Nat.le_refl _) _))
  have HBa : Hid (Blk ((w.setCell ⟨g, 1, none⟩ (.int .i64 ((p : Int) + 1))).alloc (Obj.cells #[.int .i64 0, .string ⟨#[]⟩, .bool false, .int .i64 0, .int .i64 0] 34)) w.heap.size) := Lib.hid (blk_new1 w g _)
  have HGa : Hid (w.grownBy ((w.setCell ⟨g, 1, none⟩ (.int .i64 ((p : Int) + 1))).alloc (Obj.cells #[.int .i64 0, .string ⟨#[]⟩, .bool false, .int .i64 0, .int .i64 0] 34)) (some g)) := Lib.hid (grown_alloc (grown_set (grown_refl _ _) _) _)
  clear ea
  have HNX := Lib.hid (nl_next (s := s) (p := p) (by rw [H1.out]; decide))
  have TH := Lib.hid (through_any g s (p + 1) 124 _ (RdA.here HNX.out.1 HNX.out.2 HRa.out) hs (by omega) (.inr rfl))
  go_wp2_with fail
  refine TH.out.mono ?_
  rintro e w1 (⟨q, rfl, htx, hq, hm, hadv⟩ | ⟨q, rfl, htx, hq, hgr, a9, l9, f9, hr9⟩)
  · have HTX : Hid (TxtM s 124 (p + 1) q) := Lib.hid htx
    have HM := Lib.hid hm
    have hpq := htx.1
    have hRd := hadv.adv.2
    have HRA := Lib.hid hadv.2
    have HG : Hid (w.grownBy w1 (some g)) := Lib.hid (grown_tr HGa.out hadv.1)
    have HBW : Hid (Blk w1 w.heap.size) := Lib.hid (Blk.grown HBa.out hadv.1 (by omega))
    obtain ⟨⟨m0, m1, m2, m3, m4⟩, n0, n1, n2, n3, n4⟩ := Blk.all HBW.out
    obtain ⟨d0, d1, d2, d3, g0, g1, g2, g3⟩ := hRd.cells
    clear htx hm hadv hRd TH c0 c1 c2 c3 f0 f1 f2 f3 b0 b1 b2 b3 b4 b5 b6 b7 b8 b9
    have e1 : ((q + 1 : Nat) : Int) - 1 = (q : Int) := by omega
    have CT : Hid (∀ W, Calls Tryd.prog 63 #[.string (s.extract (p + 1) q), .string ⟨#[92]⟩] W fun e w' => e = .returned (.bool ((s.extract (p + 1) q).data.toList.contains 92)) ∧ w' = W) := Lib.hid (fun W => by
      have h := Tryd.strings_Contains_one (s.extract (p + 1) q) 92 W
      rwa [indexB_mem] at h)
    have HEM : Hid ((s.extract (p + 1) q).data.toList.contains (92 : UInt8) = true ↔ ∃ i, p + 1 ≤ i ∧ i < q ∧ cb s i = 92) := Lib.hid (ext_mem (c := 92) (by omega) (by omega) (by omega))
    rcases Bool.eq_false_or_eq_true ((s.extract (p + 1) q).data.toList.contains (92 : UInt8)) with hb | hb
    · rw [hb] at CT
      have HX := Lib.hid ((one_ba H1.out).trans (ba_bad (q - (p + 1)) (Nat.le_refl _) HTX.out (HEM.out.1 hb)))
      clear hb
      go_wp2
      go_quiet (fail)
      go_wp2_with fail
      refine (CT.out _).mono ?_
      rintro e w2 ⟨rfl, rfl⟩
      go_wp2
      refine bodyPost_ret (results_tok rfl rfl rfl (heap_set5 (w := World.drewN _ _) HBW.out)) rfl ?_
      exact tokO_no (E := 61) hg (grown_drewN HG.out _) (Rdr.drewN HRA.out _) HX.out (by omega)
    · rw [hb] at CT
      have HX := Lib.hid ((one_ba H1.out).trans (ba_of (q - (p + 1)) (Nat.le_refl _) hpq hq HM.out (fun j j1 j2 => ⟨(HTX.out.2.2 j j1 j2).1, fun e => (by have := HEM.out.2 ⟨j, j1, j2, e⟩; rw [hb] at this; cases this), (HTX.out.2.2 j j1 j2).2⟩)))
      clear hb
      go_wp2
      go_quiet (fail)
      go_wp2_with fail
      refine (CT.out _).mono ?_
      rintro e w2 ⟨rfl, rfl⟩
      go_wp2
      refine bodyPost_ret (results_tok rfl rfl rfl (heap_set5 (w := World.drewN _ _) HBW.out)) rfl ?_
      exact tokO_yes (k := 8) hg (grown_drewN HG.out _) (Rdr.drewN HRA.out _) HX.out (by omega) (by omega)
  · have HX := Lib.hid ((one_ba H1.out).trans (ba_open (b := p + 1) htx hq))
    have HR9 := Lib.hid hr9
    have HG : Hid (w.grownBy w1 (some g)) := Lib.hid (grown_tr HGa.out hgr)
    have HBW : Hid (Blk w1 w.heap.size) := Lib.hid (Blk.grown HBa.out hgr (by omega))
    obtain ⟨⟨m0, m1, m2, m3, m4⟩, n0, n1, n2, n3, n4⟩ := Blk.all HBW.out
    clear htx hq hgr hr9 TH
    go_wp2
    refine bodyPost_ret (results_tok rfl rfl rfl (heap_set5 HBW.out)) rfl ?_
    exact tokO_no (E := 61) hg HG.out HR9.out HX.out (by omega)
/-- the loop of quoted -/
def QtR (w wr : World) (g b : Nat) (s : ByteArray) (p : Nat) (m : Value) : Prop := ∃ a : Nat, p + 1 ≤ a ∧ a ≤ s.size ∧ w.grownBy wr (some g) ∧ RdA wr g s a ∧ Blk wr b ∧
  ((m = .bool true ∧ ∃ t0, quF s (p + 1) ⟨#[]⟩ = quF s a t0) ∨ (m = .bool false ∧ ∃ t, quF s (p + 1) ⟨#[]⟩ = .tok 7 t false a))
theorem rda_cells {w : World} {g p : Nat} {s : ByteArray} (h : RdA w g s p) :
    w.cell? ⟨g, 0, none⟩ = some (.string s) ∧ w.cell? ⟨g, 1, none⟩ = some (.int .i64 (p : Int)) ∧ w.cell? ⟨g, 2, none⟩ = some (.int .i64 (lnAt s p : Int)) ∧ w.cell? ⟨g, 3, none⟩ = some (.int .i64 (fsAt s p : Int)) ∧
    w.frozen? ⟨g, 0, none⟩ = false ∧ w.frozen? ⟨g, 1, none⟩ = false ∧ w.frozen? ⟨g, 2, none⟩ = false ∧ w.frozen? ⟨g, 3, none⟩ = false := Rdr.cells h
theorem meas_q {w w' : World} {g a a' : Nat} {s : ByteArray} (h : atIn w g = a) (h' : RdA w' g s a') (h1 : a < a') (h2 : a' ≤ s.size) : s.size - atIn w' g < s.size - atIn w g := meas_lt h h' h1 h2
set_option maxHeartbeats 1000000 in
set_option maxRecDepth 100000 in
theorem quoted_any (g : Nat) (s : ByteArray) (p : Nat) (w : World) (h : RdA w g s p) (hL : LexW w) (hs : s.size ≤ 1048576) (hp : p < s.size) (h1 : cb s p = 34) :
    Calls Tryd.prog 43 #[.pointer (some ⟨g, 0, none⟩)] w fun e w' => TokO w w' g s p e := by
  have HR := Lib.hid h
  have hg := h.lt
  have HB : Hid (Blk (w.alloc (Obj.cells #[.int .i64 0, .string ⟨#[]⟩, .bool false, .int .i64 0, .int .i64 0] 34)) w.heap.size) := Lib.hid (heap_alloc_new w (Obj.cells #[.int .i64 0, .string ⟨#[]⟩, .bool false, .int .i64 0, .int .i64 0] 34))
  have HL := Lib.hid (hL.below ((Below.refl _ _).alloc (Nat.le_refl _) (Obj.cells #[.int .i64 0, .string ⟨#[]⟩, .bool false, .int .i64 0, .int .i64 0] 34)))
  have HR1 := Lib.hid (h.alloc (Obj.cells #[.int .i64 0, .string ⟨#[]⟩, .bool false, .int .i64 0, .int .i64 0] 34))
  obtain ⟨c0, c1, c2, c3, f0, f1, f2, f3⟩ := h.cells
  obtain ⟨⟨b0, b1, b2, b3, b4⟩, b5, b6, b7, b8, b9⟩ := Blk.all HB.out
  have HL0 := Lib.hid hL
  have H1 := Lib.hid h1
  clear h hL h1
  go_enter Tryd.func43, Tryd.ntmps43
  have ea : ((p + 1 : Nat) : Int) = (p : Int) + 1 := by omega
  have HRa : Hid (Rdr ((w.setCell ⟨g, 1, none⟩ (.int .i64 ((p : Int) + 1))).alloc (Obj.cells #[.int .i64 0, .string ⟨#[]⟩, .bool false, .int .i64 0, .int .i64 0] 34)) g s (p + 1) (lnAt s p) (fsAt s p)) := Lib.hid (by have h := (HR.out.setAt (a' := p + 1)).alloc (Obj.cells #[.int .i64 0, .string ⟨#[]⟩, .bool false, .int .i64 0, .int .i64 0] 34); rwa [ea] at h)
  have HLa : Hid (LexW ((w.setCell ⟨g, 1, none⟩ (.int .i64 ((p : Int) + 1))).alloc (Obj.cells #[.int .i64 0, .string ⟨#[]⟩, .bool false, .int .i64 0, .int .i64 0] 34))) := Lib.hid ((HL0.out.grown HR.out (grown_set (grown_refl _ _) _)).below ((Below.refl _ _).alloc (Nat.le_refl _) _))
  have HBa : Hid (Blk ((w.setCell ⟨g, 1, none⟩ (.int .i64 ((p : Int) + 1))).alloc (Obj.cells #[.int .i64 0, .string ⟨#[]⟩, .bool false, .int .i64 0, .int .i64 0] 34)) w.heap.size) := Lib.hid (blk_new1 w g _)
  have HGa : Hid (w.grownBy ((w.setCell ⟨g, 1, none⟩ (.int .i64 ((p : Int) + 1))).alloc (Obj.cells #[.int .i64 0, .string ⟨#[]⟩, .bool false, .int .i64 0, .int .i64 0] 34)) (some g)) := Lib.hid (grown_alloc (grown_set (grown_refl _ _) _) _)
  clear ea
  have HNX := Lib.hid (nl_next (s := s) (p := p) (by rw [H1.out]; decide))
  have HRs : Hid (RdA ((w.setCell ⟨g, 1, none⟩ (.int .i64 ((p : Int) + 1))).alloc (Obj.cells #[.int .i64 0, .string ⟨#[]⟩, .bool false, .int .i64 0, .int .i64 0] 34)) g s (p + 1)) := Lib.hid (RdA.here HNX.out.1 HNX.out.2 HRa.out)
  go_wp2
  go_loopw [5] (fun m wr => QtR w wr g w.heap.size s p m) (fun _ wr => s.size - atIn wr g)
  case atStart => exact ⟨p + 1, by omega, by omega, HGa.out, HRs.out, HBa.out, .inl ⟨rfl, _, rfl⟩⟩
  case round =>
    obtain ⟨a, hpa, has, hgr, hrd, hbk, hm⟩ := hrel
    have HGR := Lib.hid hgr
    have HRD := Lib.hid hrd
    have HBK := Lib.hid hbk
    have HM : Hid (atIn wr g = a) := Lib.hid (atIn_of hrd)
    obtain ⟨d0, d1, d2, d3, g0, g1, g2, g3⟩ := rda_cells hrd
    obtain ⟨⟨m0, m1, m2, m3, m4⟩, n0, n1, n2, n3, n4⟩ := Blk.all hbk
    clear hgr hrd hbk c0 c1 c2 c3 f0 f1 f2 f3 b0 b1 b2 b3 b4 b5 b6 b7 b8 b9
    rcases hm with ⟨rfl, t0, hq⟩ | ⟨rfl, t, hq⟩
    · have HQ := Lib.hid hq
      have TH := Lib.hid (through_any g s a 34 wr HRD.out hs has (.inl rfl))
      clear hq
      go_wp2_with fail
      refine TH.out.mono ?_
      rintro e w1 (⟨q, rfl, htx, hqs, hm34, hadv⟩ | ⟨q, rfl, htx, hqs, hgr, a9, l9, f9, hr9⟩)
      · have HTX : Hid (TxtM s 34 a q) := Lib.hid htx
        have HM34 := Lib.hid hm34
        have haq := htx.1
        have HG1 : Hid (w.grownBy w1 (some g)) := Lib.hid (grown_tr HGR.out hadv.1)
        have HB1 : Hid (Blk w1 w.heap.size) := Lib.hid (Blk.grown HBK.out hadv.1 (by omega))
        have HR1 := Lib.hid hadv.2
        obtain ⟨p0, p1, p2, p3, q0, q1, q2, q3⟩ := rda_cells hadv.2
        have HQ1 := Lib.hid (HQ.out.trans (qu_txt (q - a) (Nat.le_refl _) HTX.out))
        clear htx hm34 hadv d0 d1 d2 d3 g0 g1 g2 g3 m0 m1 m2 m3 m4 n0 n1 n2 n3 n4
        by_cases h2 : q + 1 < s.size ∧ cb s (q + 1) = 34
        · have HQ2 := Lib.hid (HQ1.out.trans (qu_two HM34.out h2.1 h2.2))
          have PY := Lib.hid (past_yes g s (q + 1) _ _ 34 w1 HR1.out hs h2.1 h2.2)
          have HNL := Lib.hid (nl_next (s := s) (p := q + 1) (by rw [h2.2]; decide))
          have h21 := h2.1
          clear h2
          go_wp2_with fail
          refine PY.out.mono ?_
          rintro e w2 ⟨rfl, hadv2⟩
          have HA2 := Lib.hid hadv2
          clear hadv2
          go_wp2
          go_roundw
          case rel => exact ⟨q + 2, by omega, by omega, grown_tr HG1.out HA2.out.1, RdA.here HNL.out.1 HNL.out.2 HA2.out.2, Blk.grown HB1.out HA2.out.1 (by omega), .inl ⟨rfl, _, HQ2.out⟩⟩
          case measure => exact meas_q HM.out (RdA.here HNL.out.1 HNL.out.2 HA2.out.2) (by omega) (by omega)
        · have HQ2 := Lib.hid (HQ1.out.trans (qu_one HM34.out hqs h2))
          have PN : Hid (Calls Tryd.prog 57 #[.pointer (some ⟨g, 0, none⟩), .int .u8 (34 : Int)] w1 fun e w' => e = .returned (.bool false) ∧ AdA w1 w' g s (q + 1)) := Lib.hid (by
            by_cases h3 : q + 1 < s.size
            · exact past_not g s (q + 1) _ _ 34 w1 HR1.out hs h3 (fun e => h2 ⟨h3, e⟩)
            · have hr := HR1.out
              have e : q + 1 = s.size := by omega
              rw [e] at hr ⊢
              exact past_end g s _ _ 34 w1 hr hs)
          clear h2
          go_wp2_with fail
          refine PN.out.mono ?_
          rintro e w2 ⟨rfl, hadv2⟩
          have HA2 := Lib.hid hadv2
          clear hadv2
          go_wp2
          go_roundw
          case rel => exact ⟨q + 1, by omega, by omega, grown_tr HG1.out HA2.out.1, HA2.out.2, Blk.grown HB1.out HA2.out.1 (by omega), .inr ⟨rfl, _, HQ2.out⟩⟩
          case measure => exact meas_q HM.out HA2.out.2 (by omega) (by omega)
      · have HX := Lib.hid ((one_qu H1.out).trans (HQ.out.trans (qu_open htx hqs)))
        have HG1 : Hid (w.grownBy w1 (some g)) := Lib.hid (grown_tr HGR.out hgr)
        have HB1 : Hid (Blk w1 w.heap.size) := Lib.hid (Blk.grown HBK.out hgr (by omega))
        have HR9 := Lib.hid hr9
        clear htx hqs hgr hr9 d0 d1 d2 d3 g0 g1 g2 g3 m0 m1 m2 m3 m4 n0 n1 n2 n3 n4
        obtain ⟨⟨m0, m1, m2, m3, m4⟩, n0, n1, n2, n3, n4⟩ := Blk.all HB1.out
        go_wp2
        refine bodyPost_ret (results_tok rfl rfl rfl (heap_set5 HB1.out)) rfl ?_
        exact tokO_no (E := 61) hg HG1.out HR9.out HX.out (by omega)
    · have HX := Lib.hid ((one_qu H1.out).trans hq)
      have HT := Lib.hid (qu_text hq)
      obtain ⟨a0, ha0⟩ : ∃ a0, a - 1 = a0 := ⟨_, rfl⟩
      have h1a : a = a0 + 1 := by have := HT.out.1; omega
      rw [ha0] at HT
      have h2a : p + 1 ≤ a0 := by have := HT.out.1; omega
      have h3a : a0 ≤ s.size := by omega
      have e1 : (a : Int) - 1 = (a0 : Int) := by omega
      have hw1 : IntKind.i64.wrap (a0 : Int) = (a0 : Int) := by rw [IntKind.wrap_i64]; omega
      have hml : ∃ m, w.cell? ⟨2, 0, none⟩ = some (.int .i64 m) := HL0.out.max
      obtain ⟨mm, hmm⟩ := hml
      have RP : Hid (∀ W, wr.grownBy W (some g) → Calls Tryd.prog 62 #[.string (s.extract (p + 1) a0), .string ⟨#[34, 34]⟩, .string ⟨#[34]⟩] W fun e w' => e = .returned (.string t) ∧ Below W.heap.size W w') := Lib.hid (fun W hW => by
        have hL2 := (HL0.out.grown HR.out (grown_tr HGR.out hW)).max
        obtain ⟨m2, hm2⟩ := hL2
        have hz : (s.extract (p + 1) a0).size ≤ 1048576 := by rw [ByteArray.size_extract]; omega
        have hc := Lib.countB_mul_le (⟨#[34, 34]⟩ : ByteArray) (by decide) _ (s.extract (p + 1) a0) (Nat.le_refl _)
        have h := Tryd.strings_ReplaceAll (s.extract (p + 1) a0) ⟨#[34, 34]⟩ ⟨#[34]⟩ m2 W (by omega) hm2 (by decide) (by
          have e2 : (⟨#[34, 34]⟩ : ByteArray).size = 2 := rfl
          have e3 : (⟨#[34]⟩ : ByteArray).size = 1 := rfl
          rw [e2] at hc; rw [e3]; omega)
        refine h.mono fun e w' ⟨h1, h2⟩ => ⟨?_, h2⟩
        rw [h1]; exact ret_s HT.out.2.2)
      have BW : Hid (∀ w2, Below wr.heap.size wr w2 → Blk w2 w.heap.size) := Lib.hid (fun w2 h => (h.block _ (Array.getElem?_eq_some_iff.1 HBK.out).1).trans HBK.out)
      have RW : Hid (∀ w2, Below wr.heap.size wr w2 → RdA w2 g s a ∧ w.grownBy w2 (some g)) := Lib.hid (fun w2 h => ⟨(h.block _ (Rdr.lt HRD.out)).trans HRD.out, grown_tr HGR.out ⟨h.os, h.tape, h.output, h.size, fun k hk _ => h.block k hk⟩⟩)
      have H3A := Lib.hid has
      clear hq hmm h1a ha0
      go_wp2
      go_region_with (go_at_call 62; refine Calls.mono (RP.out _ ?_) ?_; (exact grown_drewN (grown_refl _ _) _); rintro e w2 ⟨rfl, hbl⟩; have HBL : Hid (Below wr.heap.size wr w2) := Lib.hid ⟨hbl.os, hbl.tape, hbl.output, hbl.size, hbl.block⟩; clear hbl; obtain ⟨⟨k0, k1, k2, k3, k4⟩, j0, j1, j2, j3, j4⟩ := Blk.all (BW.out _ HBL.out))
      all_goals (
        go_wp2
        refine bodyPost_ret (results_tok rfl rfl rfl (heap_set5 (BW.out _ HBL.out))) rfl ?_
        exact tokO_yes (k := 7) hg (RW.out _ HBL.out).2 (RW.out _ HBL.out).1 HX.out (by have := HT.out.1; omega) HT.out.2.1)
end Go.Proofs.YtpkdiciinhjfjaaDoor

/- lexis: prefixed (written by genlw.py). -/
namespace Go.Proofs.YtpkdiciinhjfjaaDoor
open Go.RowKit Mth

theorem hex_nl {c : Nat} (h : bHex c = true) : c ≠ 10 := by rw [bHex_iff] at h; omega
theorem bin_hex {c : Nat} (h : bBin c = true) : bHex c = true := by rw [bHex_iff]; rw [bBin_iff] at h; omega
theorem ascii_of {s : ByteArray} {a q : Nat} (h : allP s bHex a q) (haq : a ≤ q) (hq : q ≤ s.size) : ∀ (j : Nat) (b : UInt8), (s.extract a q).data.toList[j]? = some b → b.toNat < 128 := fun j b hb => by
  obtain ⟨h1, h2⟩ := byt_of_ext (s := s) (a := a) (b := q) rfl haq hq
  obtain ⟨hj, e⟩ := List.getElem?_eq_some_iff.1 hb
  have h3 := byt_at h1 hj
  rw [List.getD_eq_getElem?_getD, List.getElem?_eq_getElem hj, Option.getD_some, e] at h3
  have h4 := h (a + j) (by omega) (by omega)
  rw [h3, bHex_iff] at h4; omega
theorem low_bin {s : ByteArray} {a q : Nat} (h : allP s bBin a q) (haq : a ≤ q) (hq : q ≤ s.size) : (⟨(Lib.toLowerA (s.extract a q).data.toList).toArray⟩ : ByteArray) = s.extract a q := by
  obtain ⟨h1, h2⟩ := byt_of_ext (s := s) (a := a) (b := q) rfl haq hq
  have e : Lib.toLowerA (s.extract a q).data.toList = (s.extract a q).data.toList := low_id (fun c hc => by
    obtain ⟨j, hj, e⟩ := List.mem_iff_getElem.1 hc
    have h3 := byt_at h1 hj
    rw [List.getD_eq_getElem?_getD, List.getElem?_eq_getElem hj, Option.getD_some, e] at h3
    have h4 := h (a + j) (by omega) (by omega)
    rw [h3, bBin_iff] at h4
    rw [Lib.isUpperB, Bool.and_eq_false_iff]
    left
    simp only [decide_eq_false_iff_not]
    intro h9; have := UInt8.le_iff_toNat_le.1 h9
    have e65 : (65 : UInt8).toNat = 65 := rfl
    omega)
  rw [e]
set_option maxHeartbeats 4000000 in
set_option maxRecDepth 100000 in
theorem prefixed_any (g : Nat) (s : ByteArray) (p : Nat) (w : World) (h : RdA w g s p) (hL : LexW w) (hs : s.size ≤ 1048576) (hp : p < s.size) (h1 : cb s p = 35) :
    Calls Tryd.prog 42 #[.pointer (some ⟨g, 0, none⟩)] w fun e w' => TokO w w' g s p e := by
  have HR := Lib.hid h
  have hg := h.lt
  have HB : Hid (Blk (w.alloc (Obj.cells #[.int .i64 0, .string ⟨#[]⟩, .bool false, .int .i64 0, .int .i64 0] 34)) w.heap.size) := Lib.hid (heap_alloc_new w (Obj.cells #[.int .i64 0, .string ⟨#[]⟩, .bool false, .int .i64 0, .int .i64 0] 34))
  have HL := Lib.hid (hL.below ((Below.refl _ _).alloc (Nat.le_refl _) (Obj.cells #[.int .i64 0, .string ⟨#[]⟩, .bool false, .int .i64 0, .int .i64 0] 34)))
  have HR1 := Lib.hid (h.alloc (Obj.cells #[.int .i64 0, .string ⟨#[]⟩, .bool false, .int .i64 0, .int .i64 0] 34))
  obtain ⟨c0, c1, c2, c3, f0, f1, f2, f3⟩ := h.cells
  obtain ⟨⟨b0, b1, b2, b3, b4⟩, b5, b6, b7, b8, b9⟩ := Blk.all HB.out
  have HL0 := Lib.hid hL
  have H1 := Lib.hid h1
  clear h hL h1
  go_enter Tryd.func42, Tryd.ntmps42
  have ea : ((p + 1 : Nat) : Int) = (p : Int) + 1 := by omega
  have HRa : Hid (Rdr ((w.setCell ⟨g, 1, none⟩ (.int .i64 ((p : Int) + 1))).alloc (Obj.cells #[.int .i64 0, .string ⟨#[]⟩, .bool false, .int .i64 0, .int .i64 0] 34)) g s (p + 1) (lnAt s p) (fsAt s p)) := Lib.hid (by have h := (HR.out.setAt (a' := p + 1)).alloc (Obj.cells #[.int .i64 0, .string ⟨#[]⟩, .bool false, .int .i64 0, .int .i64 0] 34); rwa [ea] at h)
  have HLa : Hid (LexW ((w.setCell ⟨g, 1, none⟩ (.int .i64 ((p : Int) + 1))).alloc (Obj.cells #[.int .i64 0, .string ⟨#[]⟩, .bool false, .int .i64 0, .int .i64 0] 34))) := Lib.hid ((HL0.out.grown HR.out (grown_set (grown_refl _ _) _)).below ((Below.refl _ _).alloc (Nat.le_refl _) _))
  have HBa : Hid (Blk ((w.setCell ⟨g, 1, none⟩ (.int .i64 ((p : Int) + 1))).alloc (Obj.cells #[.int .i64 0, .string ⟨#[]⟩, .bool false, .int .i64 0, .int .i64 0] 34)) w.heap.size) := Lib.hid (blk_new1 w g _)
  have HGa : Hid (w.grownBy ((w.setCell ⟨g, 1, none⟩ (.int .i64 ((p : Int) + 1))).alloc (Obj.cells #[.int .i64 0, .string ⟨#[]⟩, .bool false, .int .i64 0, .int .i64 0] 34)) (some g)) := Lib.hid (grown_alloc (grown_set (grown_refl _ _) _) _)
  clear ea
  obtain ⟨a2, ha2⟩ : ∃ a, a = p + 2 := ⟨_, rfl⟩
  by_cases hx1 : p + 1 < s.size ∧ cb s (p + 1) = 120
  · have HD := Lib.hid hx1.2
    have hp1 := hx1.1
    have PY : Hid (Calls Tryd.prog 57 #[.pointer (some ⟨g, 0, none⟩), .int .u8 (120 : Int)] ((w.setCell ⟨g, 1, none⟩ (.int .i64 ((p : Int) + 1))).alloc (Obj.cells #[.int .i64 0, .string ⟨#[]⟩, .bool false, .int .i64 0, .int .i64 0] 34)) fun e w' => e = .returned (.bool true) ∧ Adv ((w.setCell ⟨g, 1, none⟩ (.int .i64 ((p : Int) + 1))).alloc (Obj.cells #[.int .i64 0, .string ⟨#[]⟩, .bool false, .int .i64 0, .int .i64 0] 34)) w' g s a2 (lnAt s p) (fsAt s p)) := Lib.hid (by rw [ha2]; exact past_yes g s (p + 1) _ _ 120 _ HRa.out hs hx1.1 hx1.2)
    clear hx1
    go_wp2_with fail
    refine PY.out.mono ?_
    rintro e u1 ⟨rfl, hadv⟩
    have HRdu1 := Lib.hid hadv.2
    have HGu1 : Hid (w.grownBy u1 (some g)) := Lib.hid (grown_tr HGa.out hadv.1)
    have HBu1 : Hid (Blk u1 w.heap.size) := Lib.hid (Blk.grown HBa.out hadv.1 (by omega))
    obtain ⟨⟨m0u1, m1u1, m2u1, m3u1, m4u1⟩, n0u1, n1u1, n2u1, n3u1, n4u1⟩ := Blk.all HBu1.out
    obtain ⟨d0u1, d1u1, d2u1, d3u1, g0u1, g1u1, g2u1, g3u1⟩ := hadv.2.cells
    have HLu1 := Lib.hid (HLa.out.grown HRa.out hadv.1)
    clear hadv c0 c1 c2 c3 f0 f1 f2 f3 b0 b1 b2 b3 b4 b5 b6 b7 b8 b9
    have OV := Lib.hid (over_any g s a2 _ _ 4 _ HRdu1.out HLu1.out hs (by omega))
    go_wp2_with fail
    refine OV.out.mono ?_
    rintro e w1 ⟨q, rfl, hrun, hadv3⟩
    have HRdw1 := Lib.hid hadv3.2
    have HGw1 : Hid (w.grownBy w1 (some g)) := Lib.hid (grown_tr HGu1.out hadv3.1)
    have HBw1 : Hid (Blk w1 w.heap.size) := Lib.hid (Blk.grown HBu1.out hadv3.1 (by omega))
    obtain ⟨⟨m0w1, m1w1, m2w1, m3w1, m4w1⟩, n0w1, n1w1, n2w1, n3w1, n4w1⟩ := Blk.all HBw1.out
    obtain ⟨d0w1, d1w1, d2w1, d3w1, g0w1, g1w1, g2w1, g3w1⟩ := hadv3.2.cells
    clear hadv3
    clear m0u1 m1u1 m2u1 m3u1 m4u1 n0u1 n1u1 n2u1 n3u1 n4u1 d0u1 d1u1 d2u1 d3u1 g0u1 g1u1 g2u1 g3u1
    have hpq := hrun.1
    have hqs := hrun.2.1
    have hpq2 : p + 2 ≤ q := by omega
    have HN2 : Hid (allP s bHex (p + 2) q) := Lib.hid (fun i i1 i2 => by rw [← kin_hex]; exact hrun.2.2.1 i (by omega) i2)
    have HE : Hid (q = s.size ∨ bHex (cb s q) = false) := Lib.hid (by rw [← kin_hex]; exact hrun.2.2.2)
    have HNA : Hid (allP s bHex (p + 2) q) := Lib.hid (fun i i1 i2 => HN2.out i (by omega) i2)

    have HLT : Hid (p < q) := Lib.hid (by omega)
    have HNL : Hid (∀ i, p ≤ i → i < q → cb s i ≠ 10) := Lib.hid (fun i i1 i2 => by
      rcases (show i = p ∨ i = p + 1 ∨ p + 2 ≤ i by omega) with h9 | h9 | h9
      · rw [h9, H1.out]; decide
      · rw [h9, HD.out]; decide
      · exact hex_nl (HNA.out i (by omega) i2))
    clear hrun
    by_cases hq0 : q = a2
    · have HX := Lib.hid (hex_err H1.out HD.out (by omega) HN2.out (by omega) (.inl ⟨by omega, HE.out⟩))
      have ez : (((q - a2 : Nat) : Int) == 0) = true := by rw [beq_iff_eq]; omega
      clear hq0
      go_wp2
      refine bodyPost_ret (results_tok rfl rfl rfl (heap_set5 HBw1.out)) rfl ?_
      exact tokO_no (E := 62) hg HGw1.out HRdw1.out HX.out (by omega)
    · have ez : (((q - a2 : Nat) : Int) == 0) = false := ne_i (k := 0) (by omega)
      have EY : Hid (q = s.size ∨ bEnd (cb s q) = true → oneF s p = .tok 5 (lowB (s.extract (p + 2) q)) false q) := Lib.hid (fun he => hex_tok H1.out HD.out HN2.out (by omega) hqs he)
      have EX : Hid (q < s.size → bEnd (cb s q) = false → oneF s p = .err 62) := Lib.hid (fun h3 h4 => hex_err H1.out HD.out (by omega) HN2.out (by omega) (.inr ⟨h3, HE.out.resolve_left (by omega), h4⟩))
      clear hq0
      have BW : Hid (∀ w9 w2, Below w1.heap.size w1 w9 → w9.grownBy w2 (some g) → Blk w2 w.heap.size) := Lib.hid (fun w9 w2 h k => Blk.grown (w := w9) ((h.block _ (Array.getElem?_eq_some_iff.1 HBw1.out).1).trans HBw1.out) k (by omega))
      have RW : Hid (∀ w9, Below w1.heap.size w1 w9 → Rdr w9 g s q (lnAt s p) (fsAt s p) ∧ w.grownBy w9 (some g)) := Lib.hid (fun w2 h => ⟨(h.block _ (Rdr.lt HRdw1.out)).trans HRdw1.out, grown_tr HGw1.out ⟨h.os, h.tape, h.output, h.size, fun k hk _ => h.block k hk⟩⟩)
      have LO : Hid (∀ W, Calls Tryd.prog 60 #[.string (s.extract (p + 2) q)] W fun e w' => e = .returned (.string (lowB (s.extract (p + 2) q))) ∧ Below W.heap.size W w') := Lib.hid (fun W => by
        have h := Tryd.strings_ToLower_ascii (s.extract (p + 2) q) W (by rw [ByteArray.size_extract]; omega) (ascii_of HNA.out hpq2 hqs)
        refine h.mono fun e w' ⟨h1, h2⟩ => ⟨?_, h2⟩
        rw [h1]; exact ret_s rfl)
      by_cases hend : q = s.size ∨ bEnd (cb s q) = true
      · have EN : Hid (∀ W, Rdr W g s q (lnAt s p) (fsAt s p) → Calls Tryd.prog 59 #[.pointer (some ⟨g, 0, none⟩), .int .i64 5, .string (lowB (s.extract (p + 2) q))] W fun e w' => e = .returned (.tuple #[.agg #[.int .i64 5, .string (lowB (s.extract (p + 2) q)), .bool false, .int .i64 0, .int .i64 0], .int .i64 0]) ∧ Adv W w' g s q (lnAt s p) (fsAt s p)) :=
          Lib.hid (fun W hW => ended_yes hW hs hqs hend)
        have HO := Lib.hid (EY.out hend)
        clear hend
        go_wp2
        go_region_with (first | (go_at_call 60; refine (LO.out _).mono ?_; rintro e w9 ⟨rfl, hbl⟩; have HBL : Hid (Below w1.heap.size w1 w9) := Lib.hid ⟨hbl.os, hbl.tape, hbl.output, hbl.size, hbl.block⟩; clear hbl) | (go_at_call 59; refine Calls.mono (EN.out _ ?_) ?_; (exact (RW.out _ HBL.out).1); rintro e w2 ⟨rfl, hadv2⟩; have HA2 := Lib.hid hadv2; clear hadv2; obtain ⟨⟨k0, k1, k2, k3, k4⟩, j0, j1, j2, j3, j4⟩ := Blk.all (BW.out _ _ HBL.out HA2.out.1)))
        all_goals (
          go_wp2
          refine bodyPost_ret (results_tok rfl rfl rfl (heap_set5 (BW.out _ _ HBL.out HA2.out.1))) rfl ?_
          exact tokO_yes (k := 5) hg (grown_tr (RW.out _ HBL.out).2 HA2.out.1) (RdA.nl (Nat.le_of_lt HLT.out) HNL.out HA2.out.2) HO.out HLT.out hqs)
      · have hlt2 : q < s.size := by omega
        have hb2 : bEnd (cb s q) = false := by rw [← Bool.not_eq_true]; exact fun h => hend (.inr h)
        have EN : Hid (∀ W, Rdr W g s q (lnAt s p) (fsAt s p) → Calls Tryd.prog 59 #[.pointer (some ⟨g, 0, none⟩), .int .i64 5, .string (lowB (s.extract (p + 2) q))] W fun e w' => e = .returned (.tuple #[.agg #[.int .i64 0, .string ⟨#[]⟩, .bool false, .int .i64 0, .int .i64 0], .int .i64 62]) ∧ Adv W w' g s q (lnAt s p) (fsAt s p)) :=
          Lib.hid (fun W hW => ended_no hW hs hlt2 hb2)
        have HX := Lib.hid (EX.out hlt2 hb2)
        clear hend hb2
        go_wp2
        go_region_with (first | (go_at_call 60; refine (LO.out _).mono ?_; rintro e w9 ⟨rfl, hbl⟩; have HBL : Hid (Below w1.heap.size w1 w9) := Lib.hid ⟨hbl.os, hbl.tape, hbl.output, hbl.size, hbl.block⟩; clear hbl) | (go_at_call 59; refine Calls.mono (EN.out _ ?_) ?_; (exact (RW.out _ HBL.out).1); rintro e w2 ⟨rfl, hadv2⟩; have HA2 := Lib.hid hadv2; clear hadv2; obtain ⟨⟨k0, k1, k2, k3, k4⟩, j0, j1, j2, j3, j4⟩ := Blk.all (BW.out _ _ HBL.out HA2.out.1)))
        all_goals (
          go_wp2
          refine bodyPost_ret (results_tok rfl rfl rfl (heap_set5 (BW.out _ _ HBL.out HA2.out.1))) rfl ?_
          exact tokO_no (E := 62) hg (grown_tr (RW.out _ HBL.out).2 HA2.out.1) HA2.out.2 HX.out (by omega))
  by_cases hx2 : p + 1 < s.size ∧ cb s (p + 1) = 98
  · have HD := Lib.hid hx2.2
    have hp1 := hx2.1
    have hx : p + 1 < s.size → cb s (p + 1) ≠ 120 := fun h e => hx1 ⟨h, e⟩
    have P1 : Hid (Calls Tryd.prog 57 #[.pointer (some ⟨g, 0, none⟩), .int .u8 (120 : Int)] ((w.setCell ⟨g, 1, none⟩ (.int .i64 ((p : Int) + 1))).alloc (Obj.cells #[.int .i64 0, .string ⟨#[]⟩, .bool false, .int .i64 0, .int .i64 0] 34)) fun e w' => e = .returned (.bool false) ∧ Adv ((w.setCell ⟨g, 1, none⟩ (.int .i64 ((p : Int) + 1))).alloc (Obj.cells #[.int .i64 0, .string ⟨#[]⟩, .bool false, .int .i64 0, .int .i64 0] 34)) w' g s (p + 1) (lnAt s p) (fsAt s p)) := Lib.hid (by
      by_cases h3 : p + 1 < s.size
      · exact past_not g s (p + 1) _ _ 120 _ HRa.out hs h3 (fun e => by have := hx h3; omega)
      · have hr := HRa.out
        have e : p + 1 = s.size := by omega
        rw [e] at hr ⊢
        exact past_end g s _ _ 120 _ hr hs)
    go_wp2_with fail
    refine P1.out.mono ?_
    rintro e u0 ⟨rfl, hadv⟩
    have HRdu0 := Lib.hid hadv.2
    have HGu0 : Hid (w.grownBy u0 (some g)) := Lib.hid (grown_tr HGa.out hadv.1)
    have HBu0 : Hid (Blk u0 w.heap.size) := Lib.hid (Blk.grown HBa.out hadv.1 (by omega))
    obtain ⟨⟨m0u0, m1u0, m2u0, m3u0, m4u0⟩, n0u0, n1u0, n2u0, n3u0, n4u0⟩ := Blk.all HBu0.out
    obtain ⟨d0u0, d1u0, d2u0, d3u0, g0u0, g1u0, g2u0, g3u0⟩ := hadv.2.cells
    have HLu0 := Lib.hid (HLa.out.grown HRa.out hadv.1)
    clear hadv c0 c1 c2 c3 f0 f1 f2 f3 b0 b1 b2 b3 b4 b5 b6 b7 b8 b9
    have PY : Hid (Calls Tryd.prog 57 #[.pointer (some ⟨g, 0, none⟩), .int .u8 (98 : Int)] u0 fun e w' => e = .returned (.bool true) ∧ Adv u0 w' g s a2 (lnAt s p) (fsAt s p)) := Lib.hid (by rw [ha2]; exact past_yes g s (p + 1) _ _ 98 _ HRdu0.out hs hx2.1 hx2.2)
    clear hx2 hx hx1
    go_wp2_with fail
    refine PY.out.mono ?_
    rintro e u1 ⟨rfl, hadv⟩
    have HRdu1 := Lib.hid hadv.2
    have HGu1 : Hid (w.grownBy u1 (some g)) := Lib.hid (grown_tr HGu0.out hadv.1)
    have HBu1 : Hid (Blk u1 w.heap.size) := Lib.hid (Blk.grown HBu0.out hadv.1 (by omega))
    obtain ⟨⟨m0u1, m1u1, m2u1, m3u1, m4u1⟩, n0u1, n1u1, n2u1, n3u1, n4u1⟩ := Blk.all HBu1.out
    obtain ⟨d0u1, d1u1, d2u1, d3u1, g0u1, g1u1, g2u1, g3u1⟩ := hadv.2.cells
    have HLu1 := Lib.hid (HLu0.out.grown HRdu0.out hadv.1)
    clear hadv
    clear m0u0 m1u0 m2u0 m3u0 m4u0 n0u0 n1u0 n2u0 n3u0 n4u0 d0u0 d1u0 d2u0 d3u0 g0u0 g1u0 g2u0 g3u0
    have OV := Lib.hid (over_any g s a2 _ _ 1 _ HRdu1.out HLu1.out hs (by omega))
    go_wp2_with fail
    refine OV.out.mono ?_
    rintro e w1 ⟨q, rfl, hrun, hadv3⟩
    have HRdw1 := Lib.hid hadv3.2
    have HGw1 : Hid (w.grownBy w1 (some g)) := Lib.hid (grown_tr HGu1.out hadv3.1)
    have HBw1 : Hid (Blk w1 w.heap.size) := Lib.hid (Blk.grown HBu1.out hadv3.1 (by omega))
    obtain ⟨⟨m0w1, m1w1, m2w1, m3w1, m4w1⟩, n0w1, n1w1, n2w1, n3w1, n4w1⟩ := Blk.all HBw1.out
    obtain ⟨d0w1, d1w1, d2w1, d3w1, g0w1, g1w1, g2w1, g3w1⟩ := hadv3.2.cells
    clear hadv3
    clear m0u1 m1u1 m2u1 m3u1 m4u1 n0u1 n1u1 n2u1 n3u1 n4u1 d0u1 d1u1 d2u1 d3u1 g0u1 g1u1 g2u1 g3u1
    have hpq := hrun.1
    have hqs := hrun.2.1
    have hpq2 : p + 2 ≤ q := by omega
    have HN2 : Hid (allP s bBin (p + 2) q) := Lib.hid (fun i i1 i2 => by rw [← kin_bin]; exact hrun.2.2.1 i (by omega) i2)
    have HE : Hid (q = s.size ∨ bBin (cb s q) = false) := Lib.hid (by rw [← kin_bin]; exact hrun.2.2.2)
    have HNA : Hid (allP s bHex (p + 2) q) := Lib.hid (fun i i1 i2 => bin_hex (HN2.out i (by omega) i2))
    have HNA2 : Hid (allP s bBin (p + 2) q) := Lib.hid (fun i i1 i2 => HN2.out i (by omega) i2)
    have HLT : Hid (p < q) := Lib.hid (by omega)
    have HNL : Hid (∀ i, p ≤ i → i < q → cb s i ≠ 10) := Lib.hid (fun i i1 i2 => by
      rcases (show i = p ∨ i = p + 1 ∨ p + 2 ≤ i by omega) with h9 | h9 | h9
      · rw [h9, H1.out]; decide
      · rw [h9, HD.out]; decide
      · exact hex_nl (HNA.out i (by omega) i2))
    clear hrun
    by_cases hq0 : q = a2
    · have HX := Lib.hid (bin_err H1.out HD.out (by omega) HN2.out (by omega) (.inl ⟨by omega, HE.out⟩))
      have ez : (((q - a2 : Nat) : Int) == 0) = true := by rw [beq_iff_eq]; omega
      clear hq0
      go_wp2
      refine bodyPost_ret (results_tok rfl rfl rfl (heap_set5 HBw1.out)) rfl ?_
      exact tokO_no (E := 62) hg HGw1.out HRdw1.out HX.out (by omega)
    · have ez : (((q - a2 : Nat) : Int) == 0) = false := ne_i (k := 0) (by omega)
      have EY : Hid (q = s.size ∨ bEnd (cb s q) = true → oneF s p = .tok 6 (s.extract (p + 2) q) false q) := Lib.hid (fun he => bin_tok H1.out HD.out HN2.out (by omega) hqs he)
      have EX : Hid (q < s.size → bEnd (cb s q) = false → oneF s p = .err 62) := Lib.hid (fun h3 h4 => bin_err H1.out HD.out (by omega) HN2.out (by omega) (.inr ⟨h3, HE.out.resolve_left (by omega), h4⟩))
      clear hq0
      have BW : Hid (∀ w9 w2, Below w1.heap.size w1 w9 → w9.grownBy w2 (some g) → Blk w2 w.heap.size) := Lib.hid (fun w9 w2 h k => Blk.grown (w := w9) ((h.block _ (Array.getElem?_eq_some_iff.1 HBw1.out).1).trans HBw1.out) k (by omega))
      have RW : Hid (∀ w9, Below w1.heap.size w1 w9 → Rdr w9 g s q (lnAt s p) (fsAt s p) ∧ w.grownBy w9 (some g)) := Lib.hid (fun w2 h => ⟨(h.block _ (Rdr.lt HRdw1.out)).trans HRdw1.out, grown_tr HGw1.out ⟨h.os, h.tape, h.output, h.size, fun k hk _ => h.block k hk⟩⟩)
      have LO : Hid (∀ W, Calls Tryd.prog 60 #[.string (s.extract (p + 2) q)] W fun e w' => e = .returned (.string (s.extract (p + 2) q)) ∧ Below W.heap.size W w') := Lib.hid (fun W => by
        have h := Tryd.strings_ToLower_ascii (s.extract (p + 2) q) W (by rw [ByteArray.size_extract]; omega) (ascii_of HNA.out hpq2 hqs)
        refine h.mono fun e w' ⟨h1, h2⟩ => ⟨?_, h2⟩
        rw [h1]; exact ret_s (low_bin HNA2.out hpq2 hqs))
      by_cases hend : q = s.size ∨ bEnd (cb s q) = true
      · have EN : Hid (∀ W, Rdr W g s q (lnAt s p) (fsAt s p) → Calls Tryd.prog 59 #[.pointer (some ⟨g, 0, none⟩), .int .i64 6, .string (s.extract (p + 2) q)] W fun e w' => e = .returned (.tuple #[.agg #[.int .i64 6, .string (s.extract (p + 2) q), .bool false, .int .i64 0, .int .i64 0], .int .i64 0]) ∧ Adv W w' g s q (lnAt s p) (fsAt s p)) :=
          Lib.hid (fun W hW => ended_yes hW hs hqs hend)
        have HO := Lib.hid (EY.out hend)
        clear hend
        go_wp2
        go_region_with (first | (go_at_call 60; refine (LO.out _).mono ?_; rintro e w9 ⟨rfl, hbl⟩; have HBL : Hid (Below w1.heap.size w1 w9) := Lib.hid ⟨hbl.os, hbl.tape, hbl.output, hbl.size, hbl.block⟩; clear hbl) | (go_at_call 59; refine Calls.mono (EN.out _ ?_) ?_; (exact (RW.out _ HBL.out).1); rintro e w2 ⟨rfl, hadv2⟩; have HA2 := Lib.hid hadv2; clear hadv2; obtain ⟨⟨k0, k1, k2, k3, k4⟩, j0, j1, j2, j3, j4⟩ := Blk.all (BW.out _ _ HBL.out HA2.out.1)))
        all_goals (
          go_wp2
          refine bodyPost_ret (results_tok rfl rfl rfl (heap_set5 (BW.out _ _ HBL.out HA2.out.1))) rfl ?_
          exact tokO_yes (k := 6) hg (grown_tr (RW.out _ HBL.out).2 HA2.out.1) (RdA.nl (Nat.le_of_lt HLT.out) HNL.out HA2.out.2) HO.out HLT.out hqs)
      · have hlt2 : q < s.size := by omega
        have hb2 : bEnd (cb s q) = false := by rw [← Bool.not_eq_true]; exact fun h => hend (.inr h)
        have EN : Hid (∀ W, Rdr W g s q (lnAt s p) (fsAt s p) → Calls Tryd.prog 59 #[.pointer (some ⟨g, 0, none⟩), .int .i64 6, .string (s.extract (p + 2) q)] W fun e w' => e = .returned (.tuple #[.agg #[.int .i64 0, .string ⟨#[]⟩, .bool false, .int .i64 0, .int .i64 0], .int .i64 62]) ∧ Adv W w' g s q (lnAt s p) (fsAt s p)) :=
          Lib.hid (fun W hW => ended_no hW hs hlt2 hb2)
        have HX := Lib.hid (EX.out hlt2 hb2)
        clear hend hb2
        go_wp2
        go_region_with (first | (go_at_call 60; refine (LO.out _).mono ?_; rintro e w9 ⟨rfl, hbl⟩; have HBL : Hid (Below w1.heap.size w1 w9) := Lib.hid ⟨hbl.os, hbl.tape, hbl.output, hbl.size, hbl.block⟩; clear hbl) | (go_at_call 59; refine Calls.mono (EN.out _ ?_) ?_; (exact (RW.out _ HBL.out).1); rintro e w2 ⟨rfl, hadv2⟩; have HA2 := Lib.hid hadv2; clear hadv2; obtain ⟨⟨k0, k1, k2, k3, k4⟩, j0, j1, j2, j3, j4⟩ := Blk.all (BW.out _ _ HBL.out HA2.out.1)))
        all_goals (
          go_wp2
          refine bodyPost_ret (results_tok rfl rfl rfl (heap_set5 (BW.out _ _ HBL.out HA2.out.1))) rfl ?_
          exact tokO_no (E := 62) hg (grown_tr (RW.out _ HBL.out).2 HA2.out.1) HA2.out.2 HX.out (by omega))
  · have HX := Lib.hid (hash_err H1.out (by
      by_cases h3 : p + 1 < s.size
      · exact .inr ⟨fun e => hx1 ⟨h3, e⟩, fun e => hx2 ⟨h3, e⟩⟩
      · exact .inl (by omega)) hp)
    have hx : p + 1 < s.size → cb s (p + 1) ≠ 120 ∧ cb s (p + 1) ≠ 98 := fun h => ⟨fun e => hx1 ⟨h, e⟩, fun e => hx2 ⟨h, e⟩⟩
    have P1 : Hid (Calls Tryd.prog 57 #[.pointer (some ⟨g, 0, none⟩), .int .u8 (120 : Int)] ((w.setCell ⟨g, 1, none⟩ (.int .i64 ((p : Int) + 1))).alloc (Obj.cells #[.int .i64 0, .string ⟨#[]⟩, .bool false, .int .i64 0, .int .i64 0] 34)) fun e w' => e = .returned (.bool false) ∧ Adv ((w.setCell ⟨g, 1, none⟩ (.int .i64 ((p : Int) + 1))).alloc (Obj.cells #[.int .i64 0, .string ⟨#[]⟩, .bool false, .int .i64 0, .int .i64 0] 34)) w' g s (p + 1) (lnAt s p) (fsAt s p)) := Lib.hid (by
      by_cases h3 : p + 1 < s.size
      · exact past_not g s (p + 1) _ _ 120 _ HRa.out hs h3 (fun e => by have := hx h3; omega)
      · have hr := HRa.out
        have e : p + 1 = s.size := by omega
        rw [e] at hr ⊢
        exact past_end g s _ _ 120 _ hr hs)
    go_wp2_with fail
    refine P1.out.mono ?_
    rintro e u0 ⟨rfl, hadv⟩
    have HRdu0 := Lib.hid hadv.2
    have HGu0 : Hid (w.grownBy u0 (some g)) := Lib.hid (grown_tr HGa.out hadv.1)
    have HBu0 : Hid (Blk u0 w.heap.size) := Lib.hid (Blk.grown HBa.out hadv.1 (by omega))
    obtain ⟨⟨m0u0, m1u0, m2u0, m3u0, m4u0⟩, n0u0, n1u0, n2u0, n3u0, n4u0⟩ := Blk.all HBu0.out
    obtain ⟨d0u0, d1u0, d2u0, d3u0, g0u0, g1u0, g2u0, g3u0⟩ := hadv.2.cells
    have HLu0 := Lib.hid (HLa.out.grown HRa.out hadv.1)
    clear hadv c0 c1 c2 c3 f0 f1 f2 f3 b0 b1 b2 b3 b4 b5 b6 b7 b8 b9
    have P2 : Hid (Calls Tryd.prog 57 #[.pointer (some ⟨g, 0, none⟩), .int .u8 (98 : Int)] u0 fun e w' => e = .returned (.bool false) ∧ Adv u0 w' g s (p + 1) (lnAt s p) (fsAt s p)) := Lib.hid (by
      by_cases h3 : p + 1 < s.size
      · exact past_not g s (p + 1) _ _ 98 _ HRdu0.out hs h3 (fun e => by have := hx h3; omega)
      · have hr := HRdu0.out
        have e : p + 1 = s.size := by omega
        rw [e] at hr ⊢
        exact past_end g s _ _ 98 _ hr hs)
    clear hx2 hx hx1
    go_wp2_with fail
    refine P2.out.mono ?_
    rintro e u1 ⟨rfl, hadv⟩
    have HRdu1 := Lib.hid hadv.2
    have HGu1 : Hid (w.grownBy u1 (some g)) := Lib.hid (grown_tr HGu0.out hadv.1)
    have HBu1 : Hid (Blk u1 w.heap.size) := Lib.hid (Blk.grown HBu0.out hadv.1 (by omega))
    obtain ⟨⟨m0u1, m1u1, m2u1, m3u1, m4u1⟩, n0u1, n1u1, n2u1, n3u1, n4u1⟩ := Blk.all HBu1.out
    obtain ⟨d0u1, d1u1, d2u1, d3u1, g0u1, g1u1, g2u1, g3u1⟩ := hadv.2.cells
    have HLu1 := Lib.hid (HLu0.out.grown HRdu0.out hadv.1)
    clear hadv
    clear m0u0 m1u0 m2u0 m3u0 m4u0 n0u0 n1u0 n2u0 n3u0 n4u0 d0u0 d1u0 d2u0 d3u0 g0u0 g1u0 g2u0 g3u0
    have OV := Lib.hid (over_any g s (p + 1) _ _ 0 _ HRdu1.out HLu1.out hs (by omega))
    go_wp2_with fail
    refine OV.out.mono ?_
    rintro e w1 ⟨q, rfl, hrun, hadv3⟩
    have HRdw1 := Lib.hid hadv3.2
    have HGw1 : Hid (w.grownBy w1 (some g)) := Lib.hid (grown_tr HGu1.out hadv3.1)
    have HBw1 : Hid (Blk w1 w.heap.size) := Lib.hid (Blk.grown HBu1.out hadv3.1 (by omega))
    obtain ⟨⟨m0w1, m1w1, m2w1, m3w1, m4w1⟩, n0w1, n1w1, n2w1, n3w1, n4w1⟩ := Blk.all HBw1.out
    obtain ⟨d0w1, d1w1, d2w1, d3w1, g0w1, g1w1, g2w1, g3w1⟩ := hadv3.2.cells
    clear hadv3
    clear m0u1 m1u1 m2u1 m3u1 m4u1 n0u1 n1u1 n2u1 n3u1 n4u1 d0u1 d1u1 d2u1 d3u1 g0u1 g1u1 g2u1 g3u1
    obtain rfl : q = p + 1 := by
      have h1 := hrun.1
      rcases Nat.lt_or_ge (p + 1) q with h9 | h9
      · have := hrun.2.2.1 (p + 1) (Nat.le_refl _) h9; rw [kin_none] at this; cases this
      · omega
    have ez : (((p + 1 - (p + 1) : Nat) : Int) == 0) = true := by rw [beq_iff_eq]; omega
    clear hrun
    go_wp2
    refine bodyPost_ret (results_tok rfl rfl rfl (heap_set5 HBw1.out)) rfl ?_
    exact tokO_no (E := 62) hg HGw1.out HRdw1.out HX.out (by omega)
end Go.Proofs.YtpkdiciinhjfjaaDoor

/- lexis: startOf, skip. -/
namespace Go.Proofs.YtpkdiciinhjfjaaDoor
open Go.RowKit Mth

/-- what begins with a byte -/
def stF (c : Nat) : Nat := if c = 40 ∨ c = 41 then 1 else if c = 35 then 3 else if c = 34 then 4 else if c = 124 then 5 else if c = 58 then 6 else if bDig c then 2 else if bSimple c then 7 else 0
set_option maxHeartbeats 2000000 in
set_option maxRecDepth 100000 in
theorem startOf_any (c : Nat) (hc : c ≤ 255) (w : World) (hT : STab w) : Calls Tryd.prog 22 #[.int .u8 ((c : Nat) : Int)] w fun e w' => e = .returned (.int .i64 ((stF c : Nat) : Int)) ∧ w = w' := by
  have KO := Lib.hid (kindsOf_any c hc w hT)
  clear hT
  by_cases hl : c = 40 ∨ c = 41 ∨ c = 35 ∨ c = 34 ∨ c = 124 ∨ c = 58
  · rcases hl with rfl | rfl | rfl | rfl | rfl | rfl
    all_goals (
      go_enter Tryd.func22, Tryd.ntmps22
      go_wp2_with (go_at_call 49; refine KO.out.mono ?_; rintro e w1 ⟨rfl, rfl⟩)
      go_ret
      exact ⟨ret_z (by rfl), rfl⟩)
  · have hn : c ≠ 40 ∧ c ≠ 41 ∧ c ≠ 35 ∧ c ≠ 34 ∧ c ≠ 124 ∧ c ≠ 58 := by omega
    clear hl
    obtain ⟨n1, n2, n3, n4, n5, n6⟩ := hn
    have e1 : ((c : Int) == 40) = false := ne_i (k := 40) n1
    have e2 : ((c : Int) == 41) = false := ne_i (k := 41) n2
    have e3 : ((c : Int) == 35) = false := ne_i (k := 35) n3
    have e4 : ((c : Int) == 34) = false := ne_i (k := 34) n4
    have e5 : ((c : Int) == 124) = false := ne_i (k := 124) n5
    have e6 : ((c : Int) == 58) = false := ne_i (k := 58) n6
    have ES : Hid (stF c = if bDig c then 2 else if bSimple c then 7 else 0) := Lib.hid (by
      unfold stF
      rw [if_neg (by omega), if_neg n3, if_neg n4, if_neg n5, if_neg n6])
    clear n1 n2 n3 n4 n5 n6
    have hk := kinds_cases c
    have b1 : (bits BinOp.and IntKind.i64 15 2 != 0) = true := by decide
    have b2 : (bits BinOp.and IntKind.i64 14 2 != 0) = true := by decide
    have b3 : (bits BinOp.and IntKind.i64 12 2 != 0) = false := by decide
    have b4 : (bits BinOp.and IntKind.i64 8 2 != 0) = false := by decide
    have b5 : (bits BinOp.and IntKind.i64 0 2 != 0) = false := by decide
    have d3 : (bits BinOp.and IntKind.i64 12 8 != 0) = true := by decide
    have d4 : (bits BinOp.and IntKind.i64 8 8 != 0) = true := by decide
    have d5 : (bits BinOp.and IntKind.i64 0 8 != 0) = false := by decide
    rcases hk with ⟨h, _, h2, _, h4⟩ | ⟨h, _, h2, _, h4⟩ | ⟨h, _, h2, _, h4⟩ | ⟨h, _, h2, _, h4⟩ | ⟨h, _, h2, _, h4⟩
    all_goals (
      rw [h] at KO
      have ER := Lib.hid (ES.out.trans (by rw [h2, h4]))
      clear h h2 h4
      go_enter Tryd.func22, Tryd.ntmps22
      go_wp2_with (go_at_call 49; refine KO.out.mono ?_; rintro e w1 ⟨rfl, rfl⟩)
      go_ret
      exact ⟨ret_z (by rw [ER.out]; rfl), rfl⟩)

/-- the answer of skip -/
def SkipO (w w' : World) (g : Nat) (s : ByteArray) (a : Nat) (e : Ending) : Prop :=
  w.grownBy w' (some g) ∧ ((e = .returned (.bool true) ∧ skipF s a < s.size ∧ bBlank (cb s (skipF s a)) = false ∧ cb s (skipF s a) ≠ 59 ∧ RdA w' g s (skipF s a)) ∨ (e = .returned (.bool false) ∧ s.size ≤ skipF s a))
def SkR (w wr : World) (g : Nat) (s : ByteArray) (a : Nat) : Prop := ∃ p : Nat, p ≤ s.size ∧ skipF s a = skipF s p ∧ AdA w wr g s p
theorem rdaC {w : World} {g p : Nat} {s : ByteArray} (h : RdA w g s p) :
    w.cell? ⟨g, 0, none⟩ = some (.string s) ∧ w.cell? ⟨g, 1, none⟩ = some (.int .i64 (p : Int)) ∧ w.cell? ⟨g, 2, none⟩ = some (.int .i64 (lnAt s p : Int)) ∧ w.cell? ⟨g, 3, none⟩ = some (.int .i64 (fsAt s p : Int)) ∧
    w.frozen? ⟨g, 0, none⟩ = false ∧ w.frozen? ⟨g, 1, none⟩ = false ∧ w.frozen? ⟨g, 2, none⟩ = false ∧ w.frozen? ⟨g, 3, none⟩ = false := Rdr.cells h
theorem RdA.step {s : ByteArray} {p : Nat} {w : World} {g : Nat} (hn : cb s p ≠ 10) (h : Rdr w g s (p + 1) (lnAt s p) (fsAt s p)) : RdA w g s (p + 1) := by
  have := ln_same hn
  unfold RdA; rw [this.1, this.2]; exact h
theorem RdA.stepN {s : ByteArray} {p : Nat} {w : World} {g : Nat} (hn : cb s p = 10) (h : Rdr w g s (p + 1) (lnAt s p + 1) (p + 1)) : RdA w g s (p + 1) := by
  have := ln_nl hn
  unfold RdA; rw [this.1, this.2]; exact h
set_option maxHeartbeats 2000000 in
set_option maxRecDepth 100000 in
theorem skip_any (g : Nat) (s : ByteArray) (a : Nat) (w : World) (h : RdA w g s a) (hs : s.size ≤ 1048576) (ha : a ≤ s.size) :
    Calls Tryd.prog 20 #[.pointer (some ⟨g, 0, none⟩)] w fun e w' => SkipO w w' g s a e := by
  have HR := Lib.hid h
  clear h
  go_enter Tryd.func20, Tryd.ntmps20
  go_wp2
  go_loopw [] (fun wr => SkR w wr g s a) (fun wr => s.size - atIn wr g)
  case atStart => exact ⟨a, ha, rfl, grown_refl _ _, HR.out⟩
  case round =>
    obtain ⟨p, hp, hsk, hadv⟩ := hrel
    have HS := Lib.hid hsk
    have HA := Lib.hid hadv
    have HM : Hid (atIn wr g = p) := Lib.hid (atIn_of hadv.2)
    obtain ⟨d0, d1, d2, d3, g0, g1, g2, g3⟩ := rdaC hadv.2
    clear hadv hsk
    by_cases hlt : p < s.size
    · have hbk := cb_at hlt
      by_cases h59 : cb s p = 59
      · have CM : Hid (∀ n, Calls Tryd.prog 47 #[.pointer (some ⟨g, 0, none⟩)] (wr.drewN n) fun e w' => e = .returned (.tuple #[]) ∧ ∃ q, p ≤ q ∧ q ≤ s.size ∧ (∀ i, p ≤ i → i < q → (cb s i != 10) = true) ∧ (q = s.size ∨ cb s q = 10) ∧ Adv (wr.drewN n) w' g s q (lnAt s p) (fsAt s p)) :=
          Lib.hid (fun n => comment_any g s p _ _ _ (Rdr.drewN HA.out.2 n) hs (by omega))
        have H59 := Lib.hid h59
        rw [h59] at hbk
        clear h59
        go_wp2
        go_quiet (fail)
        go_wp2
        go_quiet (fail)
        go_wp2_with fail
        refine (CM.out _).mono ?_
        rintro e w1 ⟨rfl, q, h1, h2, h3, h4, hadv⟩
        have hpq : p < q := by
          rcases Nat.lt_or_ge p q with h | h
          · exact h
          · obtain rfl : p = q := by omega
            have h5 := H59.out
            rcases h4 with h4 | h4 <;> omega
        have HN : Hid (∀ i, p ≤ i → i < q → cb s i ≠ 10) := Lib.hid (fun i i1 i2 e => by have := h3 i i1 i2; rw [e] at this; cases this)
        have HK : Hid (skipF s a = skipF s q) := Lib.hid (by rw [HS.out, skip_cmt hlt H59.out, cmt_of (q - (p + 1)) (Nat.le_refl _) (by omega) h2 (fun i i1 i2 => HN.out i (by omega) i2) h4])
        have HA1 : Hid (AdA w w1 g s q) := Lib.hid ⟨grown_tr (grown_drewN HA.out.1 _) hadv.1, RdA.nl (Nat.le_of_lt hpq) HN.out hadv.2⟩
        clear h3 h4 hadv
        go_wp2
        go_roundw
        case rel => exact ⟨q, h2, HK.out, HA1.out⟩
        case measure => exact meas_lt HM.out HA1.out.2 hpq h2
      · have e59 : ((cb s p : Int) == 59) = false := ne_i (k := 59) h59
        by_cases h10 : cb s p = 10
        · have HK : Hid (skipF s a = skipF s (p + 1)) := Lib.hid (by rw [HS.out, skip_blank hlt (by rw [h10]; rfl)])
          have H10 := Lib.hid h10
          have hl := ln_le s p
          have NL : Hid (∀ n, Calls Tryd.prog 48 #[.pointer (some ⟨g, 0, none⟩)] (wr.drewN n) fun e w' => e = .returned (.tuple #[]) ∧ Adv (wr.drewN n) w' g s p (lnAt s p + 1) (p + 1)) :=
            Lib.hid (fun n => newLine_any g s p _ _ _ (Rdr.drewN HA.out.2 n) (by omega) (by omega))
          rw [h10] at hbk e59
          clear h10 h59
          go_wp2
          go_quiet (fail)
          go_wp2
          go_quiet (fail)
          go_wp2_with fail
          refine (NL.out _).mono ?_
          rintro e w1 ⟨rfl, hadv⟩
          have HA1 := Lib.hid hadv
          obtain ⟨k0, k1, k2, k3, j0, j1, j2, j3⟩ := hadv.2.cells
          clear hadv
          go_wp2
          go_roundw
          case rel => exact ⟨p + 1, by omega, HK.out, grown_set (grown_tr (grown_drewN HA.out.1 _) HA1.out.1) _, RdA.stepN H10.out HA1.out.2.setAt⟩
          case measure => exact meas_lt HM.out (HA1.out.2.setAt (a' := p + 1)) (by omega) (by omega)
        · have e10 : ((cb s p : Int) == 10) = false := ne_i (k := 10) h10
          have H10 := Lib.hid h10
          by_cases hbl : cb s p = 9 ∨ cb s p = 13 ∨ cb s p = 32
          · have HK : Hid (skipF s a = skipF s (p + 1)) := Lib.hid (by rw [HS.out, skip_blank hlt (by rw [bBlank_iff]; omega)])
            rcases hbl with hbl | hbl | hbl
            all_goals (
              rw [hbl] at hbk e59 e10
              clear hbl h59 h10
              go_wp2
              go_quiet (fail)
              go_wp2
              go_quiet (fail)
              go_wp2
              go_roundw
              case rel => exact ⟨p + 1, by omega, HK.out, grown_set (grown_drewN HA.out.1 _) _, RdA.step H10.out (Rdr.drewN HA.out.2 _).setAt⟩
              case measure => exact meas_lt HM.out ((Rdr.drewN HA.out.2 _).setAt (a' := p + 1)) (by omega) (by omega))
          · have n9 : cb s p ≠ 9 := fun e => hbl (.inl e)
            have n13 : cb s p ≠ 13 := fun e => hbl (.inr (.inl e))
            have n32 : cb s p ≠ 32 := fun e => hbl (.inr (.inr e))
            have e9 : ((cb s p : Int) == 9) = false := ne_i (k := 9) n9
            have e13 : ((cb s p : Int) == 13) = false := ne_i (k := 13) n13
            have e32 : ((cb s p : Int) == 32) = false := ne_i (k := 32) n32
            have HBL : Hid (bBlank (cb s p) = false) := Lib.hid (by rw [← Bool.not_eq_true, bBlank_iff]; omega)
            have H59 := Lib.hid h59
            have HK : Hid (skipF s a = p) := Lib.hid (by rw [HS.out, skip_here HBL.out h59])
            clear hbl h59 h10 n9 n13 n32
            go_wp2
            go_quiet (fail)
            go_wp2
            go_quiet (fail)
            go_wp2
            go_ret
            exact ⟨grown_drewN HA.out.1 _, .inl ⟨rfl, by rw [HK.out]; exact hlt, by rw [HK.out]; exact HBL.out, by rw [HK.out]; exact H59.out, by rw [HK.out]; exact Rdr.drewN HA.out.2 _⟩⟩
    · obtain rfl : p = s.size := by omega
      have HK : Hid (s.size ≤ skipF s a) := Lib.hid (by rw [HS.out, skip_end (Nat.le_refl _)]; exact Nat.le_refl _)
      go_wp2
      go_quiet (fail)
      go_wp2
      go_ret
      exact ⟨grown_drewN HA.out.1 _, .inr ⟨rfl, HK.out⟩⟩
end Go.Proofs.YtpkdiciinhjfjaaDoor

/- lexis: readers; which method reads what begins with a byte. -/
namespace Go.Proofs.YtpkdiciinhjfjaaDoor
open Go.RowKit Mth

def methN (k : Nat) : Nat := ([39, 40, 41, 42, 43, 44, 45, 46] : List Nat).getD k 0
def fnV (m : Nat) : Value := .func (.func m) #[] #[]
def methC : Array Value := #[fnV (methN 0), fnV (methN 1), fnV (methN 2), fnV (methN 3), fnV (methN 4), fnV (methN 5), fnV (methN 6), fnV (methN 7)]
theorem blk8 {w : World} {b : Nat} {v0 v1 v2 v3 v4 v5 v6 v7 : Value} {T : TypeId} (h : w.heap[b]? = some (.cells #[v0, v1, v2, v3, v4, v5, v6, v7] T (0, 0))) :
    w.cell? ⟨b, 0, none⟩ = some v0 ∧ w.cell? ⟨b, 1, none⟩ = some v1 ∧ w.cell? ⟨b, 2, none⟩ = some v2 ∧ w.cell? ⟨b, 3, none⟩ = some v3 ∧ w.cell? ⟨b, 4, none⟩ = some v4 ∧ w.cell? ⟨b, 5, none⟩ = some v5 ∧ w.cell? ⟨b, 6, none⟩ = some v6 ∧ w.cell? ⟨b, 7, none⟩ = some v7 := by
  refine ⟨?_, ?_, ?_, ?_, ?_, ?_, ?_, ?_⟩ <;> (rw [cell_of_row w b _ _ _ (0, 0) h]; rfl)
set_option maxRecDepth 100000 in
theorem results_meth {fn : Func} {t : Tmp} {tmps : Array Value} {b : Nat} {v0 v1 v2 v3 v4 v5 v6 v7 : Value} {T : TypeId} {W : World} (h : fn.results = #[.cell t 62])
    (h1 : tmps.getD t undef = .pointer (some ⟨b, 0, none⟩)) (h3 : W.heap[b]? = some (.cells #[v0, v1, v2, v3, v4, v5, v6, v7] T (0, 0))) :
    (results fn tmps).run Tryd.prog W = .ok (.agg #[v0, v1, v2, v3, v4, v5, v6, v7]) W := by
  obtain ⟨c0, c1, c2, c3, c4, c5, c6, c7⟩ := blk8 h3
  rw [Array.getD_eq_getD_getElem?] at h1
  simp [results, h, h1, go_sem, c0, c1, c2, c3, c4, c5, c6, c7]
set_option maxRecDepth 100000 in
theorem readers_any (w : World) : Calls Tryd.prog 19 #[] w fun e w' => e = .returned (.agg #[.func (.func 39) #[] #[], .func (.func 40) #[] #[], .func (.func 41) #[] #[], .func (.func 42) #[] #[], .func (.func 43) #[] #[], .func (.func 44) #[] #[], .func (.func 45) #[] #[], .func (.func 46) #[] #[]]) ∧ Below w.heap.size w w' := by
  have BE := Lib.hid (Below.refl w.heap.size w)
  go_enter Tryd.func19, Tryd.ntmps19
  go_wp2
  refine bodyPost_ret (results_meth rfl rfl (heap_alloc_new _ _)) rfl ?_
  exact ⟨rfl, BE.out.alloc (Nat.le_refl _) _⟩
/-- the table of methods in memory -/
def FnB (w : World) (b : Nat) : Prop := w.heap[b]? = some (.cells methC 62 (0, 0))
theorem FnB.at {w : World} {b : Nat} (h : FnB w b) {k : Nat} (hk : k < 8) : w.cell? ⟨b, k, none⟩ = some (fnV (methN k)) := by
  rw [cell_of_row w b k _ _ (0, 0) h]
  match k, hk with
  | 0, _ => rfl
  | 1, _ => rfl
  | 2, _ => rfl
  | 3, _ => rfl
  | 4, _ => rfl
  | 5, _ => rfl
  | 6, _ => rfl
  | 7, _ => rfl
  | k + 8, hk => omega
theorem stF_lt (c : Nat) : stF c < 8 := by unfold stF; (repeat' split) <;> omega
theorem meth_of {s : ByteArray} {q : Nat} (hs : s.size ≤ 1048576) (hq : q < s.size) (g : Nat) :
    (∀ args w, (callFunc (methN (stF (cb s q))) args).run Tryd.prog w = .ok (.enter (methN (stF (cb s q))) args) w) ∧
    (∀ W, RdA W g s q → LexW W → Calls Tryd.prog (methN (stF (cb s q))) #[.pointer (some ⟨g, 0, none⟩)] W fun e w' => TokO W w' g s q e) := by
  have E : ∀ k, k < 8 → ∀ args w, (callFunc (methN k) args).run Tryd.prog w = .ok (.enter (methN k) args) w := fun k hk => by
    match k, hk with
    | 0, _ => exact enters_of Tryd.func39 (by kernel_rfl) rfl
    | 1, _ => exact enters_of Tryd.func40 (by kernel_rfl) rfl
    | 2, _ => exact enters_of Tryd.func41 (by kernel_rfl) rfl
    | 3, _ => exact enters_of Tryd.func42 (by kernel_rfl) rfl
    | 4, _ => exact enters_of Tryd.func43 (by kernel_rfl) rfl
    | 5, _ => exact enters_of Tryd.func44 (by kernel_rfl) rfl
    | 6, _ => exact enters_of Tryd.func45 (by kernel_rfl) rfl
    | 7, _ => exact enters_of Tryd.func46 (by kernel_rfl) rfl
    | k + 8, hk => omega
  refine ⟨E _ (stF_lt _), fun W hr hL => ?_⟩
  by_cases h1 : cb s q = 40 ∨ cb s q = 41
  · have e : stF (cb s q) = 1 := by unfold stF; rw [if_pos h1]
    rw [e]; exact parenthesis_any g s q W hr hL hs hq h1
  by_cases h2 : cb s q = 35
  · have e : stF (cb s q) = 3 := by unfold stF; rw [if_neg h1, if_pos h2]
    rw [e]; exact prefixed_any g s q W hr hL hs hq h2
  by_cases h3 : cb s q = 34
  · have e : stF (cb s q) = 4 := by unfold stF; rw [if_neg h1, if_neg h2, if_pos h3]
    rw [e]; exact quoted_any g s q W hr hL hs hq h3
  by_cases h4 : cb s q = 124
  · have e : stF (cb s q) = 5 := by unfold stF; rw [if_neg h1, if_neg h2, if_neg h3, if_pos h4]
    rw [e]; exact barred_any g s q W hr hL hs hq h4
  by_cases h5 : cb s q = 58
  · have e : stF (cb s q) = 6 := by unfold stF; rw [if_neg h1, if_neg h2, if_neg h3, if_neg h4, if_pos h5]
    rw [e]; exact keyword_any g s q W hr hL hs hq h5
  have e0 : stF (cb s q) = if bDig (cb s q) then 2 else if bSimple (cb s q) then 7 else 0 := by
    unfold stF; rw [if_neg h1, if_neg h2, if_neg h3, if_neg h4, if_neg h5]
  rcases Bool.eq_false_or_eq_true (bDig (cb s q)) with h6 | h6
  · have e : stF (cb s q) = 2 := by rw [e0, h6]; rfl
    rw [e]; exact number_any g s q W hr hL hs hq h6
  rcases Bool.eq_false_or_eq_true (bSimple (cb s q)) with h7 | h7
  · have e : stF (cb s q) = 7 := by rw [e0, h6, h7]; rfl
    rw [e]; exact word_any g s q W hr hL hs hq h7 h6
  · have e : stF (cb s q) = 0 := by rw [e0, h6, h7]; rfl
    rw [e]; exact nothing_any g s q W hr hL hs hq (one_nothing ⟨fun e => h1 (.inl e), fun e => h1 (.inr e), h3, h4, h2, h5, h7⟩)
end Go.Proofs.YtpkdiciinhjfjaaDoor
