/- lexis: barred, quoted, prefixed (written by genlv.py). -/
import Derived.Test.YtlgcmpiobglbbaaDoorLU
import Derived.Test.YtlgcmpiobglbbaaDoorLJ
import Derived.Test.YtlgcmpiobglbbaaDoorShelf
set_option linter.unusedVariables false
set_option linter.unusedSimpArgs false
namespace Go.Proofs.YtlgcmpiobglbbaaDoor
open Go.RowKit Mth

theorem RdA.here {s : ByteArray} {p q : Nat} {w : World} {g : Nat} (hl : lnAt s q = lnAt s p) (hf : fsAt s q = fsAt s p) (h : Rdr w g s q (lnAt s p) (fsAt s p)) : RdA w g s q := by
  unfold RdA; rw [hl, hf]; exact h
theorem nl_next {s : ByteArray} {p : Nat} (h : cb s p ≠ 10) : lnAt s (p + 1) = lnAt s p ∧ fsAt s (p + 1) = fsAt s p := ln_same h
theorem Adv.ofA {w w' : World} {g p : Nat} {s : ByteArray} (h : AdA w w' g s p) : Adv w w' g s p (lnAt s p) (fsAt s p) := h
set_option maxHeartbeats 1000000 in
set_option maxRecDepth 100000 in
theorem barred_any (g : Nat) (s : ByteArray) (p : Nat) (w : World) (h : RdA w g s p) (hL : LexW w) (hs : s.size ≤ 1048576) (hp : p < s.size) (h1 : cb s p = 124) :
    Calls Tryd.prog 40 #[.pointer (some ⟨g, 0, none⟩)] w fun e w' => TokO w w' g s p e := by
  have HR := Lib.hid h
  have hg := h.lt
  have HB : Hid (Blk (w.alloc (Obj.cells #[.int .i64 0, .string ⟨#[]⟩, .bool false, .int .i64 0, .int .i64 0] 33)) w.heap.size) := Lib.hid (heap_alloc_new w (Obj.cells #[.int .i64 0, .string ⟨#[]⟩, .bool false, .int .i64 0, .int .i64 0] 33))
  have HL := Lib.hid (hL.below ((Below.refl _ _).alloc (Nat.le_refl _) (Obj.cells #[.int .i64 0, .string ⟨#[]⟩, .bool false, .int .i64 0, .int .i64 0] 33)))
  have HR1 := Lib.hid (h.alloc (Obj.cells #[.int .i64 0, .string ⟨#[]⟩, .bool false, .int .i64 0, .int .i64 0] 33))
  obtain ⟨c0, c1, c2, c3, f0, f1, f2, f3⟩ := h.cells
  obtain ⟨⟨b0, b1, b2, b3, b4⟩, b5, b6, b7, b8, b9⟩ := Blk.all HB.out
  have HL0 := Lib.hid hL
  have H1 := Lib.hid h1
  clear h hL h1
  go_enter Tryd.func40, Tryd.ntmps40
  have ea : ((p + 1 : Nat) : Int) = (p : Int) + 1 := by omega
  have HRa : Hid (Rdr ((w.setCell ⟨g, 1, none⟩ (.int .i64 ((p : Int) + 1))).alloc (Obj.cells #[.int .i64 0, .string ⟨#[]⟩, .bool false, .int .i64 0, .int .i64 0] 33)) g s (p + 1) (lnAt s p) (fsAt s p)) := Lib.hid (by have h := (HR.out.setAt (a' := p + 1)).alloc (Obj.cells #[.int .i64 0, .string ⟨#[]⟩, .bool false, .int .i64 0, .int .i64 0] 33); rwa [ea] at h)
  have HLa : Hid (LexW ((w.setCell ⟨g, 1, none⟩ (.int .i64 ((p : Int) + 1))).alloc (Obj.cells #[.int .i64 0, .string ⟨#[]⟩, .bool false, .int .i64 0, .int .i64 0] 33))) := Lib.hid ((HL0.out.grown HR.out (grown_set (grown_refl _ _) _)).below ((Below.refl _ _).alloc (Nat.le_refl _) _))
  have HBa : Hid (Blk ((w.setCell ⟨g, 1, none⟩ (.int .i64 ((p : Int) + 1))).alloc (Obj.cells #[.int .i64 0, .string ⟨#[]⟩, .bool false, .int .i64 0, .int .i64 0] 33)) w.heap.size) := Lib.hid (blk_new1 w g _)
  have HGa : Hid (w.grownBy ((w.setCell ⟨g, 1, none⟩ (.int .i64 ((p : Int) + 1))).alloc (Obj.cells #[.int .i64 0, .string ⟨#[]⟩, .bool false, .int .i64 0, .int .i64 0] 33)) (some g)) := Lib.hid (grown_alloc (grown_set (grown_refl _ _) _) _)
  clear ea
  have HNX := Lib.hid (nl_next (s := s) (p := p) (by rw [H1.out]; decide))
  have TH := Lib.hid (through_any g s (p + 1) 124 _ (RdA.here HNX.out.1 HNX.out.2 HRa.out) hs (by omega) (.inr rfl))
  go_wp2_with fail
  refine TH.out.mono ?_
  rintro e w1 (⟨q, rfl, htx, hq, hm, hadv⟩ | ⟨q, rfl, htx, hq, hgr, a9, l9, f9, hr9⟩)
  · have HTX : Hid (TxtM s 124 (p + 1) q) := Lib.hid htx
    have HM := Lib.hid hm
    have hpq := htx.1
    have hRd := hadv.adv.2
    have HRA := Lib.hid hadv.2
    have HG : Hid (w.grownBy w1 (some g)) := Lib.hid (grown_tr HGa.out hadv.1)
    have HBW : Hid (Blk w1 w.heap.size) := Lib.hid (Blk.grown HBa.out hadv.1 (by omega))
    obtain ⟨⟨m0, m1, m2, m3, m4⟩, n0, n1, n2, n3, n4⟩ := Blk.all HBW.out
    obtain ⟨d0, d1, d2, d3, g0, g1, g2, g3⟩ := hRd.cells
    clear htx hm hadv hRd TH c0 c1 c2 c3 f0 f1 f2 f3 b0 b1 b2 b3 b4 b5 b6 b7 b8 b9
    have e1 : ((q + 1 : Nat) : Int) - 1 = (q : Int) := by omega
    have CT : Hid (∀ W, Calls Tryd.prog 60 #[.string (s.extract (p + 1) q), .string ⟨#[92]⟩] W fun e w' => e = .returned (.bool ((s.extract (p + 1) q).data.toList.contains 92)) ∧ w' = W) := Lib.hid (fun W => by
      have h := Tryd.strings_Contains_one (s.extract (p + 1) q) 92 W
      rwa [indexB_mem] at h)
    have HEM : Hid ((s.extract (p + 1) q).data.toList.contains (92 : UInt8) = true ↔ ∃ i, p + 1 ≤ i ∧ i < q ∧ cb s i = 92) := Lib.hid (ext_mem (c := 92) (by omega) (by omega) (by omega))
    rcases Bool.eq_false_or_eq_true ((s.extract (p + 1) q).data.toList.contains (92 : UInt8)) with hb | hb
    · rw [hb] at CT
      have HX := Lib.hid ((one_ba H1.out).trans (ba_bad (q - (p + 1)) (Nat.le_refl _) HTX.out (HEM.out.1 hb)))
      clear hb
      go_wp2
      go_quiet (fail)
      go_wp2_with fail
      refine (CT.out _).mono ?_
      rintro e w2 ⟨rfl, rfl⟩
      go_wp2
      refine bodyPost_ret (results_tok rfl rfl rfl (heap_set5 (w := World.drewN _ _) HBW.out)) rfl ?_
      exact tokO_no (E := 61) hg (grown_drewN HG.out _) (Rdr.drewN HRA.out _) HX.out (by omega)
    · rw [hb] at CT
      have HX := Lib.hid ((one_ba H1.out).trans (ba_of (q - (p + 1)) (Nat.le_refl _) hpq hq HM.out (fun j j1 j2 => ⟨(HTX.out.2.2 j j1 j2).1, fun e => (by have := HEM.out.2 ⟨j, j1, j2, e⟩; rw [hb] at this; cases this), (HTX.out.2.2 j j1 j2).2⟩)))
      clear hb
      go_wp2
      go_quiet (fail)
      go_wp2_with fail
      refine (CT.out _).mono ?_
      rintro e w2 ⟨rfl, rfl⟩
      go_wp2
      refine bodyPost_ret (results_tok rfl rfl rfl (heap_set5 (w := World.drewN _ _) HBW.out)) rfl ?_
      exact tokO_yes (k := 8) hg (grown_drewN HG.out _) (Rdr.drewN HRA.out _) HX.out (by omega) (by omega)
  · have HX := Lib.hid ((one_ba H1.out).trans (ba_open (b := p + 1) htx hq))
    have HR9 := Lib.hid hr9
    have HG : Hid (w.grownBy w1 (some g)) := Lib.hid (grown_tr HGa.out hgr)
    have HBW : Hid (Blk w1 w.heap.size) := Lib.hid (Blk.grown HBa.out hgr (by omega))
    obtain ⟨⟨m0, m1, m2, m3, m4⟩, n0, n1, n2, n3, n4⟩ := Blk.all HBW.out
    clear htx hq hgr hr9 TH
    go_wp2
    refine bodyPost_ret (results_tok rfl rfl rfl (heap_set5 HBW.out)) rfl ?_
    exact tokO_no (E := 61) hg HG.out HR9.out HX.out (by omega)
/-- the loop of quoted -/
def QtR (w wr : World) (g b : Nat) (s : ByteArray) (p : Nat) (m : Value) : Prop := ∃ a : Nat, p + 1 ≤ a ∧ a ≤ s.size ∧ w.grownBy wr (some g) ∧ RdA wr g s a ∧ Blk wr b ∧
  ((m = .bool true ∧ ∃ t0, quF s (p + 1) ⟨#[]⟩ = quF s a t0) ∨ (m = .bool false ∧ ∃ t, quF s (p + 1) ⟨#[]⟩ = .tok 7 t false a))
theorem rda_cells {w : World} {g p : Nat} {s : ByteArray} (h : RdA w g s p) :
    w.cell? ⟨g, 0, none⟩ = some (.string s) ∧ w.cell? ⟨g, 1, none⟩ = some (.int .i64 (p : Int)) ∧ w.cell? ⟨g, 2, none⟩ = some (.int .i64 (lnAt s p : Int)) ∧ w.cell? ⟨g, 3, none⟩ = some (.int .i64 (fsAt s p : Int)) ∧
    w.frozen? ⟨g, 0, none⟩ = false ∧ w.frozen? ⟨g, 1, none⟩ = false ∧ w.frozen? ⟨g, 2, none⟩ = false ∧ w.frozen? ⟨g, 3, none⟩ = false := Rdr.cells h
theorem meas_q {w w' : World} {g a a' : Nat} {s : ByteArray} (h : atIn w g = a) (h' : RdA w' g s a') (h1 : a < a') (h2 : a' ≤ s.size) : s.size - atIn w' g < s.size - atIn w g := meas_lt h h' h1 h2
set_option maxHeartbeats 1000000 in
set_option maxRecDepth 100000 in
theorem quoted_any (g : Nat) (s : ByteArray) (p : Nat) (w : World) (h : RdA w g s p) (hL : LexW w) (hs : s.size ≤ 1048576) (hp : p < s.size) (h1 : cb s p = 34) :
    Calls Tryd.prog 39 #[.pointer (some ⟨g, 0, none⟩)] w fun e w' => TokO w w' g s p e := by
  have HR := Lib.hid h
  have hg := h.lt
  have HB : Hid (Blk (w.alloc (Obj.cells #[.int .i64 0, .string ⟨#[]⟩, .bool false, .int .i64 0, .int .i64 0] 33)) w.heap.size) := Lib.hid (heap_alloc_new w (Obj.cells #[.int .i64 0, .string ⟨#[]⟩, .bool false, .int .i64 0, .int .i64 0] 33))
  have HL := Lib.hid (hL.below ((Below.refl _ _).alloc (Nat.le_refl _) (Obj.cells #[.int .i64 0, .string ⟨#[]⟩, .bool false, .int .i64 0, .int .i64 0] 33)))
  have HR1 := Lib.hid (h.alloc (Obj.cells #[.int .i64 0, .string ⟨#[]⟩, .bool false, .int .i64 0, .int .i64 0] 33))
  obtain ⟨c0, c1, c2, c3, f0, f1, f2, f3⟩ := h.cells
  obtain ⟨⟨b0, b1, b2, b3, b4⟩, b5, b6, b7, b8, b9⟩ := Blk.all HB.out
  have HL0 := Lib.hid hL
  have H1 := Lib.hid h1
  clear h hL h1
  go_enter Tryd.func39, Tryd.ntmps39
  have ea : ((p + 1 : Nat) : Int) = (p : Int) + 1 := by omega
  have HRa : Hid (Rdr ((w.setCell ⟨g, 1, none⟩ (.int .i64 ((p : Int) + 1))).alloc (Obj.cells #[.int .i64 0, .string ⟨#[]⟩, .bool false, .int .i64 0, .int .i64 0] 33)) g s (p + 1) (lnAt s p) (fsAt s p)) := Lib.hid (by have h := (HR.out.setAt (a' := p + 1)).alloc (Obj.cells #[.int .i64 0, .string ⟨#[]⟩, .bool false, .int .i64 0, .int .i64 0] 33); rwa [ea] at h)
  have HLa : Hid (LexW ((w.setCell ⟨g, 1, none⟩ (.int .i64 ((p : Int) + 1))).alloc (Obj.cells #[.int .i64 0, .string ⟨#[]⟩, .bool false, .int .i64 0, .int .i64 0] 33))) := Lib.hid ((HL0.out.grown HR.out (grown_set (grown_refl _ _) _)).below ((Below.refl _ _).alloc (Nat.le_refl _) _))
  have HBa : Hid (Blk ((w.setCell ⟨g, 1, none⟩ (.int .i64 ((p : Int) + 1))).alloc (Obj.cells #[.int .i64 0, .string ⟨#[]⟩, .bool false, .int .i64 0, .int .i64 0] 33)) w.heap.size) := Lib.hid (blk_new1 w g _)
  have HGa : Hid (w.grownBy ((w.setCell ⟨g, 1, none⟩ (.int .i64 ((p : Int) + 1))).alloc (Obj.cells #[.int .i64 0, .string ⟨#[]⟩, .bool false, .int .i64 0, .int .i64 0] 33)) (some g)) := Lib.hid (grown_alloc (grown_set (grown_refl _ _) _) _)
  clear ea
  have HNX := Lib.hid (nl_next (s := s) (p := p) (by rw [H1.out]; decide))
  have HRs : Hid (RdA ((w.setCell ⟨g, 1, none⟩ (.int .i64 ((p : Int) + 1))).alloc (Obj.cells #[.int .i64 0, .string ⟨#[]⟩, .bool false, .int .i64 0, .int .i64 0] 33)) g s (p + 1)) := Lib.hid (RdA.here HNX.out.1 HNX.out.2 HRa.out)
  go_wp2
  go_loopw [5] (fun m wr => QtR w wr g w.heap.size s p m) (fun _ wr => s.size - atIn wr g)
  case atStart => exact ⟨p + 1, by omega, by omega, HGa.out, HRs.out, HBa.out, .inl ⟨rfl, _, rfl⟩⟩
  case round =>
    obtain ⟨a, hpa, has, hgr, hrd, hbk, hm⟩ := hrel
    have HGR := Lib.hid hgr
    have HRD := Lib.hid hrd
    have HBK := Lib.hid hbk
    have HM : Hid (atIn wr g = a) := Lib.hid (atIn_of hrd)
    obtain ⟨d0, d1, d2, d3, g0, g1, g2, g3⟩ := rda_cells hrd
    obtain ⟨⟨m0, m1, m2, m3, m4⟩, n0, n1, n2, n3, n4⟩ := Blk.all hbk
    clear hgr hrd hbk c0 c1 c2 c3 f0 f1 f2 f3 b0 b1 b2 b3 b4 b5 b6 b7 b8 b9
    rcases hm with ⟨rfl, t0, hq⟩ | ⟨rfl, t, hq⟩
    · have HQ := Lib.hid hq
      have TH := Lib.hid (through_any g s a 34 wr HRD.out hs has (.inl rfl))
      clear hq
      go_wp2_with fail
      refine TH.out.mono ?_
      rintro e w1 (⟨q, rfl, htx, hqs, hm34, hadv⟩ | ⟨q, rfl, htx, hqs, hgr, a9, l9, f9, hr9⟩)
      · have HTX : Hid (TxtM s 34 a q) := Lib.hid htx
        have HM34 := Lib.hid hm34
        have haq := htx.1
        have HG1 : Hid (w.grownBy w1 (some g)) := Lib.hid (grown_tr HGR.out hadv.1)
        have HB1 : Hid (Blk w1 w.heap.size) := Lib.hid (Blk.grown HBK.out hadv.1 (by omega))
        have HR1 := Lib.hid hadv.2
        obtain ⟨p0, p1, p2, p3, q0, q1, q2, q3⟩ := rda_cells hadv.2
        have HQ1 := Lib.hid (HQ.out.trans (qu_txt (q - a) (Nat.le_refl _) HTX.out))
        clear htx hm34 hadv d0 d1 d2 d3 g0 g1 g2 g3 m0 m1 m2 m3 m4 n0 n1 n2 n3 n4
        by_cases h2 : q + 1 < s.size ∧ cb s (q + 1) = 34
        · have HQ2 := Lib.hid (HQ1.out.trans (qu_two HM34.out h2.1 h2.2))
          have PY := Lib.hid (past_yes g s (q + 1) _ _ 34 w1 HR1.out hs h2.1 h2.2)
          have HNL := Lib.hid (nl_next (s := s) (p := q + 1) (by rw [h2.2]; decide))
          have h21 := h2.1
          clear h2
          go_wp2_with fail
          refine PY.out.mono ?_
          rintro e w2 ⟨rfl, hadv2⟩
          have HA2 := Lib.hid hadv2
          clear hadv2
          go_wp2
          go_roundw
          case rel => exact ⟨q + 2, by omega, by omega, grown_tr HG1.out HA2.out.1, RdA.here HNL.out.1 HNL.out.2 HA2.out.2, Blk.grown HB1.out HA2.out.1 (by omega), .inl ⟨rfl, _, HQ2.out⟩⟩
          case measure => exact meas_q HM.out (RdA.here HNL.out.1 HNL.out.2 HA2.out.2) (by omega) (by omega)
        · have HQ2 := Lib.hid (HQ1.out.trans (qu_one HM34.out hqs h2))
          have PN : Hid (Calls Tryd.prog 55 #[.pointer (some ⟨g, 0, none⟩), .int .u8 (34 : Int)] w1 fun e w' => e = .returned (.bool false) ∧ AdA w1 w' g s (q + 1)) := Lib.hid (by
            by_cases h3 : q + 1 < s.size
            · exact past_not g s (q + 1) _ _ 34 w1 HR1.out hs h3 (fun e => h2 ⟨h3, e⟩)
            · have hr := HR1.out
              have e : q + 1 = s.size := by omega
              rw [e] at hr ⊢
              exact past_end g s _ _ 34 w1 hr hs)
          clear h2
          go_wp2_with fail
          refine PN.out.mono ?_
          rintro e w2 ⟨rfl, hadv2⟩
          have HA2 := Lib.hid hadv2
          clear hadv2
          go_wp2
          go_roundw
          case rel => exact ⟨q + 1, by omega, by omega, grown_tr HG1.out HA2.out.1, HA2.out.2, Blk.grown HB1.out HA2.out.1 (by omega), .inr ⟨rfl, _, HQ2.out⟩⟩
          case measure => exact meas_q HM.out HA2.out.2 (by omega) (by omega)
      · have HX := Lib.hid ((one_qu H1.out).trans (HQ.out.trans (qu_open htx hqs)))
        have HG1 : Hid (w.grownBy w1 (some g)) := Lib.hid (grown_tr HGR.out hgr)
        have HB1 : Hid (Blk w1 w.heap.size) := Lib.hid (Blk.grown HBK.out hgr (by omega))
        have HR9 := Lib.hid hr9
        clear htx hqs hgr hr9 d0 d1 d2 d3 g0 g1 g2 g3 m0 m1 m2 m3 m4 n0 n1 n2 n3 n4
        obtain ⟨⟨m0, m1, m2, m3, m4⟩, n0, n1, n2, n3, n4⟩ := Blk.all HB1.out
        go_wp2
        refine bodyPost_ret (results_tok rfl rfl rfl (heap_set5 HB1.out)) rfl ?_
        exact tokO_no (E := 61) hg HG1.out HR9.out HX.out (by omega)
    · have HX := Lib.hid ((one_qu H1.out).trans hq)
      have HT := Lib.hid (qu_text hq)
      obtain ⟨a0, ha0⟩ : ∃ a0, a - 1 = a0 := ⟨_, rfl⟩
      have h1a : a = a0 + 1 := by have := HT.out.1; omega
      rw [ha0] at HT
      have h2a : p + 1 ≤ a0 := by have := HT.out.1; omega
      have h3a : a0 ≤ s.size := by omega
      have e1 : (a : Int) - 1 = (a0 : Int) := by omega
      have hw1 : IntKind.i64.wrap (a0 : Int) = (a0 : Int) := by rw [IntKind.wrap_i64]; omega
      have hml : ∃ m, w.cell? ⟨2, 0, none⟩ = some (.int .i64 m) := HL0.out.max
      obtain ⟨mm, hmm⟩ := hml
      have RP : Hid (∀ W, wr.grownBy W (some g) → Calls Tryd.prog 51 #[.string (s.extract (p + 1) a0), .string ⟨#[34, 34]⟩, .string ⟨#[34]⟩] W fun e w' => e = .returned (.string t) ∧ Below W.heap.size W w') := Lib.hid (fun W hW => by
        have hL2 := (HL0.out.grown HR.out (grown_tr HGR.out hW)).max
        obtain ⟨m2, hm2⟩ := hL2
        have hz : (s.extract (p + 1) a0).size ≤ 1048576 := by rw [ByteArray.size_extract]; omega
        have hc := Lib.countB_mul_le (⟨#[34, 34]⟩ : ByteArray) (by decide) _ (s.extract (p + 1) a0) (Nat.le_refl _)
        have h := Tryd.strings_ReplaceAll (s.extract (p + 1) a0) ⟨#[34, 34]⟩ ⟨#[34]⟩ m2 W (by omega) hm2 (by decide) (by
          have e2 : (⟨#[34, 34]⟩ : ByteArray).size = 2 := rfl
          have e3 : (⟨#[34]⟩ : ByteArray).size = 1 := rfl
          rw [e2] at hc; rw [e3]; omega)
        refine h.mono fun e w' ⟨h1, h2⟩ => ⟨?_, h2⟩
        rw [h1]; exact ret_s HT.out.2.2)
      have BW : Hid (∀ w2, Below wr.heap.size wr w2 → Blk w2 w.heap.size) := Lib.hid (fun w2 h => (h.block _ (Array.getElem?_eq_some_iff.1 HBK.out).1).trans HBK.out)
      have RW : Hid (∀ w2, Below wr.heap.size wr w2 → RdA w2 g s a ∧ w.grownBy w2 (some g)) := Lib.hid (fun w2 h => ⟨(h.block _ (Rdr.lt HRD.out)).trans HRD.out, grown_tr HGR.out ⟨h.os, h.tape, h.output, h.size, fun k hk _ => h.block k hk⟩⟩)
      have H3A := Lib.hid has
      clear hq hmm h1a ha0
      go_wp2
      go_region_with (go_at_call 51; refine Calls.mono (RP.out _ ?_) ?_; (exact grown_drewN (grown_refl _ _) _); rintro e w2 ⟨rfl, hbl⟩; have HBL : Hid (Below wr.heap.size wr w2) := Lib.hid ⟨hbl.os, hbl.tape, hbl.output, hbl.size, hbl.block⟩; clear hbl; obtain ⟨⟨k0, k1, k2, k3, k4⟩, j0, j1, j2, j3, j4⟩ := Blk.all (BW.out _ HBL.out))
      all_goals (
        go_wp2
        refine bodyPost_ret (results_tok rfl rfl rfl (heap_set5 (BW.out _ HBL.out))) rfl ?_
        exact tokO_yes (k := 7) hg (RW.out _ HBL.out).2 (RW.out _ HBL.out).1 HX.out (by have := HT.out.1; omega) HT.out.2.1)
end Go.Proofs.YtlgcmpiobglbbaaDoor
