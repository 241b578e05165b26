/- lexis: prefixed (written by genlw.py). -/
import Derived.Test.YtlgcmpiobglbbaaDoorLV
set_option linter.unusedVariables false
set_option linter.unusedSimpArgs false
namespace Go.Proofs.YtlgcmpiobglbbaaDoor
open Go.RowKit Mth

theorem hex_nl {c : Nat} (h : bHex c = true) : c ≠ 10 := by rw [bHex_iff] at h; omega
theorem bin_hex {c : Nat} (h : bBin c = true) : bHex c = true := by rw [bHex_iff]; rw [bBin_iff] at h; omega
theorem ascii_of {s : ByteArray} {a q : Nat} (h : allP s bHex a q) (haq : a ≤ q) (hq : q ≤ s.size) : ∀ (j : Nat) (b : UInt8), (s.extract a q).data.toList[j]? = some b → b.toNat < 128 := fun j b hb => by
  obtain ⟨h1, h2⟩ := byt_of_ext (s := s) (a := a) (b := q) rfl haq hq
  obtain ⟨hj, e⟩ := List.getElem?_eq_some_iff.1 hb
  have h3 := byt_at h1 hj
  rw [List.getD_eq_getElem?_getD, List.getElem?_eq_getElem hj, Option.getD_some, e] at h3
  have h4 := h (a + j) (by omega) (by omega)
  rw [h3, bHex_iff] at h4; omega
theorem low_bin {s : ByteArray} {a q : Nat} (h : allP s bBin a q) (haq : a ≤ q) (hq : q ≤ s.size) : (⟨(Lib.toLowerA (s.extract a q).data.toList).toArray⟩ : ByteArray) = s.extract a q := by
  obtain ⟨h1, h2⟩ := byt_of_ext (s := s) (a := a) (b := q) rfl haq hq
  have e : Lib.toLowerA (s.extract a q).data.toList = (s.extract a q).data.toList := low_id (fun c hc => by
    obtain ⟨j, hj, e⟩ := List.mem_iff_getElem.1 hc
    have h3 := byt_at h1 hj
    rw [List.getD_eq_getElem?_getD, List.getElem?_eq_getElem hj, Option.getD_some, e] at h3
    have h4 := h (a + j) (by omega) (by omega)
    rw [h3, bBin_iff] at h4
    rw [Lib.isUpperB, Bool.and_eq_false_iff]
    left
    simp only [decide_eq_false_iff_not]
    intro h9; have := UInt8.le_iff_toNat_le.1 h9
    have e65 : (65 : UInt8).toNat = 65 := rfl
    omega)
  rw [e]
set_option maxHeartbeats 4000000 in
set_option maxRecDepth 100000 in
theorem prefixed_any (g : Nat) (s : ByteArray) (p : Nat) (w : World) (h : RdA w g s p) (hL : LexW w) (hs : s.size ≤ 1048576) (hp : p < s.size) (h1 : cb s p = 35) :
    Calls Tryd.prog 38 #[.pointer (some ⟨g, 0, none⟩)] w fun e w' => TokO w w' g s p e := by
  have HR := Lib.hid h
  have hg := h.lt
  have HB : Hid (Blk (w.alloc (Obj.cells #[.int .i64 0, .string ⟨#[]⟩, .bool false, .int .i64 0, .int .i64 0] 33)) w.heap.size) := Lib.hid (heap_alloc_new w (Obj.cells #[.int .i64 0, .string ⟨#[]⟩, .bool false, .int .i64 0, .int .i64 0] 33))
  have HL := Lib.hid (hL.below ((Below.refl _ _).alloc (Nat.le_refl _) (Obj.cells #[.int .i64 0, .string ⟨#[]⟩, .bool false, .int .i64 0, .int .i64 0] 33)))
  have HR1 := Lib.hid (h.alloc (Obj.cells #[.int .i64 0, .string ⟨#[]⟩, .bool false, .int .i64 0, .int .i64 0] 33))
  obtain ⟨c0, c1, c2, c3, f0, f1, f2, f3⟩ := h.cells
  obtain ⟨⟨b0, b1, b2, b3, b4⟩, b5, b6, b7, b8, b9⟩ := Blk.all HB.out
  have HL0 := Lib.hid hL
  have H1 := Lib.hid h1
  clear h hL h1
  go_enter Tryd.func38, Tryd.ntmps38
  have ea : ((p + 1 : Nat) : Int) = (p : Int) + 1 := by omega
  have HRa : Hid (Rdr ((w.setCell ⟨g, 1, none⟩ (.int .i64 ((p : Int) + 1))).alloc (Obj.cells #[.int .i64 0, .string ⟨#[]⟩, .bool false, .int .i64 0, .int .i64 0] 33)) g s (p + 1) (lnAt s p) (fsAt s p)) := Lib.hid (by have h := (HR.out.setAt (a' := p + 1)).alloc (Obj.cells #[.int .i64 0, .string ⟨#[]⟩, .bool false, .int .i64 0, .int .i64 0] 33); rwa [ea] at h)
  have HLa : Hid (LexW ((w.setCell ⟨g, 1, none⟩ (.int .i64 ((p : Int) + 1))).alloc (Obj.cells #[.int .i64 0, .string ⟨#[]⟩, .bool false, .int .i64 0, .int .i64 0] 33))) := Lib.hid ((HL0.out.grown HR.out (grown_set (grown_refl _ _) _)).below ((Below.refl _ _).alloc (Nat.le_refl _) _))
  have HBa : Hid (Blk ((w.setCell ⟨g, 1, none⟩ (.int .i64 ((p : Int) + 1))).alloc (Obj.cells #[.int .i64 0, .string ⟨#[]⟩, .bool false, .int .i64 0, .int .i64 0] 33)) w.heap.size) := Lib.hid (blk_new1 w g _)
  have HGa : Hid (w.grownBy ((w.setCell ⟨g, 1, none⟩ (.int .i64 ((p : Int) + 1))).alloc (Obj.cells #[.int .i64 0, .string ⟨#[]⟩, .bool false, .int .i64 0, .int .i64 0] 33)) (some g)) := Lib.hid (grown_alloc (grown_set (grown_refl _ _) _) _)
  clear ea
  obtain ⟨a2, ha2⟩ : ∃ a, a = p + 2 := ⟨_, rfl⟩
  by_cases hx1 : p + 1 < s.size ∧ cb s (p + 1) = 120
  · have HD := Lib.hid hx1.2
    have hp1 := hx1.1
    have PY : Hid (Calls Tryd.prog 55 #[.pointer (some ⟨g, 0, none⟩), .int .u8 (120 : Int)] ((w.setCell ⟨g, 1, none⟩ (.int .i64 ((p : Int) + 1))).alloc (Obj.cells #[.int .i64 0, .string ⟨#[]⟩, .bool false, .int .i64 0, .int .i64 0] 33)) fun e w' => e = .returned (.bool true) ∧ Adv ((w.setCell ⟨g, 1, none⟩ (.int .i64 ((p : Int) + 1))).alloc (Obj.cells #[.int .i64 0, .string ⟨#[]⟩, .bool false, .int .i64 0, .int .i64 0] 33)) w' g s a2 (lnAt s p) (fsAt s p)) := Lib.hid (by rw [ha2]; exact past_yes g s (p + 1) _ _ 120 _ HRa.out hs hx1.1 hx1.2)
    clear hx1
    go_wp2_with fail
    refine PY.out.mono ?_
    rintro e u1 ⟨rfl, hadv⟩
    have HRdu1 := Lib.hid hadv.2
    have HGu1 : Hid (w.grownBy u1 (some g)) := Lib.hid (grown_tr HGa.out hadv.1)
    have HBu1 : Hid (Blk u1 w.heap.size) := Lib.hid (Blk.grown HBa.out hadv.1 (by omega))
    obtain ⟨⟨m0u1, m1u1, m2u1, m3u1, m4u1⟩, n0u1, n1u1, n2u1, n3u1, n4u1⟩ := Blk.all HBu1.out
    obtain ⟨d0u1, d1u1, d2u1, d3u1, g0u1, g1u1, g2u1, g3u1⟩ := hadv.2.cells
    have HLu1 := Lib.hid (HLa.out.grown HRa.out hadv.1)
    clear hadv c0 c1 c2 c3 f0 f1 f2 f3 b0 b1 b2 b3 b4 b5 b6 b7 b8 b9
    have OV := Lib.hid (over_any g s a2 _ _ 4 _ HRdu1.out HLu1.out hs (by omega))
    go_wp2_with fail
    refine OV.out.mono ?_
    rintro e w1 ⟨q, rfl, hrun, hadv3⟩
    have HRdw1 := Lib.hid hadv3.2
    have HGw1 : Hid (w.grownBy w1 (some g)) := Lib.hid (grown_tr HGu1.out hadv3.1)
    have HBw1 : Hid (Blk w1 w.heap.size) := Lib.hid (Blk.grown HBu1.out hadv3.1 (by omega))
    obtain ⟨⟨m0w1, m1w1, m2w1, m3w1, m4w1⟩, n0w1, n1w1, n2w1, n3w1, n4w1⟩ := Blk.all HBw1.out
    obtain ⟨d0w1, d1w1, d2w1, d3w1, g0w1, g1w1, g2w1, g3w1⟩ := hadv3.2.cells
    clear hadv3
    clear m0u1 m1u1 m2u1 m3u1 m4u1 n0u1 n1u1 n2u1 n3u1 n4u1 d0u1 d1u1 d2u1 d3u1 g0u1 g1u1 g2u1 g3u1
    have hpq := hrun.1
    have hqs := hrun.2.1
    have hpq2 : p + 2 ≤ q := by omega
    have HN2 : Hid (allP s bHex (p + 2) q) := Lib.hid (fun i i1 i2 => by rw [← kin_hex]; exact hrun.2.2.1 i (by omega) i2)
    have HE : Hid (q = s.size ∨ bHex (cb s q) = false) := Lib.hid (by rw [← kin_hex]; exact hrun.2.2.2)
    have HNA : Hid (allP s bHex (p + 2) q) := Lib.hid (fun i i1 i2 => HN2.out i (by omega) i2)

    have HLT : Hid (p < q) := Lib.hid (by omega)
    have HNL : Hid (∀ i, p ≤ i → i < q → cb s i ≠ 10) := Lib.hid (fun i i1 i2 => by
      rcases (show i = p ∨ i = p + 1 ∨ p + 2 ≤ i by omega) with h9 | h9 | h9
      · rw [h9, H1.out]; decide
      · rw [h9, HD.out]; decide
      · exact hex_nl (HNA.out i (by omega) i2))
    clear hrun
    by_cases hq0 : q = a2
    · have HX := Lib.hid (hex_err H1.out HD.out (by omega) HN2.out (by omega) (.inl ⟨by omega, HE.out⟩))
      have ez : (((q - a2 : Nat) : Int) == 0) = true := by rw [beq_iff_eq]; omega
      clear hq0
      go_wp2
      refine bodyPost_ret (results_tok rfl rfl rfl (heap_set5 HBw1.out)) rfl ?_
      exact tokO_no (E := 62) hg HGw1.out HRdw1.out HX.out (by omega)
    · have ez : (((q - a2 : Nat) : Int) == 0) = false := ne_i (k := 0) (by omega)
      have EY : Hid (q = s.size ∨ bEnd (cb s q) = true → oneF s p = .tok 5 (lowB (s.extract (p + 2) q)) false q) := Lib.hid (fun he => hex_tok H1.out HD.out HN2.out (by omega) hqs he)
      have EX : Hid (q < s.size → bEnd (cb s q) = false → oneF s p = .err 62) := Lib.hid (fun h3 h4 => hex_err H1.out HD.out (by omega) HN2.out (by omega) (.inr ⟨h3, HE.out.resolve_left (by omega), h4⟩))
      clear hq0
      have BW : Hid (∀ w9 w2, Below w1.heap.size w1 w9 → w9.grownBy w2 (some g) → Blk w2 w.heap.size) := Lib.hid (fun w9 w2 h k => Blk.grown (w := w9) ((h.block _ (Array.getElem?_eq_some_iff.1 HBw1.out).1).trans HBw1.out) k (by omega))
      have RW : Hid (∀ w9, Below w1.heap.size w1 w9 → Rdr w9 g s q (lnAt s p) (fsAt s p) ∧ w.grownBy w9 (some g)) := Lib.hid (fun w2 h => ⟨(h.block _ (Rdr.lt HRdw1.out)).trans HRdw1.out, grown_tr HGw1.out ⟨h.os, h.tape, h.output, h.size, fun k hk _ => h.block k hk⟩⟩)
      have LO : Hid (∀ W, Calls Tryd.prog 58 #[.string (s.extract (p + 2) q)] W fun e w' => e = .returned (.string (lowB (s.extract (p + 2) q))) ∧ Below W.heap.size W w') := Lib.hid (fun W => by
        have h := Tryd.strings_ToLower_ascii (s.extract (p + 2) q) W (by rw [ByteArray.size_extract]; omega) (ascii_of HNA.out hpq2 hqs)
        refine h.mono fun e w' ⟨h1, h2⟩ => ⟨?_, h2⟩
        rw [h1]; exact ret_s rfl)
      by_cases hend : q = s.size ∨ bEnd (cb s q) = true
      · have EN : Hid (∀ W, Rdr W g s q (lnAt s p) (fsAt s p) → Calls Tryd.prog 57 #[.pointer (some ⟨g, 0, none⟩), .int .i64 5, .string (lowB (s.extract (p + 2) q))] W fun e w' => e = .returned (.tuple #[.agg #[.int .i64 5, .string (lowB (s.extract (p + 2) q)), .bool false, .int .i64 0, .int .i64 0], .int .i64 0]) ∧ Adv W w' g s q (lnAt s p) (fsAt s p)) :=
          Lib.hid (fun W hW => ended_yes hW hs hqs hend)
        have HO := Lib.hid (EY.out hend)
        clear hend
        go_wp2
        go_region_with (first | (go_at_call 58; refine (LO.out _).mono ?_; rintro e w9 ⟨rfl, hbl⟩; have HBL : Hid (Below w1.heap.size w1 w9) := Lib.hid ⟨hbl.os, hbl.tape, hbl.output, hbl.size, hbl.block⟩; clear hbl) | (go_at_call 57; refine Calls.mono (EN.out _ ?_) ?_; (exact (RW.out _ HBL.out).1); rintro e w2 ⟨rfl, hadv2⟩; have HA2 := Lib.hid hadv2; clear hadv2; obtain ⟨⟨k0, k1, k2, k3, k4⟩, j0, j1, j2, j3, j4⟩ := Blk.all (BW.out _ _ HBL.out HA2.out.1)))
        all_goals (
          go_wp2
          refine bodyPost_ret (results_tok rfl rfl rfl (heap_set5 (BW.out _ _ HBL.out HA2.out.1))) rfl ?_
          exact tokO_yes (k := 5) hg (grown_tr (RW.out _ HBL.out).2 HA2.out.1) (RdA.nl (Nat.le_of_lt HLT.out) HNL.out HA2.out.2) HO.out HLT.out hqs)
      · have hlt2 : q < s.size := by omega
        have hb2 : bEnd (cb s q) = false := by rw [← Bool.not_eq_true]; exact fun h => hend (.inr h)
        have EN : Hid (∀ W, Rdr W g s q (lnAt s p) (fsAt s p) → Calls Tryd.prog 57 #[.pointer (some ⟨g, 0, none⟩), .int .i64 5, .string (lowB (s.extract (p + 2) q))] W fun e w' => e = .returned (.tuple #[.agg #[.int .i64 0, .string ⟨#[]⟩, .bool false, .int .i64 0, .int .i64 0], .int .i64 62]) ∧ Adv W w' g s q (lnAt s p) (fsAt s p)) :=
          Lib.hid (fun W hW => ended_no hW hs hlt2 hb2)
        have HX := Lib.hid (EX.out hlt2 hb2)
        clear hend hb2
        go_wp2
        go_region_with (first | (go_at_call 58; refine (LO.out _).mono ?_; rintro e w9 ⟨rfl, hbl⟩; have HBL : Hid (Below w1.heap.size w1 w9) := Lib.hid ⟨hbl.os, hbl.tape, hbl.output, hbl.size, hbl.block⟩; clear hbl) | (go_at_call 57; refine Calls.mono (EN.out _ ?_) ?_; (exact (RW.out _ HBL.out).1); rintro e w2 ⟨rfl, hadv2⟩; have HA2 := Lib.hid hadv2; clear hadv2; obtain ⟨⟨k0, k1, k2, k3, k4⟩, j0, j1, j2, j3, j4⟩ := Blk.all (BW.out _ _ HBL.out HA2.out.1)))
        all_goals (
          go_wp2
          refine bodyPost_ret (results_tok rfl rfl rfl (heap_set5 (BW.out _ _ HBL.out HA2.out.1))) rfl ?_
          exact tokO_no (E := 62) hg (grown_tr (RW.out _ HBL.out).2 HA2.out.1) HA2.out.2 HX.out (by omega))
  by_cases hx2 : p + 1 < s.size ∧ cb s (p + 1) = 98
  · have HD := Lib.hid hx2.2
    have hp1 := hx2.1
    have hx : p + 1 < s.size → cb s (p + 1) ≠ 120 := fun h e => hx1 ⟨h, e⟩
    have P1 : Hid (Calls Tryd.prog 55 #[.pointer (some ⟨g, 0, none⟩), .int .u8 (120 : Int)] ((w.setCell ⟨g, 1, none⟩ (.int .i64 ((p : Int) + 1))).alloc (Obj.cells #[.int .i64 0, .string ⟨#[]⟩, .bool false, .int .i64 0, .int .i64 0] 33)) fun e w' => e = .returned (.bool false) ∧ Adv ((w.setCell ⟨g, 1, none⟩ (.int .i64 ((p : Int) + 1))).alloc (Obj.cells #[.int .i64 0, .string ⟨#[]⟩, .bool false, .int .i64 0, .int .i64 0] 33)) w' g s (p + 1) (lnAt s p) (fsAt s p)) := Lib.hid (by
      by_cases h3 : p + 1 < s.size
      · exact past_not g s (p + 1) _ _ 120 _ HRa.out hs h3 (fun e => by have := hx h3; omega)
      · have hr := HRa.out
        have e : p + 1 = s.size := by omega
        rw [e] at hr ⊢
        exact past_end g s _ _ 120 _ hr hs)
    go_wp2_with fail
    refine P1.out.mono ?_
    rintro e u0 ⟨rfl, hadv⟩
    have HRdu0 := Lib.hid hadv.2
    have HGu0 : Hid (w.grownBy u0 (some g)) := Lib.hid (grown_tr HGa.out hadv.1)
    have HBu0 : Hid (Blk u0 w.heap.size) := Lib.hid (Blk.grown HBa.out hadv.1 (by omega))
    obtain ⟨⟨m0u0, m1u0, m2u0, m3u0, m4u0⟩, n0u0, n1u0, n2u0, n3u0, n4u0⟩ := Blk.all HBu0.out
    obtain ⟨d0u0, d1u0, d2u0, d3u0, g0u0, g1u0, g2u0, g3u0⟩ := hadv.2.cells
    have HLu0 := Lib.hid (HLa.out.grown HRa.out hadv.1)
    clear hadv c0 c1 c2 c3 f0 f1 f2 f3 b0 b1 b2 b3 b4 b5 b6 b7 b8 b9
    have PY : Hid (Calls Tryd.prog 55 #[.pointer (some ⟨g, 0, none⟩), .int .u8 (98 : Int)] u0 fun e w' => e = .returned (.bool true) ∧ Adv u0 w' g s a2 (lnAt s p) (fsAt s p)) := Lib.hid (by rw [ha2]; exact past_yes g s (p + 1) _ _ 98 _ HRdu0.out hs hx2.1 hx2.2)
    clear hx2 hx hx1
    go_wp2_with fail
    refine PY.out.mono ?_
    rintro e u1 ⟨rfl, hadv⟩
    have HRdu1 := Lib.hid hadv.2
    have HGu1 : Hid (w.grownBy u1 (some g)) := Lib.hid (grown_tr HGu0.out hadv.1)
    have HBu1 : Hid (Blk u1 w.heap.size) := Lib.hid (Blk.grown HBu0.out hadv.1 (by omega))
    obtain ⟨⟨m0u1, m1u1, m2u1, m3u1, m4u1⟩, n0u1, n1u1, n2u1, n3u1, n4u1⟩ := Blk.all HBu1.out
    obtain ⟨d0u1, d1u1, d2u1, d3u1, g0u1, g1u1, g2u1, g3u1⟩ := hadv.2.cells
    have HLu1 := Lib.hid (HLu0.out.grown HRdu0.out hadv.1)
    clear hadv
    clear m0u0 m1u0 m2u0 m3u0 m4u0 n0u0 n1u0 n2u0 n3u0 n4u0 d0u0 d1u0 d2u0 d3u0 g0u0 g1u0 g2u0 g3u0
    have OV := Lib.hid (over_any g s a2 _ _ 1 _ HRdu1.out HLu1.out hs (by omega))
    go_wp2_with fail
    refine OV.out.mono ?_
    rintro e w1 ⟨q, rfl, hrun, hadv3⟩
    have HRdw1 := Lib.hid hadv3.2
    have HGw1 : Hid (w.grownBy w1 (some g)) := Lib.hid (grown_tr HGu1.out hadv3.1)
    have HBw1 : Hid (Blk w1 w.heap.size) := Lib.hid (Blk.grown HBu1.out hadv3.1 (by omega))
    obtain ⟨⟨m0w1, m1w1, m2w1, m3w1, m4w1⟩, n0w1, n1w1, n2w1, n3w1, n4w1⟩ := Blk.all HBw1.out
    obtain ⟨d0w1, d1w1, d2w1, d3w1, g0w1, g1w1, g2w1, g3w1⟩ := hadv3.2.cells
    clear hadv3
    clear m0u1 m1u1 m2u1 m3u1 m4u1 n0u1 n1u1 n2u1 n3u1 n4u1 d0u1 d1u1 d2u1 d3u1 g0u1 g1u1 g2u1 g3u1
    have hpq := hrun.1
    have hqs := hrun.2.1
    have hpq2 : p + 2 ≤ q := by omega
    have HN2 : Hid (allP s bBin (p + 2) q) := Lib.hid (fun i i1 i2 => by rw [← kin_bin]; exact hrun.2.2.1 i (by omega) i2)
    have HE : Hid (q = s.size ∨ bBin (cb s q) = false) := Lib.hid (by rw [← kin_bin]; exact hrun.2.2.2)
    have HNA : Hid (allP s bHex (p + 2) q) := Lib.hid (fun i i1 i2 => bin_hex (HN2.out i (by omega) i2))
    have HNA2 : Hid (allP s bBin (p + 2) q) := Lib.hid (fun i i1 i2 => HN2.out i (by omega) i2)
    have HLT : Hid (p < q) := Lib.hid (by omega)
    have HNL : Hid (∀ i, p ≤ i → i < q → cb s i ≠ 10) := Lib.hid (fun i i1 i2 => by
      rcases (show i = p ∨ i = p + 1 ∨ p + 2 ≤ i by omega) with h9 | h9 | h9
      · rw [h9, H1.out]; decide
      · rw [h9, HD.out]; decide
      · exact hex_nl (HNA.out i (by omega) i2))
    clear hrun
    by_cases hq0 : q = a2
    · have HX := Lib.hid (bin_err H1.out HD.out (by omega) HN2.out (by omega) (.inl ⟨by omega, HE.out⟩))
      have ez : (((q - a2 : Nat) : Int) == 0) = true := by rw [beq_iff_eq]; omega
      clear hq0
      go_wp2
      refine bodyPost_ret (results_tok rfl rfl rfl (heap_set5 HBw1.out)) rfl ?_
      exact tokO_no (E := 62) hg HGw1.out HRdw1.out HX.out (by omega)
    · have ez : (((q - a2 : Nat) : Int) == 0) = false := ne_i (k := 0) (by omega)
      have EY : Hid (q = s.size ∨ bEnd (cb s q) = true → oneF s p = .tok 6 (s.extract (p + 2) q) false q) := Lib.hid (fun he => bin_tok H1.out HD.out HN2.out (by omega) hqs he)
      have EX : Hid (q < s.size → bEnd (cb s q) = false → oneF s p = .err 62) := Lib.hid (fun h3 h4 => bin_err H1.out HD.out (by omega) HN2.out (by omega) (.inr ⟨h3, HE.out.resolve_left (by omega), h4⟩))
      clear hq0
      have BW : Hid (∀ w9 w2, Below w1.heap.size w1 w9 → w9.grownBy w2 (some g) → Blk w2 w.heap.size) := Lib.hid (fun w9 w2 h k => Blk.grown (w := w9) ((h.block _ (Array.getElem?_eq_some_iff.1 HBw1.out).1).trans HBw1.out) k (by omega))
      have RW : Hid (∀ w9, Below w1.heap.size w1 w9 → Rdr w9 g s q (lnAt s p) (fsAt s p) ∧ w.grownBy w9 (some g)) := Lib.hid (fun w2 h => ⟨(h.block _ (Rdr.lt HRdw1.out)).trans HRdw1.out, grown_tr HGw1.out ⟨h.os, h.tape, h.output, h.size, fun k hk _ => h.block k hk⟩⟩)
      have LO : Hid (∀ W, Calls Tryd.prog 58 #[.string (s.extract (p + 2) q)] W fun e w' => e = .returned (.string (s.extract (p + 2) q)) ∧ Below W.heap.size W w') := Lib.hid (fun W => by
        have h := Tryd.strings_ToLower_ascii (s.extract (p + 2) q) W (by rw [ByteArray.size_extract]; omega) (ascii_of HNA.out hpq2 hqs)
        refine h.mono fun e w' ⟨h1, h2⟩ => ⟨?_, h2⟩
        rw [h1]; exact ret_s (low_bin HNA2.out hpq2 hqs))
      by_cases hend : q = s.size ∨ bEnd (cb s q) = true
      · have EN : Hid (∀ W, Rdr W g s q (lnAt s p) (fsAt s p) → Calls Tryd.prog 57 #[.pointer (some ⟨g, 0, none⟩), .int .i64 6, .string (s.extract (p + 2) q)] W fun e w' => e = .returned (.tuple #[.agg #[.int .i64 6, .string (s.extract (p + 2) q), .bool false, .int .i64 0, .int .i64 0], .int .i64 0]) ∧ Adv W w' g s q (lnAt s p) (fsAt s p)) :=
          Lib.hid (fun W hW => ended_yes hW hs hqs hend)
        have HO := Lib.hid (EY.out hend)
        clear hend
        go_wp2
        go_region_with (first | (go_at_call 58; refine (LO.out _).mono ?_; rintro e w9 ⟨rfl, hbl⟩; have HBL : Hid (Below w1.heap.size w1 w9) := Lib.hid ⟨hbl.os, hbl.tape, hbl.output, hbl.size, hbl.block⟩; clear hbl) | (go_at_call 57; refine Calls.mono (EN.out _ ?_) ?_; (exact (RW.out _ HBL.out).1); rintro e w2 ⟨rfl, hadv2⟩; have HA2 := Lib.hid hadv2; clear hadv2; obtain ⟨⟨k0, k1, k2, k3, k4⟩, j0, j1, j2, j3, j4⟩ := Blk.all (BW.out _ _ HBL.out HA2.out.1)))
        all_goals (
          go_wp2
          refine bodyPost_ret (results_tok rfl rfl rfl (heap_set5 (BW.out _ _ HBL.out HA2.out.1))) rfl ?_
          exact tokO_yes (k := 6) hg (grown_tr (RW.out _ HBL.out).2 HA2.out.1) (RdA.nl (Nat.le_of_lt HLT.out) HNL.out HA2.out.2) HO.out HLT.out hqs)
      · have hlt2 : q < s.size := by omega
        have hb2 : bEnd (cb s q) = false := by rw [← Bool.not_eq_true]; exact fun h => hend (.inr h)
        have EN : Hid (∀ W, Rdr W g s q (lnAt s p) (fsAt s p) → Calls Tryd.prog 57 #[.pointer (some ⟨g, 0, none⟩), .int .i64 6, .string (s.extract (p + 2) q)] W fun e w' => e = .returned (.tuple #[.agg #[.int .i64 0, .string ⟨#[]⟩, .bool false, .int .i64 0, .int .i64 0], .int .i64 62]) ∧ Adv W w' g s q (lnAt s p) (fsAt s p)) :=
          Lib.hid (fun W hW => ended_no hW hs hlt2 hb2)
        have HX := Lib.hid (EX.out hlt2 hb2)
        clear hend hb2
        go_wp2
        go_region_with (first | (go_at_call 58; refine (LO.out _).mono ?_; rintro e w9 ⟨rfl, hbl⟩; have HBL : Hid (Below w1.heap.size w1 w9) := Lib.hid ⟨hbl.os, hbl.tape, hbl.output, hbl.size, hbl.block⟩; clear hbl) | (go_at_call 57; refine Calls.mono (EN.out _ ?_) ?_; (exact (RW.out _ HBL.out).1); rintro e w2 ⟨rfl, hadv2⟩; have HA2 := Lib.hid hadv2; clear hadv2; obtain ⟨⟨k0, k1, k2, k3, k4⟩, j0, j1, j2, j3, j4⟩ := Blk.all (BW.out _ _ HBL.out HA2.out.1)))
        all_goals (
          go_wp2
          refine bodyPost_ret (results_tok rfl rfl rfl (heap_set5 (BW.out _ _ HBL.out HA2.out.1))) rfl ?_
          exact tokO_no (E := 62) hg (grown_tr (RW.out _ HBL.out).2 HA2.out.1) HA2.out.2 HX.out (by omega))
  · have HX := Lib.hid (hash_err H1.out (by
      by_cases h3 : p + 1 < s.size
      · exact .inr ⟨fun e => hx1 ⟨h3, e⟩, fun e => hx2 ⟨h3, e⟩⟩
      · exact .inl (by omega)) hp)
    have hx : p + 1 < s.size → cb s (p + 1) ≠ 120 ∧ cb s (p + 1) ≠ 98 := fun h => ⟨fun e => hx1 ⟨h, e⟩, fun e => hx2 ⟨h, e⟩⟩
    have P1 : Hid (Calls Tryd.prog 55 #[.pointer (some ⟨g, 0, none⟩), .int .u8 (120 : Int)] ((w.setCell ⟨g, 1, none⟩ (.int .i64 ((p : Int) + 1))).alloc (Obj.cells #[.int .i64 0, .string ⟨#[]⟩, .bool false, .int .i64 0, .int .i64 0] 33)) fun e w' => e = .returned (.bool false) ∧ Adv ((w.setCell ⟨g, 1, none⟩ (.int .i64 ((p : Int) + 1))).alloc (Obj.cells #[.int .i64 0, .string ⟨#[]⟩, .bool false, .int .i64 0, .int .i64 0] 33)) w' g s (p + 1) (lnAt s p) (fsAt s p)) := Lib.hid (by
      by_cases h3 : p + 1 < s.size
      · exact past_not g s (p + 1) _ _ 120 _ HRa.out hs h3 (fun e => by have := hx h3; omega)
      · have hr := HRa.out
        have e : p + 1 = s.size := by omega
        rw [e] at hr ⊢
        exact past_end g s _ _ 120 _ hr hs)
    go_wp2_with fail
    refine P1.out.mono ?_
    rintro e u0 ⟨rfl, hadv⟩
    have HRdu0 := Lib.hid hadv.2
    have HGu0 : Hid (w.grownBy u0 (some g)) := Lib.hid (grown_tr HGa.out hadv.1)
    have HBu0 : Hid (Blk u0 w.heap.size) := Lib.hid (Blk.grown HBa.out hadv.1 (by omega))
    obtain ⟨⟨m0u0, m1u0, m2u0, m3u0, m4u0⟩, n0u0, n1u0, n2u0, n3u0, n4u0⟩ := Blk.all HBu0.out
    obtain ⟨d0u0, d1u0, d2u0, d3u0, g0u0, g1u0, g2u0, g3u0⟩ := hadv.2.cells
    have HLu0 := Lib.hid (HLa.out.grown HRa.out hadv.1)
    clear hadv c0 c1 c2 c3 f0 f1 f2 f3 b0 b1 b2 b3 b4 b5 b6 b7 b8 b9
    have P2 : Hid (Calls Tryd.prog 55 #[.pointer (some ⟨g, 0, none⟩), .int .u8 (98 : Int)] u0 fun e w' => e = .returned (.bool false) ∧ Adv u0 w' g s (p + 1) (lnAt s p) (fsAt s p)) := Lib.hid (by
      by_cases h3 : p + 1 < s.size
      · exact past_not g s (p + 1) _ _ 98 _ HRdu0.out hs h3 (fun e => by have := hx h3; omega)
      · have hr := HRdu0.out
        have e : p + 1 = s.size := by omega
        rw [e] at hr ⊢
        exact past_end g s _ _ 98 _ hr hs)
    clear hx2 hx hx1
    go_wp2_with fail
    refine P2.out.mono ?_
    rintro e u1 ⟨rfl, hadv⟩
    have HRdu1 := Lib.hid hadv.2
    have HGu1 : Hid (w.grownBy u1 (some g)) := Lib.hid (grown_tr HGu0.out hadv.1)
    have HBu1 : Hid (Blk u1 w.heap.size) := Lib.hid (Blk.grown HBu0.out hadv.1 (by omega))
    obtain ⟨⟨m0u1, m1u1, m2u1, m3u1, m4u1⟩, n0u1, n1u1, n2u1, n3u1, n4u1⟩ := Blk.all HBu1.out
    obtain ⟨d0u1, d1u1, d2u1, d3u1, g0u1, g1u1, g2u1, g3u1⟩ := hadv.2.cells
    have HLu1 := Lib.hid (HLu0.out.grown HRdu0.out hadv.1)
    clear hadv
    clear m0u0 m1u0 m2u0 m3u0 m4u0 n0u0 n1u0 n2u0 n3u0 n4u0 d0u0 d1u0 d2u0 d3u0 g0u0 g1u0 g2u0 g3u0
    have OV := Lib.hid (over_any g s (p + 1) _ _ 0 _ HRdu1.out HLu1.out hs (by omega))
    go_wp2_with fail
    refine OV.out.mono ?_
    rintro e w1 ⟨q, rfl, hrun, hadv3⟩
    have HRdw1 := Lib.hid hadv3.2
    have HGw1 : Hid (w.grownBy w1 (some g)) := Lib.hid (grown_tr HGu1.out hadv3.1)
    have HBw1 : Hid (Blk w1 w.heap.size) := Lib.hid (Blk.grown HBu1.out hadv3.1 (by omega))
    obtain ⟨⟨m0w1, m1w1, m2w1, m3w1, m4w1⟩, n0w1, n1w1, n2w1, n3w1, n4w1⟩ := Blk.all HBw1.out
    obtain ⟨d0w1, d1w1, d2w1, d3w1, g0w1, g1w1, g2w1, g3w1⟩ := hadv3.2.cells
    clear hadv3
    clear m0u1 m1u1 m2u1 m3u1 m4u1 n0u1 n1u1 n2u1 n3u1 n4u1 d0u1 d1u1 d2u1 d3u1 g0u1 g1u1 g2u1 g3u1
    obtain rfl : q = p + 1 := by
      have h1 := hrun.1
      rcases Nat.lt_or_ge (p + 1) q with h9 | h9
      · have := hrun.2.2.1 (p + 1) (Nat.le_refl _) h9; rw [kin_none] at this; cases this
      · omega
    have ez : (((p + 1 - (p + 1) : Nat) : Int) == 0) = true := by rw [beq_iff_eq]; omega
    clear hrun
    go_wp2
    refine bodyPost_ret (results_tok rfl rfl rfl (heap_set5 HBw1.out)) rfl ?_
    exact tokO_no (E := 62) hg HGw1.out HRdw1.out HX.out (by omega)
end Go.Proofs.YtlgcmpiobglbbaaDoor
