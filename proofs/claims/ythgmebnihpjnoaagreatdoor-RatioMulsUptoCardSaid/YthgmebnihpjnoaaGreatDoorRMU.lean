/- tribunalref03: Mul. -/
import Derived.Test.YthgmebnihpjnoaaGreatDoorRMA
import Derived.Test.YthgmebnihpjnoaaGreatDoorQB3
import Derived.Test.YthgmebnihpjnoaaGreatDoorQB6
import Derived.Test.YthgmebnihpjnoaaGreatDoorYJ
import Derived.Test.YthgmebnihpjnoaaGreatDoorRPQ
set_option linter.unusedVariables false
set_option linter.unusedSimpArgs false
namespace Go.Proofs.YthgmebnihpjnoaaGreatDoor
open Go.RowKit Mth

/-- where Mul is -/
def MuR (w1 w3 wr : World) (L : List (Value × Int × Nat)) (i : Value) : Prop := ∃ (k : Nat) (x : Int) (d : Nat) (m : Bool) (a : Option Addr) (j c : Nat) (m' : Bool) (a' : Option Addr) (j' c' : Nat), k ≤ L.length ∧ i = .int .i64 (k : Int) ∧ wr.heap[w3.heap.size]? = some (.cells #[.bool m, .slice a j c, .bool m', .slice a' j' c'] 71 (0, 0)) ∧ QV wr (.agg #[.bool m, .slice a j c, .bool m', .slice a' j' c']) x d ∧ Below w1.heap.size w1 wr ∧
  foldQ true (1, 1) L = foldQ true (x, d) (L.drop k) ∧ ¬ longQ (x, d) ∧ 0 < d ∧ lowN x d = x ∧ lowD x d = d
theorem low_start : lowN 1 1 = 1 ∧ lowD 1 1 = 1 := low_one (Nat.gcd_one_right _)
set_option maxHeartbeats 8000000 in
set_option maxRecDepth 100000 in
theorem rmul3_any (L : List (Value × Int × Nat)) (v : Value) (w : World) (hv : RaL w v L) (hlen : L.length ≤ 1048576) :
    Calls Tryz.prog 27 #[v] w fun e w' => ∃ v' E, e = .returned (.tuple #[v', .int .i64 E]) ∧ GatO true (1, 1) L w' v' E ∧ Below w.heap.size w w' := by
  obtain ⟨W, eW, h1, bW, hzW⟩ := alloc1 w (Obj.cells #[.bool false, .slice none 0 0, .slice none 0 0] 27)
  have HR := Lib.hid h1; have BW := Lib.hid bW
  have CA := Lib.hid (rall_any L v W (hv.below bW) hlen)
  have HLEN := Lib.hid hlen
  obtain ⟨ao, cap, rfl, _⟩ := hv
  clear h1 bW
  go_enter Tryz.func27, Tryz.ntmps27
  go_wp2_with fail
  refine CA.out.mono ?_
  rintro e w1 ⟨v1, E, rfl, hE, ⟨qa, qk, qc, rfl⟩, b1⟩
  have R1 := Lib.hid (blk_below' b1 HR.out); have B1 := Lib.hid (below_of BW.out b1)
  have hsz1 : w.heap.size < w1.heap.size := by have := b1.size; omega
  clear b1 CA HR BW eW hzW
  obtain ⟨⟨r0, r1, r2⟩, ⟨f0, f1, f2⟩, _⟩ := blk3 R1.out
  have hle : w.heap.size ≤ w.heap.size := Nat.le_refl _
  rcases hE with ⟨hd, rfl⟩ | ⟨hd, hl, rfl⟩ | ⟨hd, hl, rfl, cs, hq, hcl, hqv⟩
  · have HD := Lib.hid hd
    clear hd
    go_wp2
    refine bodyPost_ret (v := .tuple #[.agg #[.bool false, .slice none 0 0, .slice none 0 0], .int .i64 11]) ?_ rfl ⟨_, _, rfl, .inl ⟨HD.out, rfl, rfl⟩, ((B1.out.setCell (p := ⟨w.heap.size, 0, none⟩) hle _).setCell (p := ⟨w.heap.size, 1, none⟩) hle _).setCell (p := ⟨w.heap.size, 2, none⟩) hle _⟩
    simp [results, Tryz.results27, go_sem, *]
  · have HD := Lib.hid hd; have HL := Lib.hid hl
    clear hd hl
    go_wp2
    refine bodyPost_ret (v := .tuple #[.agg #[.bool false, .slice none 0 0, .slice none 0 0], .int .i64 5]) ?_ rfl ⟨_, _, rfl, .inr (.inl ⟨HD.out, .inl HL.out, rfl, rfl⟩), ((B1.out.setCell (p := ⟨w.heap.size, 0, none⟩) hle _).setCell (p := ⟨w.heap.size, 1, none⟩) hle _).setCell (p := ⟨w.heap.size, 2, none⟩) hle _⟩
    simp [results, Tryz.results27, go_sem, *]
  · have HD := Lib.hid hd; have HL := Lib.hid hl; have HQ := Lib.hid hq; have HCL := Lib.hid hcl; have HQV := Lib.hid hqv
    have S1 := Lib.hid (small1_any 1 w1 (by decide) (by decide))
    obtain ⟨ao1, cap1, e1, _⟩ := hq
    simp only [Value.slice.injEq] at e1
    obtain ⟨rfl, rfl, rfl⟩ := e1
    clear hd hl hcl hqv r0 r1 r2 f0 f1 f2
    go_wp2_with fail
    refine S1.out.mono ?_
    rintro e w2 ⟨v2, rfl, z2, b2⟩
    obtain ⟨m2, a2, k2, c2, rfl⟩ := z2.shape
    have B2 := Lib.hid b2; have Z2 := Lib.hid z2
    have S2 := Lib.hid (small1_any 1 w2 (by decide) (by decide))
    clear S1 z2 b2
    go_wp2_with fail
    refine S2.out.mono ?_
    rintro e w3 ⟨v3, rfl, z3, b3⟩
    obtain ⟨m3, a3, k3, c3, rfl⟩ := z3.shape
    have B3 := Lib.hid (below_of B2.out b3); have Z3 := Lib.hid z3; have Z2' := Lib.hid (Z2.out.below b3)
    have hsz3 : w1.heap.size ≤ w3.heap.size := B3.out.size
    clear S2 z3 b3 Z2 B2
    go_wp2
    go_loopw [7] (fun i wr => MuR w1 w3 wr L i) (fun i _ => L.length - (intOf i).toNat)
    case atStart =>
      have hb := (Below.refl w3.heap.size w3).alloc (Nat.le_refl _) (Obj.cells #[.bool m2, .slice a2 k2 c2, .bool m3, .slice a3 k3 c3] 71)
      exact ⟨0, 1, 1, _, _, _, _, _, _, _, _, Nat.zero_le _, rfl, heap_alloc_new w3 _, ⟨_, _, _, _, _, _, _, _, rfl, Z2'.out.below hb, Z3.out.below hb⟩, B3.out.alloc B3.out.size _, rfl, small_long (by decide) (by decide), Nat.one_pos, low_start.1, low_start.2⟩
    case round =>
      obtain ⟨k, x, d, m, a, j, c, m', a', j', c', hk, rfl, h9, hf, hbel, hfo, hnl, hd0, hln, hld⟩ := hrel
      have H9 := Lib.hid h9; have HF := Lib.hid hf; have HB := Lib.hid hbel; have HFO := Lib.hid hfo; have HNL := Lib.hid hnl; have HD0 := Lib.hid hd0; have HLO : Hid (lowN x d = x ∧ lowD x d = d) := Lib.hid ⟨hln, hld⟩
      have hlt9 := (Array.getElem?_eq_some_iff.1 h9).1
      have RR := Lib.hid (blk_below' hbel R1.out)
      have BWR := Lib.hid (below_of B1.out hbel)
      clear h9 hf hbel hfo hnl hd0 hln hld
      by_cases hlt : k < L.length
      · have hx : L[k]? = some L[k] := List.getElem?_eq_getElem hlt
        have hklt : k < cs.length := by have := HCL.out; omega
        have hy : cs[k]? = some cs[k] := List.getElem?_eq_getElem hklt
        have hne : cs ≠ [] := fun e => by rw [e] at hklt; simp at hklt
        have HM : Hid (L[k] ∈ L) := Lib.hid (List.getElem_mem hlt)
        have HDR : Hid (L.drop k = L[k] :: L.drop (k + 1)) := Lib.hid (List.drop_eq_getElem_cons hlt)
        have QY := Lib.hid ((HQV.out k _ _ hy hx).below HB.out)
        obtain ⟨ao', cap', he, hc⟩ := HQ.out.below HB.out
        obtain ⟨b, off, hb, hblt, hcc⟩ := hc hne
        simp only [Value.slice.injEq] at he
        obtain ⟨he1, -, -⟩ := he
        rw [hb] at he1
        subst he1
        obtain ⟨y0, y1, y2, y3⟩ := QcL.at hcc hy
        generalize L[k] = yy at *
        obtain ⟨vy, x2, d2⟩ := yy
        generalize cs[k] = q at *
        obtain ⟨m4, a4, k4, c4, m5, a5, k5, c5⟩ := q
        have HYZ : Hid (0 < d2 ∧ x2.natAbs < BigR ∧ d2 < BigR) := Lib.hid (by
          refine ⟨Nat.pos_of_ne_zero (fun e => HD.out ⟨_, HM.out, e⟩), ?_⟩
          have : ¬ (BigR ≤ x2.natAbs ∨ BigR ≤ d2) := fun e => HL.out ⟨_, HM.out, e⟩
          omega)
        have HQS : Hid (stepQ true (x, d) (vy, x2, d2) = (lowN (x * x2) (d * d2), lowD (x * x2) (d * d2))) := Lib.hid rfl
        have HDP : Hid (0 < lowD (x * x2) (d * d2)) := Lib.hid (lowD_pos (Nat.mul_pos HD0.out HYZ.out.1))
        have HLA : Hid (lowN (lowN (x * x2) (d * d2)) (lowD (x * x2) (d * d2)) = lowN (x * x2) (d * d2) ∧ lowD (lowN (x * x2) (d * d2)) (lowD (x * x2) (d * d2)) = lowD (x * x2) (d * d2)) := Lib.hid (low_again (Nat.mul_pos HD0.out HYZ.out.1))
        have TM : Hid (∀ u, Below wr.heap.size wr u → Calls Tryz.prog 67 #[.agg #[.bool m, .slice a j c, .bool m', .slice a' j' c'], .agg #[.bool m4, .slice a4 k4 c4, .bool m5, .slice a5 k5 c5]] u fun e w' => ∃ v', e = .returned v' ∧ QV w' v' (lowN (x * x2) (d * d2)) (lowD (x * x2) (d * d2)) ∧ Below u.heap.size u w') := Lib.hid (fun u hu => by
          obtain ⟨g1, g2⟩ := not_longQ.1 HNL.out
          obtain ⟨g3, g4, g5⟩ := HYZ.out
          exact rtimesq_any _ _ x x2 d d2 4096 4096 u (HF.out.below hu) (QY.out.below hu) (by rw [← bigR16]; exact g1) (by rw [← bigR16]; exact g2) (by rw [← bigR16]; exact g4) (by rw [← bigR16]; exact g5) (by omega) (Nat.mul_pos HD0.out g3) (hugeD_of g2 g5))
        have eix : ((k : Int) * 4).toNat = k * 4 := by omega
        obtain ⟨⟨p0, p1, p2, p3⟩, _, lp⟩ := blk4q H9.out
        generalize lowN (x * x2) (d * d2) = lx at *
        generalize lowD (x * x2) (d * d2) = ld at *
        clear hx hy hc hcc hne hb HF QY
        go_wp2_with fail
        go_region_with (go_at_call 67; refine Calls.mono (TM.out _ (by first | exact Below.refl _ _ | exact (Below.refl _ _).drew | exact (Below.refl _ _).drew.drew)) ?_; rintro e w5 ⟨v5, rfl, hq5, hb5⟩; have B5 := Lib.hid (below_of (w := wr) (by first | exact Below.refl _ _ | exact (Below.refl _ _).drew | exact (Below.refl _ _).drew.drew) hb5); obtain ⟨m6, a6, k6, c6, m7, a7, k7, c7, rfl, zN, zD⟩ := hq5; have ZN := Lib.hid zN; have ZD := Lib.hid zD; have G5 := Lib.hid (blk_below' B5.out H9.out); obtain ⟨⟨t0, t1, t2, t3⟩, ⟨f0, f1, f2, f3⟩, l5⟩ := blk4q G5.out; clear hb5 zN zD)
        all_goals
          have h9x : (((((w5.setCell ⟨w3.heap.size, 0, none⟩ (.bool m6)).setCell ⟨w3.heap.size, 1, none⟩ (.slice a6 k6 c6)).setCell ⟨w3.heap.size, 2, none⟩ (.bool m7)).setCell ⟨w3.heap.size, 3, none⟩ (.slice a7 k7 c7))).heap[w3.heap.size]? = some (.cells #[.bool m6, .slice a6 k6 c6, .bool m7, .slice a7 k7 c7] 71 (0, 0)) := heap_setCell_same _ _ 3 _ _ _ (heap_setCell_same _ _ 2 _ _ _ (heap_setCell_same _ _ 1 _ _ _ (heap_setCell_same _ _ 0 _ _ _ G5.out)))
          have BN := set_below (set_below (set_below (set_below (below_of HB.out B5.out) hsz3 (v := .bool m6) (i := 0)) hsz3 (v := .slice a6 k6 c6) (i := 1)) hsz3 (v := .bool m7) (i := 2)) hsz3 (v := .slice a7 k7 c7) (i := 3)
          have ZNX := ZN.out.far4 (y0 := .bool m6) (y1 := .slice a6 k6 c6) (y2 := .bool m7) (y3 := .slice a7 k7 c7) G5.out
          have ZDX := ZD.out.far4 (y0 := .bool m6) (y1 := .slice a6 k6 c6) (y2 := .bool m7) (y3 := .slice a7 k7 c7) G5.out
          go_wp2_with fail
          generalize (((((w5.setCell ⟨w3.heap.size, 0, none⟩ (.bool m6)).setCell ⟨w3.heap.size, 1, none⟩ (.slice a6 k6 c6)).setCell ⟨w3.heap.size, 2, none⟩ (.bool m7)).setCell ⟨w3.heap.size, 3, none⟩ (.slice a7 k7 c7))) = U at *
          have H9X := Lib.hid h9x; have BNX := Lib.hid BN; have ZN1 := Lib.hid ZNX; have ZD1 := Lib.hid ZDX
          clear h9x BN ZNX ZDX t0 t1 t2 t3 f0 f1 f2 f3 p0 p1 p2 p3 y0 y1 y2 y3 ZN ZD G5 B5
          by_cases hb : BigR ≤ lx.natAbs
          · have HN : Hid (foldQ true (1, 1) L = none) := Lib.hid (by rw [HFO.out, HDR.out]; exact fold_yes (by rw [HQS.out]; exact .inl hb))
            refine Calls.mono (long3_any _ _ true U ZN1.out (decide_eq_true hb)) ?_
            rintro e w6 ⟨rfl, hb6⟩
            have B6 := Lib.hid (below_of BNX.out hb6)
            have R6 := Lib.hid (blk_below' B6.out R1.out)
            have B1 := Lib.hid (below_of B1.out B6.out)
            obtain ⟨⟨r0, r1, r2⟩, ⟨f0, f1, f2⟩, _⟩ := blk3 R6.out
            obtain ⟨⟨p0, p1, p2, p3⟩, _, _⟩ := blk4q (blk_below' hb6 H9X.out)
            clear hb hb6
            go_wp2
            refine bodyPost_ret (v := .tuple #[.agg #[.bool false, .slice none 0 0, .slice none 0 0], .int .i64 5]) ?_ rfl ⟨_, _, rfl, .inr (.inl ⟨HD.out, .inr HN.out, rfl, rfl⟩), ((B1.out.setCell (p := ⟨w.heap.size, 0, none⟩) hle _).setCell (p := ⟨w.heap.size, 1, none⟩) hle _).setCell (p := ⟨w.heap.size, 2, none⟩) hle _⟩
            simp [results, Tryz.results27, go_sem, *]
          · refine Calls.mono (long3_any _ _ false U ZN1.out (decide_eq_false hb)) ?_
            rintro e w6 ⟨rfl, hb6⟩
            have B6 := Lib.hid (below_of BNX.out hb6)
            have H96 := Lib.hid (blk_below' hb6 H9X.out); have ZN6 := Lib.hid (ZN1.out.below hb6); have ZD6 := Lib.hid (ZD1.out.below hb6)
            have HNB := Lib.hid hb
            have LD := Lib.hid (long3_any _ _ (decide (BigR ≤ ld)) w6 ZD6.out (by rw [Int.natAbs_natCast]))
            obtain ⟨⟨p0, p1, p2, p3⟩, _, _⟩ := blk4q H96.out
            clear hb hb6 ZN1 ZD1 H9X BNX
            go_wp2_with fail
            refine LD.out.mono ?_
            rintro e w7 ⟨rfl, hb7⟩
            have B7 := Lib.hid (below_of B6.out hb7)
            have H97 := Lib.hid (blk_below' hb7 H96.out); have ZN7 := Lib.hid (ZN6.out.below hb7); have ZD7 := Lib.hid (ZD6.out.below hb7)
            clear LD p0 p1 p2 p3 hb7 H96 ZN6 ZD6
            by_cases hb : BigR ≤ ld
            · have HN : Hid (foldQ true (1, 1) L = none) := Lib.hid (by rw [HFO.out, HDR.out]; exact fold_yes (by rw [HQS.out]; exact .inr hb))
              rw [decide_eq_true hb]
              have R6 := Lib.hid (blk_below' B7.out R1.out)
              have B1 := Lib.hid (below_of B1.out B7.out)
              obtain ⟨⟨r0, r1, r2⟩, ⟨f0, f1, f2⟩, _⟩ := blk3 R6.out
              clear hb
              go_wp2
              refine bodyPost_ret (v := .tuple #[.agg #[.bool false, .slice none 0 0, .slice none 0 0], .int .i64 5]) ?_ rfl ⟨_, _, rfl, .inr (.inl ⟨HD.out, .inr HN.out, rfl, rfl⟩), ((B1.out.setCell (p := ⟨w.heap.size, 0, none⟩) hle _).setCell (p := ⟨w.heap.size, 1, none⟩) hle _).setCell (p := ⟨w.heap.size, 2, none⟩) hle _⟩
              simp [results, Tryz.results27, go_sem, *]
            · rw [decide_eq_false hb]
              have HNL2 : Hid (¬ longQ (lx, ld)) := Lib.hid (not_longQ.2 ⟨Nat.lt_of_not_le HNB.out, Nat.lt_of_not_le hb⟩)
              have HFO2 : Hid (foldQ true (1, 1) L = foldQ true (lx, ld) (L.drop (k + 1))) := Lib.hid (by
                rw [HFO.out, HDR.out, fold_no (by rw [HQS.out]; exact HNL2.out), HQS.out])
              clear hb
              go_wp2
              go_roundw
              case rel => exact ⟨k + 1, lx, ld, _, _, _, _, _, _, _, _, by omega, by go_num, H97.out, ⟨_, _, _, _, _, _, _, _, rfl, ZN7.out, ZD7.out⟩, B7.out, HFO2.out, HNL2.out, HDP.out, HLA.out.1, HLA.out.2⟩
              case measure => simp [intOf]; omega
      · obtain rfl : k = L.length := by omega
        have HFS : Hid (foldQ true (1, 1) L = some (x, d)) := Lib.hid (by rw [HFO.out, List.drop_length]; rfl)
        have TO := Lib.hid (by
          obtain ⟨g1, g2⟩ := not_longQ.1 HNL.out
          exact rto_fine _ x d wr HF.out HD0.out (bigR_huge g2) (by rw [HLO.out.1]; exact g1) (by rw [HLO.out.2]; exact g2))
        rw [HLO.out.1, HLO.out.2] at TO
        obtain ⟨⟨p0, p1, p2, p3⟩, _, _⟩ := blk4q H9.out
        have hcd : ¬ (L.length < cs.length) := by have := HCL.out; omega
        go_wp2_with fail
        refine TO.out.mono ?_
        rintro e w5 ⟨v5, rfl, hf5, b5⟩
        obtain ⟨n5, a5, k5, c5, a6, k6, c6, rfl⟩ := frv_shape hf5
        have R5 := Lib.hid (blk_below' b5 RR.out); have B5 := Lib.hid (below_of BWR.out b5); have F5 := Lib.hid hf5
        obtain ⟨⟨r0, r1, r2⟩, ⟨f0, f1, f2⟩, _⟩ := blk3 R5.out
        clear b5 TO p0 p1 p2 p3 hf5
        go_wp2
        refine bodyPost_ret (v := .tuple #[.agg #[.bool n5, .slice a5 k5 c5, .slice a6 k6 c6], .int .i64 0]) ?_ rfl ⟨_, _, rfl, .inr (.inr ⟨HD.out, HL.out, x, d, HFS.out, rfl, F5.out.far3 R5.out⟩), ((B5.out.setCell (p := ⟨w.heap.size, 0, none⟩) hle _).setCell (p := ⟨w.heap.size, 1, none⟩) hle _).setCell (p := ⟨w.heap.size, 2, none⟩) hle _⟩
        simp [results, Tryz.results27, go_sem, *]
end Go.Proofs.YthgmebnihpjnoaaGreatDoor
