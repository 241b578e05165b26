/- PZG PZH. -/
import Derived.Test.YtpkdiciinhjfjaaDoorPD1
import Derived.Deep.QuietTactic
import Derived.BigQuiet
set_option linter.unusedVariables false
set_option linter.unusedSimpArgs false
/- SexpJoins: the walk where both lists are read. -/
namespace Go.Proofs.YtpkdiciinhjfjaaDoor
open Go.RowKit Mth

set_option maxHeartbeats 32000000 in
set_option maxRecDepth 100000 in
theorem joins_glad (w : World) (va vb : Value) (A B : List Tk) (TA TB : List Nd) (FA FB : List Int) (n m n6 m6 n7 m7 : Nat) (hJ : JoI w va vb A B TA TB (TA ++ TB.map (shN n)) FA FB (FA ++ FB.map (shI n)) n m n6 m6 n7 m7 0 0 0)
    (hn : n = TA.length) (hm : m = FA.length) (hn6 : n6 = TB.length) (hm6 : m6 = FB.length) (hn7 : n7 = n + n6) (hm7 : m7 = m + m6) (b1 : n ≤ A.length) (b2 : m ≤ A.length) (b3 : n6 ≤ B.length) (b4 : m6 ≤ B.length)
    (kb : ∀ i (h : i < TB.length), ∀ x ∈ TB[i].kids, 0 ≤ x ∧ x < (i : Int)) (kf : ∀ x ∈ FB, 0 ≤ x ∧ x < (TB.length : Int)) (kla : ∀ i (h : i < TA.length), TA[i].kids.length ≤ A.length) (klb : ∀ i (h : i < TB.length), TB[i].kids.length ≤ B.length) :
    Calls Tryd.prog 4 #[va, vb] w fun e w' => e = .returned (.bool true) ∧ Below w.heap.size w w' := by
  have J := Lib.hid hJ
  have HA := Lib.hid hJ.ta; have HB := Lib.hid hJ.tb
  have hlen := hJ.len
  have KB := Lib.hid kb; have KF := Lib.hid kf; have KLA := Lib.hid kla; have KLB := Lib.hid klb
  have hm7b : m7 ≤ 1048576 := by omega
  have hn7b : n7 ≤ 1048576 := by omega
  have e1 : wrap64 ((n : Int) + (n6 : Int)) = (n7 : Int) := by
    rw [show ((n : Int) + (n6 : Int)) = (n7 : Int) by omega]
    exact IntWalk.wrap64_in _ (by omega)
  have e2 : wrap64 ((m : Int) + (m6 : Int)) = (m7 : Int) := by
    rw [show ((m : Int) + (m6 : Int)) = (m7 : Int) by omega]
    exact IntWalk.wrap64_in _ (by omega)
  have h7 : n7 ≤ n + n6 ∧ n + n6 ≤ n7 := by omega
  have h8 : m7 ≤ m + m6 ∧ m + m6 ≤ m7 := by omega
  obtain ⟨h7a, h7b⟩ := h7
  obtain ⟨h8a, h8b⟩ := h8
  have d1 : decide ((n7 : Int) = (n : Int) + (n6 : Int)) = true := decide_eq_true (by omega)
  have d2 : decide ((m7 : Int) = (m : Int) + (m6 : Int)) = true := decide_eq_true (by omega)
  have HN := Lib.hid hn; have HM := Lib.hid hm; have HN6 := Lib.hid hn6; have HM6 := Lib.hid hm6
  have HN7 := Lib.hid hn7; have HM7 := Lib.hid hm7
  have DD : Hid (((m7 : Int) != (m : Int) + (m6 : Int)) = false) := Lib.hid (by rw [hm7, Int.natCast_add]; exact bne_self_eq_false _)
  obtain ⟨aoa, capa, rfl, -⟩ := hJ.ta
  obtain ⟨aob, capb, rfl, -⟩ := hJ.tb
  clear hJ kb kf kla klb hn hm hn6 hm6 hn7 hm7
  go_enter Tryd.func4, Tryd.ntmps4
  go_wp2_with (first | (at_builtin; refine append_tksL rfl _ _ rfl w.heap.size (.slice none 0 0) _ [] A rfl rfl (World.ownsRow_nil _ _ _ _) HA.out (by simp; omega) (Nat.le_refl _) ?_; intro v3 w3 hown3 hgr3 hor3; rw [List.nil_append] at hown3; obtain ⟨ao3, n3, cap3, rfl⟩ := own_slc hown3; have HO3 := Lib.hid hown3; have B3 := Lib.hid ((Keeps.of_grown hgr3).below (Nat.le_refl _) (fun b hb => by simp [Value.ownBlock])); clear hown3 hgr3 hor3) | (at_builtin; refine append_tksL rfl _ _ rfl w.heap.size (.slice ao3 n3 cap3) _ A B rfl rfl HO3.out (HB.out.below B3.out) hlen B3.out.size ?_; intro v4 w4 hown4 hgr4 hor4; obtain ⟨ao4, n4, cap4, rfl⟩ := own_slc hown4; have HO4 := Lib.hid (TkL.own hown4); have B4 := Lib.hid (B3.out.trans ((Keeps.of_grown hgr4).below B3.out.size (fun b hb e => by have := (HO3.out.lt b e).1; omega))); clear hown4 hgr4 hor4))
  refine (J.out.a _ B4.out).mono ?_
  rintro e w5 ⟨⟨na, nc, fa, fc, l5, c5, rfl, hnc, hs, hi⟩, hb5⟩
  have B5 := Lib.hid (belowT B4.out hb5)
  have HO5 := Lib.hid (HO4.out.below hb5)
  have SA := Lib.hid hs; have IA := Lib.hid hi
  clear hs hi hb5 HO4
  go_wp2_with fail
  refine (J.out.b _ B5.out).mono ?_
  rintro e w6 ⟨⟨na6, nc6, fa6, fc6, l6, c6, rfl, hnc6, hs, hi⟩, hb6⟩
  have B6 := Lib.hid (belowT B5.out hb6)
  have HO6 := Lib.hid (HO5.out.below hb6)
  have SA6 := Lib.hid (SA.out.below hb6); have IA6 := Lib.hid (IA.out.below hb6)
  have SB := Lib.hid hs; have IB := Lib.hid hi
  clear hs hi hb6 HO5 SA IA
  go_wp2_with fail
  refine (J.out.n _ _ B6.out HO6.out).mono ?_
  rintro e w7 ⟨⟨na7, nc7, fa7, fc7, l7, c7, rfl, hnc7, hs, hi⟩, hb7⟩
  have B7 := Lib.hid (belowT B6.out hb7)
  have AL7 := Lib.hid J.out.al
  have SA7 := Lib.hid (SA6.out.below hb7); have IA7 := Lib.hid (IA6.out.below hb7)
  have SB7 := Lib.hid (SB.out.below hb7); have IB7 := Lib.hid (IB.out.below hb7)
  have SN := Lib.hid hs; have IN := Lib.hid hi
  clear hs hi hb7 HO6 HO3 HA HB J B3 B4 B5 B6 SA6 IA6 SB IB
  go_wp2_with fail
  have HFN : Hid (∀ i, i < m → (FA ++ FB.map (shI n))[i]? = FA[i]?) := Lib.hid (fun i hi => List.getElem?_append_left (by rw [← HM.out]; exact hi))
  have HFM : Hid (∀ i q, i = m + q → (h : q < FB.length) → (FA ++ FB.map (shI n))[i]? = some (FB[q] + (n : Int))) := Lib.hid (fun i q hi h => by
    rw [List.getElem?_append_right (by rw [← HM.out]; omega), List.getElem?_map, show i - FA.length = q by rw [← HM.out]; omega, List.getElem?_eq_getElem h]; rfl)
  have HFL : Hid ((FA ++ FB.map (shI n)).length = m7) := Lib.hid (by rw [List.length_append, List.length_map, ← HM.out, ← HM6.out]; exact HM7.out.symm)
  have hnb : n ≤ 1048576 := by omega
  go_loopw [21] (fun v wr => ∃ i k : Nat, i ≤ m7 ∧ v = .int .i64 (i : Int) ∧ wr = w7.drewN k) (fun v _ => m7 - (intOf v).toNat)
  case atStart => exact ⟨0, 0, Nat.zero_le _, rfl, rfl⟩
  case round =>
    obtain ⟨i, k, hi, rfl, rfl⟩ := hrel
    by_cases hil : i < m7
    · obtain ⟨b2', o2, x2, -, c2⟩ := (IN.out.below (dr_below w7 k)).get (j := i) (by rw [HFL.out]; exact hil)
      subst x2
      have hiF : i < (FA ++ FB.map (shI n)).length := by rw [HFL.out]; exact hil
      have g2 : (FA ++ FB.map (shI n))[i]? = some ((FA ++ FB.map (shI n))[i]'hiF) := List.getElem?_eq_getElem hiF
      by_cases him : i < m
      · obtain ⟨b1', o1, x1, -, c1⟩ := (IA7.out.below (dr_below w7 k)).get (j := i) (by rw [← HM.out]; exact him)
        subst x1
        rw [HFN.out i him, List.getElem?_eq_getElem (by rw [← HM.out]; exact him)] at g2
        rw [← Option.some.inj g2] at c2
        clear g2 hiF
        generalize FA[i] = z at *
        have d3 : (z != z) = false := bne_self_eq_false z
        go_wp2_with fail
        go_roundw
        case rel => exact ⟨i + 1, _, by omega, by go_num, rfl⟩
        case measure => (simp [intOf]; try omega)
      · obtain ⟨q, hq⟩ : ∃ q, i = m + q := ⟨i - m, by omega⟩
        have hq6 : q < m6 := by omega
        have hqF : q < FB.length := by rw [← HM6.out]; exact hq6
        obtain ⟨b1', o1, x1, -, c1⟩ := (IB7.out.below (dr_below w7 k)).get (j := q) hqF
        subst x1
        rw [HFM.out i q hq hqF] at g2
        rw [← Option.some.inj g2] at c2
        have hz := KF.out _ (List.getElem_mem hqF)
        rw [← HN6.out] at hz
        clear g2 hiF
        generalize FB[q] = z at *
        have d3 : ((z + (n : Int)) != (z + (n : Int))) = false := bne_self_eq_false _
        have e3 : wrap64 ((i : Int) - (m : Int)) = (q : Int) := by rw [show ((i : Int) - (m : Int)) = (q : Int) by omega]; exact IntWalk.wrap64_in _ (by omega)
        have e4 : wrap64 (z + (n : Int)) = z + (n : Int) := IntWalk.wrap64_in _ (by omega)
        have e5 : (i : Int) - (m : Int) = (q : Int) := by omega
        have HQ := Lib.hid hq
        clear hq hqF hz
        go_wp2_with fail
        go_roundw
        case rel => exact ⟨i + 1, _, by omega, by go_num, rfl⟩
        case measure => (simp [intOf]; try omega)
    · obtain rfl : i = m7 := by omega
      clear d1 d2 e1 e2
      go_wp2_with fail
      rw [DD.out]
      go_loopw [23] (fun v wr => ∃ i : Nat, i ≤ n6 ∧ v = .int .i64 (i : Int) ∧ Below w7.heap.size w7 wr) (fun v _ => n6 - (intOf v).toNat)
      case atStart => exact ⟨0, Nat.zero_le _, rfl, below_drewN (Below.refl _ _) _⟩
      case round =>
        obtain ⟨i, hi, rfl, hbw⟩ := hrel
        have HBW := Lib.hid hbw
        by_cases hil : i < n6
        · have hiB : i < TB.length := by rw [← HN6.out]; exact hil
          have hkl : n + i < n7 := by omega
          obtain ⟨b1', o1, ka1, kc1, x1, -, c0, c1, c2, c3, c4, c5, c6, ci⟩ := two_at (SN.out.below hbw) HN.out (rfl : n + i = n + i) hiB
          subst x1
          obtain ⟨V, eV, gV, bV, hVs⟩ := allocS wr (Obj.cells #[.int .i64 TB[i].kind, .int .i64 TB[i].tok.k, .string TB[i].tok.t, .bool TB[i].tok.q, .int .i64 TB[i].tok.l, .int .i64 TB[i].tok.c, .slice ka1 TB[i].kids.length kc1] 36)
          have BV : Below w7.heap.size w7 V := hbw.trans (bV.mono hbw.size)
          have HBV := Lib.hid BV
          have HCI := Lib.hid (ci.below bV)
          obtain ⟨b2', o2, ka2, kc2, x2, hl2, q0, q1, q2, q3, q4, q5, q6, qi⟩ := (SB7.out.below BV).at hiB
          subst x2
          have HQI := Lib.hid qi
          have HC6 := Lib.hid q6
          have GV := Lib.hid gV
          obtain ⟨y0, y1, y2, y3, y4, y5, y6⟩ := blk7 gV
          have HKB := Lib.hid (KB.out i hiB)
          have hkl2 := KLB.out i hiB
          generalize TB[i] = nd at *
          obtain ⟨kind, ⟨tk, tt, tq, tl, tc⟩, ks⟩ := nd
          dsimp only at c0 c1 c2 c3 c4 c5 c6 q0 q1 q2 q3 q4 q5 q6 y0 y1 y2 y3 y4 y5 y6 hkl2 eV
          clear hiB ci qi gV bV BV hbw
          go_wp2_with fail
          try rw [eV]
          go_quiet (fail)
          go_wp2
          go_loopw [25] (fun v wr2 => ∃ q : Nat, q ≤ ks.length ∧ v = .int .i64 (q : Int) ∧ Below V.heap.size V wr2) (fun v _ => ks.length - (intOf v).toNat)
          case atStart => exact ⟨0, Nat.zero_le _, rfl, below_drewN (Below.refl _ _) _⟩
          case round =>
            obtain ⟨q, hq, rfl, hb2⟩ := hrel
            have HB2 := Lib.hid hb2
            have y6' := (blk7 (blkT hb2 GV.out)).2.2.2.2.2.2
            have q6' := (hb2.cell (p := ⟨b2', o2 + i * 7 + 6, none⟩) hl2).trans HC6.out
            by_cases hql : q < ks.length
            · obtain ⟨b3', o3, x3, -, k1⟩ := (HCI.out.below hb2).get (j := q) (by rw [List.length_map]; exact hql)
              obtain ⟨b4', o4, x4, -, k2⟩ := (HQI.out.below hb2).get (j := q) hql
              subst x3 x4
              rw [List.getElem_map] at k1
              unfold shI at k1
              have hz := HKB.out _ (List.getElem_mem hql)
              generalize ks[q] = z at *
              have d3 : ((z + (n : Int)) != (z + (n : Int))) = false := bne_self_eq_false _
              have e6 : wrap64 (z + (n : Int)) = z + (n : Int) := IntWalk.wrap64_in _ (by omega)
              clear hb2 hz q0 q1 q2 q3 q4 q5 q6 y0 y1 y2 y3 y4 y5 y6 c0 c1 c2 c3 c4 c5 c6
              go_wp2_with fail
              go_quiet (fail)
              go_wp2
              go_roundw
              case rel => exact ⟨q + 1, by omega, by go_num, below_drewN HB2.out _⟩
              case measure => (simp [intOf]; try omega)
            · obtain rfl : q = ks.length := by omega
              clear hb2 q0 q1 q2 q3 q4 q5 q6 y0 y1 y2 y3 y4 y5 y6 c0 c1 c2 c3 c4 c5 c6
              go_wp2_with fail
              go_roundw
              case rel => exact ⟨i + 1, by omega, by go_num, HBV.out.trans (HB2.out.mono HBV.out.size)⟩
              case measure => (simp [intOf]; try omega)
        · obtain rfl : i = n6 := by omega
          have hnn : n ≤ nc7 := by omega
          have TK : Hid ((TA ++ TB.map (shN n)).take n = TA) := Lib.hid (List.take_left' HN.out.symm)
          have S1 := (SN.out.below hbw).take (k := n) (cap' := nc7) (by rw [List.length_append, ← HN.out]; omega)
          rw [TK.out] at S1
          have SM := Lib.hid (same7_any TA _ _ wr S1 (SA7.out.below hbw) (by rw [← HN.out]; omega) (fun nd h => by
            obtain ⟨j, hj, rfl⟩ := List.getElem_of_mem h
            have := KLA.out j hj; omega))
          have B8 := Lib.hid (B7.out.trans (hbw.mono B7.out.size))
          clear S1 hbw
          go_wp2_with fail
          refine SM.out.mono ?_
          rintro e w8 ⟨rfl, k, rfl⟩
          have B9 := Lib.hid (below_drewN B8.out k)
          go_wp2_with fail
          refine (AL7.out _ B9.out).mono ?_
          rintro e w9 ⟨rfl, hb9⟩
          have B10 := Lib.hid (belowT B9.out hb9)
          clear hb9
          go_wp2
          go_ret
          exact ⟨rfl, B10.out⟩
end Go.Proofs.YtpkdiciinhjfjaaDoor

/- SexpJoins: both ways. -/
namespace Go.Proofs.YtpkdiciinhjfjaaDoor
open Go.RowKit Mth

theorem joins7_walk (w : World) (va vb : Value) (A B : List Tk) (hva : TkL w va A) (hvb : TkL w vb B) (hta : ∀ x ∈ A, x.t.size ≤ 1048576) (htb : ∀ x ∈ B, x.t.size ≤ 1048576) (hlen : A.length + B.length ≤ 1048576) (hL : LexW w) : Calls Tryd.prog 4 #[va, vb] w fun e w' => e = .returned (.bool true) ∧ Below w.heap.size w w' := by
  have PR : ∀ (L : List Tk) (v : Value) (W : World), Below w.heap.size w W → TkL W v L → L.length ≤ 1048576 → (∀ x ∈ L, x.t.size ≤ 1048576) → Calls Tryd.prog 9 #[v] W fun e w' => UniN w' (ndsR L) (frR L) (ndsR L).length (frR L).length (errR L) e ∧ Below W.heap.size W w' := fun L v W hW hv hl ht => (parse_any L v W (hL.below hW) hv hl ht).mono (fun e w' h => by
    obtain ⟨na, n, nc, fa, m, fc, l, c, x, rfl, rfl, rfl, rfl, h1, h2, h3⟩ := parse_uni h
    exact ⟨⟨na, nc, fa, fc, l, c, rfl, h1, h2, h3⟩, h.1⟩)
  have J : JoI w va vb A B (ndsR A) (ndsR B) (ndsR (A ++ B)) (frR A) (frR B) (frR (A ++ B)) (ndsR A).length (frR A).length (ndsR B).length (frR B).length (ndsR (A ++ B)).length (frR (A ++ B)).length (errR A) (errR B) (errR (A ++ B)) :=
    ⟨fun W hW => PR A va W hW (hva.below hW) (by omega) hta, fun W hW => PR B vb W hW (hvb.below hW) (by omega) htb, fun W v hW hv => PR (A ++ B) v W hW hv (by rw [List.length_append]; exact hlen) (fun x hx => (List.mem_append.1 hx).elim (hta x) (htb x)),
      fun W hW => alive7_any W (hL.below hW), hva, hvb, hlen⟩
  by_cases h0 : errR A = 0
  · by_cases h1 : errR B = 0
    · have TW := two_r h0 h1
      rw [h0, h1, TW.err, TW.nds, TW.fr] at J
      obtain ⟨t1, t2, t3, t4⟩ := TW.lens
      exact joins_glad w va vb A B _ _ _ _ _ _ _ _ _ _ J rfl rfl rfl rfl (by rw [List.length_append, List.length_map]) (by rw [List.length_append, List.length_map]) t1 t2 t3 t4 TW.kids TW.free TW.klen TW.klenB
    · exact joins_sad w va vb A B _ _ _ _ _ _ _ _ _ _ _ _ _ _ _ J (.inl ⟨h0, h1⟩)
  · by_cases h71 : errR A = 71
    · exact joins_sad w va vb A B _ _ _ _ _ _ _ _ _ _ _ _ _ _ _ J (.inr (.inl ⟨h0, h71⟩))
    · exact joins_sad w va vb A B _ _ _ _ _ _ _ _ _ _ _ _ _ _ _ J (.inr (.inr ⟨h0, h71, err_bad h0 h71⟩))
end Go.Proofs.YtpkdiciinhjfjaaDoor
