/- Package whole: a tally's total; sumOf. -/
import Derived.Test.YtckmpnfadpnaeaaDoorZI
import Derived.Test.YtckmpnfadpnaeaaDoorZE
set_option linter.unusedVariables false
set_option linter.unusedSimpArgs false
namespace Go.Proofs.YtckmpnfadpnaeaaDoor
open Go.RowKit Mth

theorem Ow.away {w : World} {base n R j : Nat} {v x : Value} {cs : Array Value} {T : TypeId} (h : Ow w base v n) (hR : w.heap[R]? = some (.cells cs T (0, 0))) (hT : T ≠ 65) : Ow (w.setCell ⟨R, j, none⟩ x) base v n := by
  rcases h with h | ⟨g, cap, cur, xs, h0, h1, h2, h3⟩
  · exact .inl h
  · refine .inr ⟨g, cap, cur, xs, h0, (heap_setCell_other w ⟨R, j, none⟩ g x ?_).trans h1, h2, h3⟩
    intro e
    have e : g = R := e
    subst e
    rw [h1] at hR
    simp only [Option.some.injEq, Obj.cells.injEq] at hR
    exact hT hR.2.1.symm
theorem Ow.away2 {w : World} {base n R : Nat} {v x y : Value} {cs : Array Value} {T : TypeId} (h : Ow w base v n) (hR : w.heap[R]? = some (.cells cs T (0, 0))) (hT : T ≠ 65) : Ow ((w.setCell ⟨R, 0, none⟩ x).setCell ⟨R, 1, none⟩ y) base v n :=
  (h.away hR hT).away (heap_setCell_same w R 0 _ _ x hR) hT
theorem Ow.zero {w : World} {base n k c : Nat} {ao : Option Addr} (h : Ow w base (.slice ao k c) n) : k = 0 ↔ n = 0 := by
  obtain ⟨xs, h1, h2, h3, h4⟩ := h.sl
  obtain ⟨ao', c', e, _⟩ := h1
  simp only [Value.slice.injEq] at e
  obtain ⟨_, rfl, _⟩ := e
  rw [← h4, ← nil_iff, trimL_of_top h3]

set_option maxHeartbeats 2000000 in
set_option maxRecDepth 100000 in
theorem tally_total (g base m P N : Nat) (w : World) (h : TalO w base g m P N) (hm : m ≤ 16777216) (hbase : base ≤ w.heap.size) :
    Calls Tryd.prog 43 #[.pointer (some ⟨g, 0, none⟩)] w fun e w' => ∃ v', e = .returned v' ∧ NuC w' base v' ((P : Int) - (N : Int)) ∧ Below base w w' := by
  obtain ⟨u, d, xs, ys, hT, hu, hd, lx, tx, ex, ly, ty, ey, hdis, hP, hN⟩ := h
  obtain ⟨uo, uc, rfl, hc1, hc2⟩ := own_shape hu
  obtain ⟨dO, dc, rfl, hc3, hc4⟩ := own_shape hd
  have hxl : xs.length ≤ 8000000 := by have := len_huge tx (by rw [ex]; exact hP) (by omega); unfold Lm at this; omega
  have hyl : ys.length ≤ 8000000 := by have := len_huge ty (by rw [ey]; exact hN) (by omega); unfold Lm at this; omega
  have su := sl_own hu (by omega); have sd := sl_own hd (by omega)
  have hlt := (Array.getElem?_eq_some_iff.1 hT).1
  have gu := tal_ne hu hT; have gd := tal_ne hd hT
  have CM : Hid (∀ w1 c, cmp3 P N = c → Below w.heap.size w w1 → Calls Tryd.prog 56 #[.slice uo xs.length uc, .slice dO ys.length dc] w1 fun e w' => e = .returned (.int .i64 c) ∧ Below w1.heap.size w1 w') :=
    Lib.hid (fun w1 c hc hb => wcmp_any _ _ P N w1 ⟨xs, su.below hb, lx, tx, ex⟩ ⟨ys, sd.below hb, ly, ty, ey⟩ c hc)
  have LD : Hid (P < N → ∀ w1, Below w.heap.size w w1 → Calls Tryd.prog 69 #[.slice dO ys.length dc, .slice uo xs.length uc] w1 fun e w' => ∃ v', e = .returned v' ∧ Ow w' base v' (N - P) ∧ w1.grownBy w' (Value.slice dO ys.length dc).ownBlock) :=
    Lib.hid (fun hlt w1 hb => by
      have := less_any base _ ys xs _ w1 (own_other hd (grown_of_below hb none) (fun _ _ e => by cases e)) ly (su.below hb) lx tx (by
        by_cases h0 : xs = []
        · exact .inr h0
        · left
          intro e
          rcases hu.2 with ⟨h1, _⟩ | ⟨g', cap, cur, h1, _⟩
          · simp only [Value.slice.injEq] at h1; exact h0 (List.eq_nil_of_length_eq_zero h1.2.1)
          · simp only [Value.slice.injEq] at h1
            obtain ⟨rfl, _⟩ := h1
            exact hdis g' rfl e.symm) (by omega) (by omega)
      rw [ex, ey] at this
      exact this)
  have LU : Hid (N ≤ P → ∀ w1, Below w.heap.size w w1 → Calls Tryd.prog 69 #[.slice uo xs.length uc, .slice dO ys.length dc] w1 fun e w' => ∃ v', e = .returned v' ∧ Ow w' base v' (P - N) ∧ w1.grownBy w' (Value.slice uo xs.length uc).ownBlock) :=
    Lib.hid (fun hle w1 hb => by
      have := less_any base _ xs ys _ w1 (own_other hu (grown_of_below hb none) (fun _ _ e => by cases e)) lx (sd.below hb) ly ty (by
        by_cases h0 : ys = []
        · exact .inr h0
        · left
          intro e
          rcases hd.2 with ⟨h1, _⟩ | ⟨g', cap, cur, h1, _⟩
          · simp only [Value.slice.injEq] at h1; exact h0 (List.eq_nil_of_length_eq_zero h1.2.1)
          · simp only [Value.slice.injEq] at h1
            obtain ⟨rfl, _⟩ := h1
            exact hdis g' e.symm rfl) (by omega) (by omega)
      rw [ex, ey] at this
      exact this)
  have OU : Hid (∀ k, (Value.slice uo xs.length uc).ownBlock = some k → base ≤ k ∧ k < w.heap.size) := Lib.hid (fun k hk => ⟨(own_base' hu k hk).1, (own_base' hu k hk).2.1⟩)
  have OD : Hid (∀ k, (Value.slice dO ys.length dc).ownBlock = some k → base ≤ k ∧ k < w.heap.size) := Lib.hid (fun k hk => ⟨(own_base' hd k hk).1, (own_base' hd k hk).2.1⟩)
  obtain ⟨c0, c1, f0, f1, _⟩ := blk2 hT
  clear hT hu hd hdis gu gd lx tx ex ly ty ey hP hN su sd
  go_enter Tryd.func43, Tryd.ntmps43
  go_wp2
  obtain ⟨W, eW, h1, bel, hsz⟩ := alloc1 w (Obj.cells #[Value.slice none 0 0, Value.bool false] 54)
  rw [eW]
  have c0' := cell_to bel c0 hlt; have c1' := cell_to bel c1 hlt
  have H1 := Lib.hid h1
  clear eW h1 c0 c1 f0 f1
  go_still_tail 8, (by kernel_rfl)
  go_wp2_with fail
  by_cases hc : P < N
  · refine (CM.out _ (-1) (cmp_lt hc) bel.drew).mono ?_
    rintro e w1 ⟨rfl, hb1⟩
    have B1 := below_of bel.drew hb1
    have hgW : g < W.heap.size := size_to bel hlt
    have c0'' := cell_to hb1 c0' hgW; have c1'' := cell_to hb1 c1' hgW
    have H2 := Lib.hid ((hb1.block _ hsz).trans H1.out)
    have hs1 : w.heap.size < w1.heap.size := size_to hb1 hsz
    clear c0' c1'
    go_wp2
    go_still_tail 8, (by kernel_rfl)
    go_wp2_with fail
    refine (LD.out hc _ B1.drew).mono ?_
    rintro e w2 ⟨v2, rfl, ho, hg⟩
    obtain ⟨a2, n2, c2, rfl⟩ := ho.shape
    have hz0 := ho.zero
    have HO := Lib.hid ho
    have H3 := Lib.hid ((hg.block w.heap.size hs1 (fun e => by have := (OD.out _ e.symm).2; omega)).trans H2.out)
    have B2 : Below base w w2 := (B1.drew.mono hbase).grown hg (Nat.le_trans hbase (Nat.le_of_lt hs1)) (fun k e => (OD.out k e).1)
    have HB2 := Lib.hid B2
    have hs2 : w.heap.size < w2.heap.size := Nat.lt_of_lt_of_le hs1 hg.size
    clear ho hg B2 c0'' c1''
    go_wp2_with fail
    refine (signed_is _ _ _ _ _).mono ?_
    rintro e w3 ⟨rfl, hb3, _⟩
    have h3 := (hb3.block _ hs2).trans H3.out
    obtain ⟨k0, k1, g0, g1, _⟩ := blk2 h3
    have E : Hid ((true && !((n2 : Int) == 0)) = sgn ((P : Int) - (N : Int))) := Lib.hid (by
      rw [sgn_neg (by omega)]
      have : ((n2 : Int) == 0) = false := by rw [beq_eq_false_iff_ne]; omega
      rw [this]; rfl)
    rw [E.out]
    go_wp2
    refine bodyPost_ret (v := .agg #[.slice a2 n2 c2, .bool (sgn ((P : Int) - (N : Int)))]) ?_ rfl ⟨_, rfl, ⟨_, rfl, ?_⟩, ?_⟩
    · simp [results, Tryd.results43, go_sem, *]
    · rw [show ((P : Int) - (N : Int)).natAbs = N - P by omega]
      exact (HO.out.below hb3).away2 h3 (by decide)
    · exact ((HB2.out.trans (hb3.mono (Nat.le_trans hbase (Nat.le_of_lt hs2)))).setCell hbase _).setCell hbase _
  · obtain ⟨c, hcc, hcn⟩ : ∃ c : Int, cmp3 P N = c ∧ decide (c < 0) = false := by
      rcases Nat.lt_or_ge N P with h | h
      · exact ⟨1, cmp_gt h, rfl⟩
      · exact ⟨0, cmp_eq (by omega), rfl⟩
    refine (CM.out _ c hcc bel.drew).mono ?_
    rintro e w1 ⟨rfl, hb1⟩
    have B1 := below_of bel.drew hb1
    have hgW : g < W.heap.size := size_to bel hlt
    have c0'' := cell_to hb1 c0' hgW; have c1'' := cell_to hb1 c1' hgW
    have H2 := Lib.hid ((hb1.block _ hsz).trans H1.out)
    have hs1 : w.heap.size < w1.heap.size := size_to hb1 hsz
    clear c0' c1'
    go_wp2
    go_still_tail 8, (by kernel_rfl)
    go_wp2_with fail
    refine (LU.out (by omega) _ B1.drew).mono ?_
    rintro e w2 ⟨v2, rfl, ho, hg⟩
    obtain ⟨a2, n2, c2, rfl⟩ := ho.shape
    have hz0 := ho.zero
    have HO := Lib.hid ho
    have H3 := Lib.hid ((hg.block w.heap.size hs1 (fun e => by have := (OU.out _ e.symm).2; omega)).trans H2.out)
    have B2 : Below base w w2 := (B1.drew.mono hbase).grown hg (Nat.le_trans hbase (Nat.le_of_lt hs1)) (fun k e => (OU.out k e).1)
    have HB2 := Lib.hid B2
    have hs2 : w.heap.size < w2.heap.size := Nat.lt_of_lt_of_le hs1 hg.size
    clear ho hg B2 c0'' c1''
    go_wp2_with fail
    refine (signed_is _ _ _ _ _).mono ?_
    rintro e w3 ⟨rfl, hb3, _⟩
    have h3 := (hb3.block _ hs2).trans H3.out
    obtain ⟨k0, k1, g0, g1, _⟩ := blk2 h3
    have E : Hid ((false && !((n2 : Int) == 0)) = sgn ((P : Int) - (N : Int))) := Lib.hid (by
      rw [sgn_pos (by omega)]; rfl)
    rw [E.out]
    go_wp2
    refine bodyPost_ret (v := .agg #[.slice a2 n2 c2, .bool (sgn ((P : Int) - (N : Int)))]) ?_ rfl ⟨_, rfl, ⟨_, rfl, ?_⟩, ?_⟩
    · simp [results, Tryd.results43, go_sem, *]
    · rw [show ((P : Int) - (N : Int)).natAbs = P - N by omega]
      exact (HO.out.below hb3).away2 h3 (by decide)
    · exact ((HB2.out.trans (hb3.mono (Nat.le_trans hbase (Nat.le_of_lt hs2)))).setCell hbase _).setCell hbase _

theorem tal_zero {w : World} {base g : Nat} (h : w.heap[g]? = some (.cells #[.slice none 0 0, .slice none 0 0] 67 (0, 0))) : TalO w base g 0 0 0 :=
  ⟨_, _, [], [], h, own_start w base, own_start w base, lim_nil (by have := B64_pos; omega), rfl, rfl, lim_nil (by have := B64_pos; omega), rfl, rfl, (fun k hk => by cases hk), by omega, by omega⟩
end Go.Proofs.YtckmpnfadpnaeaaDoor
