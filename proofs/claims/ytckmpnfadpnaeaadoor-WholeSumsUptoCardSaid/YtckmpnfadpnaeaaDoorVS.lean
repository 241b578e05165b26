/- tribunalref02.Sum; WholeSums: the law's own walk. -/
import Derived.Test.YtckmpnfadpnaeaaDoorZT
import Derived.Test.YtckmpnfadpnaeaaDoorZU
import Derived.Test.YtckmpnfadpnaeaaDoorYI
set_option linter.unusedVariables false
set_option linter.unusedSimpArgs false
namespace Go.Proofs.YtckmpnfadpnaeaaDoor
open Go.RowKit Mth

/-- what R.Sum's loop holds -/
def RsO (w wr : World) (zs : List Int) (i : Value) : Prop := ∃ (k : Nat) (n : Bool) (a : Option Addr) (m c : Nat), k ≤ zs.length ∧ i = .int .i64 k ∧ wr.heap[w.heap.size + 1]? = some (.cells #[.bool n, .slice a m c] 62 (0, 0)) ∧ ZV wr (.agg #[.bool n, .slice a m c]) (zs.take k).sum ∧
  Below (w.heap.size + 1) (w.alloc (Obj.cells #[Value.bool false, Value.slice none 0 0] 25)) wr
theorem sum_abs (zs : List Int) (M : Nat) (h : ∀ j, (zs.getD j 0).natAbs ≤ M) : ∀ k, k ≤ zs.length → (zs.take k).sum.natAbs ≤ k * M
  | 0, _ => by simp
  | k + 1, hk => by
    rw [take_next (by omega), List.sum_append, Nat.add_mul]
    have ih := sum_abs zs M h k (by omega)
    have := h k
    generalize zs.getD k 0 = z at *
    simp
    omega
theorem huge_sum {k : Nat} (h : k ≤ 4000000) : k * HugeN < HugeD := by
  have e : HugeN = B64 ^ Lm := rfl
  have h1 : k * HugeN < B64 * HugeN := Nat.mul_lt_mul_of_pos_right (by unfold B64; omega) huge_pos
  have h2 : B64 * HugeN = B64 ^ (Lm + 1) := by rw [e, Nat.pow_succ, Nat.mul_comm]
  have h3 : B64 ^ (Lm + 1) ≤ HugeD := huge_d' (L := Lm + 1) (D := Ld) (by unfold Lm Ld; omega)
  omega

set_option maxHeartbeats 8000000 in
set_option maxRecDepth 100000 in
theorem rsum_any (v : Value) (zs : List Int) (w : World) (h : IntL w v zs) : Calls Tryd.prog 17 #[v] w fun e w' => ∃ v', e = .returned (.tuple #[v', .int .i64 (zE zs.sum)]) ∧ IntK w' v' (zN zs.sum) ∧ Below w.heap.size w w' := by
  have HS := Lib.hid h
  have hlen : zs.length ≤ 4000000 := by obtain ⟨_, _, _, _, _, h, _⟩ := h; exact h
  have SA : Hid (∀ k, k ≤ zs.length → (zs.take k).sum.natAbs < HugeD) := Lib.hid (fun k hk => by
    refine Nat.lt_of_le_of_lt (sum_abs zs HugeN (fun j => ?_) k hk) (huge_sum (by omega))
    by_cases hj : j < zs.length
    · obtain ⟨ao, cap, h0, h1, h2, h3, h4, h5⟩ := h
      obtain ⟨b, off, _, _, hc⟩ := h5 (by omega)
      obtain ⟨_, _, _, _, _, _, hi⟩ := hc j hj
      exact Nat.le_of_lt hi.huge
    · rw [List.getD_eq_getElem?_getD, List.getElem?_eq_none (by omega)]; exact Nat.zero_le _)
  obtain ⟨ao, cap, rfl⟩ := h.shape
  clear h
  go_enter Tryd.func17, Tryd.ntmps17
  go_wp2
  obtain ⟨W, eW, h1, h2, bel, hsz⟩ := alloc2 w (Obj.cells #[Value.bool false, Value.slice none 0 0] 25) (Obj.cells #[Value.bool false, Value.slice none 0 0] 62)
  have BA : Hid (Below (w.heap.size + 1) (w.alloc (Obj.cells #[Value.bool false, Value.slice none 0 0] 25)) W) := Lib.hid (by
    rw [← eW]
    exact (Below.refl _ _).alloc (by simp) _)
  rw [eW]
  have H2 := Lib.hid h2
  clear eW h1 h2
  go_loopw [5] (fun i wr => RsO w wr zs i) (fun i _ => zs.length - (intOf i).toNat)
  case atStart => exact ⟨0, _, _, _, _, Nat.zero_le _, rfl, H2.out, zv_nil _, BA.out⟩
  case round =>
    obtain ⟨k, n, a, m, c, hk, rfl, hG, hZ, hbel⟩ := hrel
    by_cases hlt : k < zs.length
    · have hB0 : Below w.heap.size w wr := ((Below.refl w.heap.size w).alloc (Nat.le_refl _) _).trans (hbel.mono (Nat.le_succ _))
      have S1 := Lib.hid (SA.out k hk); have S2 := Lib.hid (SA.out (k + 1) hlt)
      obtain ⟨ao', cap', e0, hc1, hc2, _, _, h5⟩ := HS.out
      simp only [Value.slice.injEq, true_and] at e0
      obtain ⟨rfl, rfl⟩ := e0
      obtain ⟨b, off, rfl, hblt, hc⟩ := h5 (by omega)
      obtain ⟨n1, a1, k1, c1, p0, p1, hi⟩ := hc k hlt
      have TN := Lib.hid (take_next hlt)
      obtain ⟨z, hz⟩ : ∃ z, zs.getD k 0 = z := ⟨_, rfl⟩
      rw [hz] at hi TN
      clear hz
      have q0 := cell_to hB0 p0 hblt; have q1 := cell_to hB0 p1 hblt
      have HI := Lib.hid (hi.below hB0)
      have HH : Hid (z.natAbs < HugeD) := Lib.hid (Nat.lt_of_lt_of_le hi.huge huge_d)
      obtain ⟨s0, s1, g0, g1, hgl⟩ := blk2 hG
      have hbw : b < wr.heap.size := Nat.lt_of_lt_of_le hblt hB0.size
      have KEEP : Hid (∀ w', Below wr.heap.size wr w' → w'.heap[w.heap.size + 1]? = some (.cells #[.bool n, .slice a m c] 62 (0, 0)) ∧ w'.cell? ⟨b, off + k * 2, none⟩ = some (.bool n1) ∧ w'.cell? ⟨b, off + k * 2 + 1, none⟩ = some (.slice a1 k1 c1)) :=
        Lib.hid (fun w' h => ⟨(h.block _ hgl).trans hG, cell_to h q0 hbw, cell_to h q1 hbw⟩)
      have HZ := Lib.hid hZ; have HB := Lib.hid hbel
      have hw1 : IntKind.i64.wrap ((k : Int) + 1) = (k : Int) + 1 := by rw [IntKind.wrap_i64]; omega
      have ST : Hid ((zs.take k).sum + z = (zs.take (k + 1)).sum) := Lib.hid (by rw [TN.out]; simp)
      unfold maxLen at hc2
      clear h5 hc hbel hi hB0 p0 p1 hG hZ
      go_wp2
      go_region_with (first
        | (go_at_call 41; refine Calls.mono (from_any2 _ z _ ?_) ?_; (first | exact HI.out.below (bdrawn (Below.refl _ _) 1) | exact HI.out.below ((Below.refl _ _).drew)); rintro e w4 ⟨v4, rfl, hz4, hb4⟩; obtain ⟨n4, a4, k4, c4, rfl⟩ := hz4.shape; have hB4 := Lib.hid (below_of (Below.refl wr.heap.size wr).drew hb4); have HZ4 := Lib.hid hz4; obtain ⟨hG4, o0, o1⟩ := KEEP.out _ hB4.out; obtain ⟨m0, m1, i0, i1, _⟩ := blk2 hG4; clear hz4 hb4 hG4)
        | (go_at_call 45; refine Calls.mono (plus_any2 _ _ (zs.take k).sum z _ ?_ ?_ S1.out HH.out) ?_; (exact HZ.out.below hB4.out); (exact HZ4.out); rintro e w5 ⟨v5, rfl, hz5, hb5⟩; obtain ⟨n5, a5, k5, c5, rfl⟩ := hz5.shape; have hB5 := Lib.hid (below_of hB4.out hb5); have HZ5 := Lib.hid hz5; obtain ⟨hG5, y0, y1⟩ := KEEP.out _ hB5.out; obtain ⟨j0, j1, l0, l1, _⟩ := blk2 hG5; have HG5 := Lib.hid hG5; clear hz5 hb5 hG5 m0 m1 i0 i1 o0 o1))
      all_goals
        have hz6 := HZ5.out
        rw [ST.out] at hz6
        have RL : Hid (RsO w ((w5.setCell ⟨w.heap.size + 1, 0, none⟩ (.bool n5)).setCell ⟨w.heap.size + 1, 1, none⟩ (.slice a5 k5 c5)) zs (.int .i64 ((k + 1 : Nat) : Int))) := Lib.hid ⟨k + 1, n5, a5, k5, c5, by omega, rfl, by rw [heap_setCell_same _ _ 1 _ _ _ (heap_setCell_same _ _ 0 _ _ _ HG5.out)]; rfl, hz6.far HG5.out, ((HB.out.trans (hB5.out.mono (by have := HB.out.size; simp at this; omega))).setCell (p := ⟨w.heap.size + 1, 0, none⟩) (Nat.le_refl _) _).setCell (p := ⟨w.heap.size + 1, 1, none⟩) (Nat.le_refl _) _⟩
        clear hz6
        go_wp2
        go_roundw
        case rel => exact RL.out
        case measure => simp [intOf]; omega
    · obtain rfl : k = zs.length := by omega
      rw [List.take_length] at hZ
      obtain ⟨s0, s1, g0, g1, hgl⟩ := blk2 hG
      have HB := Lib.hid hbel
      have HZ := Lib.hid hZ
      clear hbel hZ hG
      go_wp2_with fail
      refine (out_any2 _ zs.sum wr HZ.out).mono ?_
      rintro e w3 ⟨v3, rfl, hi, hb3⟩
      obtain ⟨n3, a3, k3, c3, rfl⟩ := hi.shape
      have I3 := Lib.hid hi
      have hR0 : (w.alloc (Obj.cells #[Value.bool false, Value.slice none 0 0] 25)).heap[w.heap.size]? = some (Obj.cells #[Value.bool false, Value.slice none 0 0] 25) := heap_alloc_new w _
      have hR := (hb3.block w.heap.size (by have := HB.out.size; simp at this; omega)).trans ((HB.out.block w.heap.size (by omega)).trans hR0)
      obtain ⟨k0, k1, g0', g1', hl⟩ := blk2 hR
      have HR := Lib.hid hR
      have B3 := Lib.hid (((Below.refl w.heap.size w).alloc (Nat.le_refl _) (Obj.cells #[Value.bool false, Value.slice none 0 0] 25)).trans ((HB.out.mono (Nat.le_succ _)).trans (hb3.mono (by have := HB.out.size; simp at this; omega))))
      clear hi hb3 hR hR0
      go_wp2
      refine bodyPost_ret (v := .tuple #[.agg #[.bool n3, .slice a3 k3 c3], .int .i64 (zE zs.sum)]) ?_ rfl ⟨_, rfl, I3.out.far HR.out, (B3.out.setCell (p := ⟨w.heap.size, 0, none⟩) (Nat.le_refl _) _).setCell (p := ⟨w.heap.size, 1, none⟩) (Nat.le_refl _) _⟩
      simp [results, Tryd.results17, go_sem, *]

set_option maxHeartbeats 4000000 in
set_option maxRecDepth 100000 in
theorem sums_walk (w : World) (v0 : Value) (zs : List Int) (hz : TZ10 w) (h0 : IntL w v0 zs) :
    Calls Tryd.prog 4 #[v0] w fun e w' => e = .returned (.bool true) ∧ Below w.heap.size w w' := by
  have HZ := Lib.hid hz; have H0 := Lib.hid h0
  obtain ⟨ao, c, rfl⟩ := h0.shape
  clear hz h0
  go_enter Tryd.func4, Tryd.ntmps4
  go_wp2_with fail
  refine (sumI_any _ zs w H0.out).mono ?_
  rintro e w1 ⟨v1, rfl, i1, b1⟩
  obtain ⟨n1, a1, k1, c1, rfl⟩ := i1.shape
  have I1 := Lib.hid i1; have B1 := Lib.hid b1
  clear i1 b1
  go_wp2_with fail
  obtain ⟨V, eV, hV, belV, hszV⟩ := alloc1 w1 (Obj.cells #[Value.bool n1, Value.slice a1 k1 c1] 25)
  rw [eV]
  have BV := Lib.hid (below_of B1.out belV)
  have J1 := Lib.hid (I1.out.below belV)
  clear eV I1
  refine (rsum_any _ zs V (H0.out.below BV.out)).mono ?_
  rintro e w2 ⟨v2, rfl, i2, b2⟩
  obtain ⟨n2, a2, k2, c2, rfl⟩ := i2.shape
  have HG := (b2.block _ hszV).trans hV
  have B2 := Lib.hid (below_of BV.out b2)
  have hlt := size_to b2 hszV
  have K1 := Lib.hid (J1.out.below b2); have I2 := Lib.hid i2
  have hg := blk_below' (nuc_new w2 (Obj.cells #[Value.bool n2, Value.slice a2 k2 c2] 25)) HG
  obtain ⟨p0, p1, _, _, _⟩ := blk2 hg
  clear hV b2 i2 J1 HG hg
  go_wp2_with fail
  obtain ⟨U, eU, hU, belU, hszU⟩ := alloc1 w2 (Obj.cells #[Value.bool n2, Value.slice a2 k2 c2] 25)
  rw [eU]
  have BU := Lib.hid (below_of B2.out belU)
  clear eU hU p0 p1
  refine (same_any _ _ (zN zs.sum) U (K1.out.below belU) (I2.out.below belU)).mono ?_
  rintro e w3 ⟨rfl, b3⟩
  have B3 := Lib.hid (below_of BU.out b3)
  clear b3
  rcases zE_or zs.sum with ⟨z1, z2⟩ | ⟨z1, z2⟩
  all_goals
    rw [z1]
    clear z1 z2
    go_wp2_with fail
    refine (awake_any _ (HZ.out.below B3.out)).mono ?_
    rintro e w4 ⟨rfl, b4⟩
    have B4 := Lib.hid (below_of B3.out b4)
    clear b4
    go_wp2
    go_ret
    exact ⟨rfl, B4.out⟩
end Go.Proofs.YtckmpnfadpnaeaaDoor
