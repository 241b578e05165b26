/- tribunalref02: Gcd. -/
import Derived.Test.YtkccjddmmjdceaaGreatDoorGA
import Derived.Test.YtkccjddmmjdceaaGreatDoorGR
import Derived.Deep.RegionWith
set_option linter.unusedVariables false
set_option linter.unusedSimpArgs false
namespace Go.Proofs.YtkccjddmmjdceaaGreatDoor
open Go.RowKit Mth

/-- what R.Gcd's second loop holds -/
def RgL (w wr : World) (zs : List Int) (G : Nat) (i : Value) : Prop := ∃ (k : Nat) (n : Bool) (a : Option Addr) (m c : Nat), k ≤ zs.length ∧ i = .int .i64 k ∧ wr.heap[G]? = some (.cells #[.bool n, .slice a m c] 65 (0, 0)) ∧ ZV wr (.agg #[.bool n, .slice a m c]) ((gNz zs k : Nat) : Int) ∧
  Below (w.heap.size + 1) (w.alloc (Obj.cells #[Value.bool false, Value.slice none 0 0] 25)) wr
theorem zv_gcd {w : World} {v : Value} {a : Nat} {z : Int} (h : ZV w v ((Nat.gcd ((a : Nat) : Int).natAbs z.natAbs : Nat) : Int)) : ZV w v ((Nat.gcd a z.natAbs : Nat) : Int) := by
  rwa [Int.natAbs_natCast] at h

set_option maxHeartbeats 8000000 in
set_option maxRecDepth 100000 in
theorem rgcdL_any (v : Value) (zs : List Int) (w : World) (h : IntL w v zs) : Calls Tryz.prog 17 #[v] w fun e w' => ∃ v', e = .returned (.tuple #[v', .int .i64 (gE zs)]) ∧ IntK w' v' (gZ zs) ∧ Below w.heap.size w w' := by
  have HS := Lib.hid h
  have hlen : zs.length ≤ 4000000 := by obtain ⟨_, _, _, _, _, h, _⟩ := h; exact h
  obtain ⟨ao, cap, rfl⟩ := h.shape
  clear h
  go_enter Tryz.func17, Tryz.ntmps17
  go_wp2
  go_loopw [4] (fun i wr => GcO1 w wr zs i) (fun i _ => zs.length - (intOf i).toNat)
  case atStart => exact ⟨0, Nat.zero_le _, rfl, fun j hj => by omega, Below.refl _ _⟩
  case round =>
    obtain ⟨k, hk, rfl, hF, hbel⟩ := hrel
    have HF := Lib.hid hF; have HB := Lib.hid hbel
    clear hF
    by_cases hlt : k < zs.length
    · have hB0 : Below w.heap.size w wr := ((Below.refl w.heap.size w).alloc (Nat.le_refl _) _).trans (hbel.mono (Nat.le_succ _))
      obtain ⟨ao', cap', e0, hc1, hc2, _, _, h5⟩ := HS.out
      simp only [Value.slice.injEq, true_and] at e0
      obtain ⟨rfl, rfl⟩ := e0
      obtain ⟨b, off, rfl, hblt, hc⟩ := h5 (by omega)
      obtain ⟨n, a, kk, c, c0', c1', hi⟩ := hc k hlt
      obtain ⟨z, hz⟩ : ∃ z, zs.getD k 0 = z := ⟨_, rfl⟩
      have GL : Hid (Big ≤ z.natAbs → gZ zs = 0 ∧ gE zs = 5) := Lib.hid (fun h => g_long hlt (by rw [hz]; exact h))
      have GF : Hid (z.natAbs < Big → Fine zs (k + 1)) := Lib.hid (fun h j hj => by
        by_cases e : j = k
        · subst e; rw [hz]; exact h
        · exact HF.out j (by omega))
      rw [hz] at hi
      clear hz
      have c0 := cell_to hB0 c0' hblt; have c1 := cell_to hB0 c1' hblt
      have HI := Lib.hid (hi.below hB0)
      have hwr := hbel.size
      have hw1 : IntKind.i64.wrap ((k : Int) + 1) = (k : Int) + 1 := by rw [IntKind.wrap_i64]; omega
      unfold maxLen at hc2
      clear h5 hc hbel hi c0' c1' hB0
      go_wp2_with fail
      refine (from_any2 _ z wr HI.out).mono ?_
      rintro e w2 ⟨v2, rfl, hz2, hb2⟩
      obtain ⟨n2, a2, k2, c2, rfl⟩ := hz2.shape
      have HZ2 := Lib.hid hz2; have BB2 := Lib.hid hb2
      clear hz2 hb2
      go_wp2_with fail
      refine (longZ_any _ z w2 HZ2.out).mono ?_
      rintro e w3 ⟨rfl, hb3⟩
      have B3 := Lib.hid (HB.out.trans ((below_of BB2.out hb3).mono (by have := HB.out.size; simp at this; omega)))
      clear hb3
      by_cases hbig : Big ≤ z.natAbs
      · have GG := Lib.hid (GL.out hbig)
        rw [decide_eq_true hbig]
        clear hbig
        have hR0 : (w.alloc (Obj.cells #[Value.bool false, Value.slice none 0 0] 25)).heap[w.heap.size]? = some (Obj.cells #[Value.bool false, Value.slice none 0 0] 25) := heap_alloc_new w _
        have hR := (B3.out.block w.heap.size (by omega)).trans hR0
        obtain ⟨k0, k1, g0, g1, hl⟩ := blk2 hR
        have B4 := Lib.hid (((Below.refl w.heap.size w).alloc (Nat.le_refl _) (Obj.cells #[Value.bool false, Value.slice none 0 0] 25)).trans (B3.out.mono (Nat.le_succ _)))
        clear hR hR0
        go_wp2
        refine bodyPost_ret (v := .tuple #[.agg #[.bool false, .slice none 0 0], .int .i64 5]) ?_ rfl ⟨_, by rw [GG.out.2], by rw [GG.out.1]; exact intk_zero _, (B4.out.setCell (p := ⟨w.heap.size, 0, none⟩) (Nat.le_refl _) _).setCell (p := ⟨w.heap.size, 1, none⟩) (Nat.le_refl _) _⟩
        simp [results, Tryz.results17, go_sem, *]
      · have GG := Lib.hid (GF.out (by omega))
        rw [decide_eq_false hbig]
        clear hbig
        go_wp2
        go_roundw
        case rel => exact ⟨k + 1, by omega, by go_num, GG.out, B3.out⟩
        case measure => simp [intOf]; omega
    · obtain rfl : k = zs.length := by omega
      have GG := Lib.hid (g_fine HF.out)
      have hsw := hbel.size
      simp at hsw
      clear hlt hbel
      obtain ⟨wo, hwo⟩ : ∃ wo : World, wo = wr := ⟨_, rfl⟩
      rw [← hwo] at HB hsw ⊢
      clear hwo wr
      go_wp2_with fail
      obtain ⟨V, eV, hV, belV, hszV⟩ := alloc1 wo (Obj.cells #[Value.bool false, Value.slice none 0 0] 65)
      rw [eV]
      have BV := Lib.hid (HB.out.trans (belV.mono hsw)); have HV := Lib.hid hV
      clear eV hV belV hszV
      go_loopw [6] (fun i wr => RgL w wr zs wo.heap.size i) (fun i _ => zs.length - (intOf i).toNat)
      case atStart => exact ⟨0, _, _, _, _, Nat.zero_le _, rfl, HV.out, zv_nil _, BV.out⟩
      case round =>
        obtain ⟨k, n, a, m, c, hk, rfl, hG, hZ, hbel⟩ := hrel
        by_cases hlt : k < zs.length
        · have hB0 : Below w.heap.size w wr := ((Below.refl w.heap.size w).alloc (Nat.le_refl _) _).trans (hbel.mono (Nat.le_succ _))
          obtain ⟨ao', cap', e0, hc1, hc2, _, _, h5⟩ := HS.out
          simp only [Value.slice.injEq, true_and] at e0
          obtain ⟨rfl, rfl⟩ := e0
          obtain ⟨b, off, rfl, hblt, hc⟩ := h5 (by omega)
          obtain ⟨n1, a1, k1, c1, p0, p1, hi⟩ := hc k hlt
          have TN := Lib.hid (gNz_next hlt)
          have ZB := HF.out k hlt
          obtain ⟨z, hz⟩ : ∃ z, zs.getD k 0 = z := ⟨_, rfl⟩
          rw [hz] at hi TN ZB
          clear hz
          have q0 := cell_to hB0 p0 hblt; have q1 := cell_to hB0 p1 hblt
          have HI := Lib.hid (hi.below hB0)
          have HH : Hid (z.natAbs < HugeD) := Lib.hid (Nat.lt_of_lt_of_le hi.huge huge_d)
          obtain ⟨s0, s1, g0, g1, hgl⟩ := blk2 hG
          have hbw : b < wr.heap.size := Nat.lt_of_lt_of_le hblt hB0.size
          have KEEP : Hid (∀ w', Below wr.heap.size wr w' → w'.heap[wo.heap.size]? = some (.cells #[.bool n, .slice a m c] 65 (0, 0)) ∧ w'.cell? ⟨b, off + k * 2, none⟩ = some (.bool n1) ∧ w'.cell? ⟨b, off + k * 2 + 1, none⟩ = some (.slice a1 k1 c1)) :=
            Lib.hid (fun w' h => ⟨(h.block _ hgl).trans hG, cell_to h q0 hbw, cell_to h q1 hbw⟩)
          have HZ := Lib.hid hZ; have HB2 := Lib.hid hbel
          have hw1 : IntKind.i64.wrap ((k : Int) + 1) = (k : Int) + 1 := by rw [IntKind.wrap_i64]; omega
          unfold maxLen at hc2
          clear h5 hc hbel hi hB0 p0 p1 hG hZ ZB
          go_wp2
          go_region_with (first
            | (go_at_call 36; refine Calls.mono (from_any2 _ z _ ?_) ?_; (first | exact HI.out.below (bdrawn (Below.refl _ _) 1) | exact HI.out.below ((Below.refl _ _).drew)); rintro e w4 ⟨v4, rfl, hz4, hb4⟩; obtain ⟨n4, a4, k4, c4, rfl⟩ := hz4.shape; have hB4 := Lib.hid (below_of (Below.refl wr.heap.size wr).drew hb4); have HZ4 := Lib.hid hz4; obtain ⟨hG4, o0, o1⟩ := KEEP.out _ hB4.out; obtain ⟨m0, m1, i0, i1, _⟩ := blk2 hG4; clear hz4 hb4 hG4)
            | (go_at_call 47; refine Calls.mono (rgcd2_any _ _ ((gNz zs k : Nat) : Int) z _ ?_ ?_ HH.out) ?_; (exact HZ.out.below hB4.out); (exact HZ4.out); rintro e w5 ⟨v5, rfl, hz5, hb5⟩; obtain ⟨n5, a5, k5, c5, rfl⟩ := hz5.shape; have hB5 := Lib.hid (below_of hB4.out hb5); have HZ5 := Lib.hid (zv_gcd hz5); obtain ⟨hG5, y0, y1⟩ := KEEP.out _ hB5.out; obtain ⟨j0, j1, l0, l1, _⟩ := blk2 hG5; have HG5 := Lib.hid hG5; clear hz5 hb5 hG5 m0 m1 i0 i1 o0 o1))
          all_goals
            have hz6 := HZ5.out
            rw [← TN.out] at hz6
            have RL : Hid (RgL w ((w5.setCell ⟨wo.heap.size, 0, none⟩ (.bool n5)).setCell ⟨wo.heap.size, 1, none⟩ (.slice a5 k5 c5)) zs wo.heap.size (.int .i64 ((k + 1 : Nat) : Int))) := Lib.hid ⟨k + 1, n5, a5, k5, c5, by omega, rfl, by rw [heap_setCell_same _ _ 1 _ _ _ (heap_setCell_same _ _ 0 _ _ _ HG5.out)]; rfl, hz6.far HG5.out, ((HB2.out.trans (hB5.out.mono (by have := HB2.out.size; simp at this; omega))).setCell (p := ⟨wo.heap.size, 0, none⟩) hsw _).setCell (p := ⟨wo.heap.size, 1, none⟩) hsw _⟩
            clear hz6
            go_wp2
            go_roundw
            case rel => exact RL.out
            case measure => simp [intOf]; omega
        · obtain rfl : k = zs.length := by omega
          obtain ⟨s0, s1, g0, g1, hgl⟩ := blk2 hG
          have HB2 := Lib.hid hbel
          have HZ := Lib.hid hZ
          clear hbel hZ hG
          go_wp2_with fail
          refine (to_any2 _ _ wr HZ.out).mono ?_
          rintro e w3 ⟨v3, rfl, hi, hb3⟩
          rw [← GG.out.1] at hi
          obtain ⟨n3, a3, k3, c3, rfl⟩ := hi.shape
          have I3 := Lib.hid hi
          have hR0 : (w.alloc (Obj.cells #[Value.bool false, Value.slice none 0 0] 25)).heap[w.heap.size]? = some (Obj.cells #[Value.bool false, Value.slice none 0 0] 25) := heap_alloc_new w _
          have hR := (hb3.block w.heap.size (by have := HB2.out.size; simp at this; omega)).trans ((HB2.out.block w.heap.size (by omega)).trans hR0)
          obtain ⟨k0, k1, g0', g1', hl⟩ := blk2 hR
          have HR := Lib.hid hR
          have B3 := Lib.hid (((Below.refl w.heap.size w).alloc (Nat.le_refl _) (Obj.cells #[Value.bool false, Value.slice none 0 0] 25)).trans ((HB2.out.mono (Nat.le_succ _)).trans (hb3.mono (by have := HB2.out.size; simp at this; omega))))
          clear hi hb3 hR hR0
          go_wp2
          refine bodyPost_ret (v := .tuple #[.agg #[.bool n3, .slice a3 k3 c3], .int .i64 0]) ?_ rfl ⟨_, by rw [GG.out.2], I3.out.far HR.out, (B3.out.setCell (p := ⟨w.heap.size, 0, none⟩) (Nat.le_refl _) _).setCell (p := ⟨w.heap.size, 1, none⟩) (Nat.le_refl _) _⟩
          simp [results, Tryz.results17, go_sem, *]
end Go.Proofs.YtkccjddmmjdceaaGreatDoor
