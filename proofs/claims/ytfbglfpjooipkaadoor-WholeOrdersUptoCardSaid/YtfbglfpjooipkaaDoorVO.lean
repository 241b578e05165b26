/- WholeOrders: the law's own walk. -/
import Derived.Test.YtfbglfpjooipkaaDoorZU
import Derived.Deep.RegionHeld3
namespace Go.Proofs.YtfbglfpjooipkaaDoor
open Go.RowKit Mth

/-- how three numbers may lie: each to the next, and the first to the last -/
def OrdOk (a b c : Int) : Prop := (a = -1 ∧ b = -1 ∧ c = -1) ∨ (a = -1 ∧ b = 0 ∧ c = -1) ∨ (a = -1 ∧ b = 1 ∧ c = -1) ∨ (a = -1 ∧ b = 1 ∧ c = 0) ∨ (a = -1 ∧ b = 1 ∧ c = 1) ∨ (a = 0 ∧ b = -1 ∧ c = -1) ∨ (a = 0 ∧ b = 0 ∧ c = 0) ∨ (a = 0 ∧ b = 1 ∧ c = 1) ∨
  (a = 1 ∧ b = -1 ∧ c = -1) ∨ (a = 1 ∧ b = -1 ∧ c = 0) ∨ (a = 1 ∧ b = -1 ∧ c = 1) ∨ (a = 1 ∧ b = 0 ∧ c = 1) ∨ (a = 1 ∧ b = 1 ∧ c = 1)
theorem zcmp_or (x y : Int) : (zcmp x y = -1 ∧ x < y) ∨ (zcmp x y = 0 ∧ x = y) ∨ (zcmp x y = 1 ∧ y < x) := by
  rcases (show x < y ∨ x = y ∨ y < x by omega) with h | h | h
  · exact .inl ⟨zcmp_lt h, h⟩
  · exact .inr (.inl ⟨zcmp_eq h, h⟩)
  · exact .inr (.inr ⟨zcmp_gt h, h⟩)
theorem ord_ok (x y z : Int) : OrdOk (zcmp x y) (zcmp y z) (zcmp x z) := by
  rcases zcmp_or x y with ⟨h1, l1⟩ | ⟨h1, l1⟩ | ⟨h1, l1⟩ <;> rcases zcmp_or y z with ⟨h2, l2⟩ | ⟨h2, l2⟩ | ⟨h2, l2⟩ <;> rcases zcmp_or x z with ⟨h3, l3⟩ | ⟨h3, l3⟩ | ⟨h3, l3⟩ <;> first | (rw [h1, h2, h3]; unfold OrdOk; decide) | (exfalso; omega)
theorem zcmp_flip (x y : Int) : zcmp y x = -(zcmp x y) := by
  rcases zcmp_or x y with ⟨h1, l1⟩ | ⟨h1, l1⟩ | ⟨h1, l1⟩
  · rw [h1, zcmp_gt l1]; rfl
  · rw [h1, zcmp_eq l1.symm]; rfl
  · rw [h1, zcmp_lt l1]
theorem zcmp_add (x y z : Int) : zcmp (x + z) (y + z) = zcmp x y := by
  rcases zcmp_or x y with ⟨h1, l1⟩ | ⟨h1, l1⟩ | ⟨h1, l1⟩
  · rw [h1, zcmp_lt (by omega)]
  · rw [h1, zcmp_eq (by omega)]
  · rw [h1, zcmp_gt (by omega)]
theorem zE_fine {z : Int} (h : zE z = 0) : z.natAbs < Big := by
  by_cases hb : Big ≤ z.natAbs
  · rw [(z_big hb).2] at h; omega
  · omega
theorem IntC.fine {w : World} {base : Nat} {v : Value} {z : Int} (h : IntC w base v (zN z)) (h2 : zE z = 0) : IntV w v z := by
  have hf := zE_fine h2
  rw [(z_fine hf).1] at h
  exact h.intV hf
theorem IntK.fine {w : World} {v : Value} {z : Int} (h : IntK w v (zN z)) (h2 : zE z = 0) : IntV w v z := by
  have hf := zE_fine h2
  rw [(z_fine hf).1] at h
  exact h.intV hf

set_option maxHeartbeats 16000000 in
set_option maxRecDepth 100000 in
theorem orders_walk (w : World) (v0 v1 v2 : Value) (x y z : Int) (hz : TZ10 w) (h0 : IntV w v0 x) (h1 : IntV w v1 y) (h2 : IntV w v2 z) :
    Calls Tryd.prog 10 #[v0, v1, v2] w fun e w' => e = .returned (.bool true) ∧ Below w.heap.size w w' := by
  have HZ := Lib.hid hz
  obtain ⟨n0, a0, k0, c0, rfl⟩ := h0.shape
  obtain ⟨n1, a1, k1, c1, rfl⟩ := h1.shape
  obtain ⟨n2, a2, k2, c2, rfl⟩ := h2.shape
  have HA := Lib.hid h0; have HB := Lib.hid h1; have HC := Lib.hid h2
  have OK := ord_ok x y z
  have FL := Lib.hid (zcmp_flip x y); have AD := Lib.hid (zcmp_add x y z)
  clear hz h0 h1 h2
  go_enter Tryd.func10, Tryd.ntmps10
  go_wp2_with fail
  obtain ⟨W, eW, b1, b2, b3, bel, hsz⟩ := alloc3 w (Obj.cells #[Value.bool n0, Value.slice a0 k0 c0] 25) (Obj.cells #[Value.bool n1, Value.slice a1 k1 c1] 25) (Obj.cells #[Value.bool n2, Value.slice a2 k2 c2] 25)
  rw [eW]
  clear eW
  have b3' : W.heap[w.heap.size + 1 + 1]? = _ := b3
  obtain ⟨p0, p1, _, _, _⟩ := blk2 b1
  obtain ⟨q0, q1, _, _, _⟩ := blk2 b2
  obtain ⟨r0, r1, _, _, _⟩ := blk2 b3'
  have STAY : Hid (∀ w', Below W.heap.size W w' → w'.cell? ⟨w.heap.size, 0, none⟩ = some (.bool n0) ∧ w'.cell? ⟨w.heap.size, 1, none⟩ = some (.slice a0 k0 c0) ∧ w'.cell? ⟨w.heap.size + 1, 0, none⟩ = some (.bool n1) ∧ w'.cell? ⟨w.heap.size + 1, 1, none⟩ = some (.slice a1 k1 c1) ∧ w'.cell? ⟨w.heap.size + 1 + 1, 0, none⟩ = some (.bool n2) ∧ w'.cell? ⟨w.heap.size + 1 + 1, 1, none⟩ = some (.slice a2 k2 c2) ∧ Below W.heap.size W w') :=
    Lib.hid (fun w' h => ⟨cell_to h p0 (by omega), cell_to h p1 (by omega), cell_to h q0 (by omega), cell_to h q1 (by omega), cell_to h r0 (by omega), cell_to h r1 (by omega), h⟩)
  have BEL := Lib.hid bel
  have hB0 := (Below.refl W.heap.size W).drew
  clear b1 b2 b3 b3' p0 p1 q0 q1 r0 r1 bel
  go_cut [7, 8, 9] (fun s7 s8 s9 wx => s7 = .int .i64 (zcmp x y) ∧ s8 = .int .i64 (zcmp y z) ∧ s9 = .int .i64 (zcmp x z) ∧ Below W.heap.size W wx)
  case first =>
    go_region_held3 (fun w' => w'.cell? ⟨w.heap.size, 0, none⟩ = some (.bool n0) ∧ w'.cell? ⟨w.heap.size, 1, none⟩ = some (.slice a0 k0 c0) ∧ w'.cell? ⟨w.heap.size + 1, 0, none⟩ = some (.bool n1) ∧ w'.cell? ⟨w.heap.size + 1, 1, none⟩ = some (.slice a1 k1 c1) ∧ w'.cell? ⟨w.heap.size + 1 + 1, 0, none⟩ = some (.bool n2) ∧ w'.cell? ⟨w.heap.size + 1 + 1, 1, none⟩ = some (.slice a2 k2 c2) ∧ Below W.heap.size W w')
      ((try go_split_ands; refine STAY.out _ ?_; first | assumption | exact below_to (by assumption) (by assumption)))
      (first
      | (go_at_call 26; go_split_ands; first
        | ((with_reducible refine Calls.mono (cmpI_any (.agg #[.bool n0, .slice a0 k0 c0]) (.agg #[.bool n1, .slice a1 k1 c1]) x y _ ?_ ?_) ?_); (exact HA.out.below (below_of BEL.out (by assumption))); (exact HB.out.below (below_of BEL.out (by assumption))); rintro e w1 ⟨rfl, hb1⟩)
        | ((with_reducible refine Calls.mono (cmpI_any (.agg #[.bool n1, .slice a1 k1 c1]) (.agg #[.bool n2, .slice a2 k2 c2]) y z _ ?_ ?_) ?_); (exact HB.out.below (below_of BEL.out (by assumption))); (exact HC.out.below (below_of BEL.out (by assumption))); rintro e w2 ⟨rfl, hb2⟩)
        | ((with_reducible refine Calls.mono (cmpI_any (.agg #[.bool n0, .slice a0 k0 c0]) (.agg #[.bool n2, .slice a2 k2 c2]) x z _ ?_ ?_) ?_); (exact HA.out.below (below_of BEL.out (by assumption))); (exact HC.out.below (below_of BEL.out (by assumption))); rintro e w3 ⟨rfl, hb3⟩)))
    go_wp2_with fail
    go_meet
    exact ⟨rfl, rfl, rfl, by first | assumption | (go_split_ands; assumption)⟩
  case rest =>
    obtain ⟨rfl, rfl, rfl, hBW⟩ := hcut
    obtain ⟨o1, E1⟩ : ∃ o, zcmp x y = o := ⟨_, rfl⟩
    obtain ⟨o2, E2⟩ : ∃ o, zcmp y z = o := ⟨_, rfl⟩
    obtain ⟨o3, E3⟩ : ∃ o, zcmp x z = o := ⟨_, rfl⟩
    rw [E1] at FL AD OK
    rw [E2, E3] at OK
    rw [E1, E2, E3]
    have B0 := Lib.hid (below_of BEL.out hBW)
    have HBW := Lib.hid hBW
    clear E1 E2 E3 hBW hB0
    rcases OK with ⟨rfl, rfl, rfl⟩ | ⟨rfl, rfl, rfl⟩ | ⟨rfl, rfl, rfl⟩ | ⟨rfl, rfl, rfl⟩ | ⟨rfl, rfl, rfl⟩ | ⟨rfl, rfl, rfl⟩ | ⟨rfl, rfl, rfl⟩ | ⟨rfl, rfl, rfl⟩ | ⟨rfl, rfl, rfl⟩ | ⟨rfl, rfl, rfl⟩ | ⟨rfl, rfl, rfl⟩ | ⟨rfl, rfl, rfl⟩ | ⟨rfl, rfl, rfl⟩
    all_goals
      go_wp2_with fail
      refine (awake_any _ (HZ.out.below B0.out)).mono ?_
      rintro e w1 ⟨rfl, hb1⟩
      have B1 := Lib.hid (below_of B0.out hb1)
      obtain ⟨p0, p1, q0, q1, r0, r1, hk1⟩ := STAY.out _ (below_to hb1 HBW.out)
      have HK1 := Lib.hid hk1
      clear hb1 hk1
      go_wp2_with fail
      refine (cmpI_any _ _ y x w1 (HB.out.below B1.out) (HA.out.below B1.out)).mono ?_
      rintro e w2 ⟨rfl, hb2⟩
      rw [FL.out]
      have B2 := Lib.hid (below_of B1.out hb2)
      clear p0 p1 q0 q1 r0 r1
      obtain ⟨p0, p1, q0, q1, r0, r1, hk2⟩ := STAY.out _ (below_to hb2 HK1.out)
      have HK2 := Lib.hid hk2
      clear hb2 hk2 HK1 B1
      go_wp2_with fail
      refine (addI_any _ _ x z w2 (HA.out.below B2.out) (HC.out.below B2.out)).mono ?_
      rintro e w3 ⟨v3, rfl, i3, hb3⟩
      obtain ⟨m3, d3, l3, f3, rfl⟩ := i3.shape
      have I3 := Lib.hid i3
      have B3 := Lib.hid (below_of B2.out hb3)
      clear p0 p1 q0 q1 r0 r1
      have hk3 := below_to hb3 HK2.out
      obtain ⟨p0, p1, q0, q1, r0, r1, _⟩ := STAY.out (w3.alloc (Obj.cells #[Value.bool m3, Value.slice d3 l3 f3] 25)) (below_to (nuc_new w3 _) hk3)
      clear hb3 hk3 HK2 B2 i3
      rcases zE_or (x + z) with ⟨za, zb⟩ | ⟨za, zb⟩
      all_goals
        have ZA := Lib.hid za
        rw [za]
        clear za zb
        go_wp2_with fail
        obtain ⟨V, eV, hV, belV, hszV⟩ := alloc1 w3 (Obj.cells #[Value.bool m3, Value.slice d3 l3 f3] 25)
        rw [eV]
        obtain ⟨s0, s1, _, _, _⟩ := blk2 hV
        have BV := Lib.hid (below_of B3.out belV)
        clear eV hV p0 p1 q0 q1 r0 r1
        refine (addI_any _ _ y z V (HB.out.below BV.out) (HC.out.below BV.out)).mono ?_
        rintro e w4 ⟨v4, rfl, i4, hb4⟩
        obtain ⟨m4, d4, l4, f4, rfl⟩ := i4.shape
        have I4 := Lib.hid i4
        have I3' := Lib.hid ((I3.out.below belV).below hb4)
        have B4 := Lib.hid (below_of BV.out hb4)
        have s0' := cell_new (x := Obj.cells #[Value.bool m4, Value.slice d4 l4 f4] 25) (cell_to hb4 s0 hszV) (size_to hb4 hszV); have s1' := cell_new (x := Obj.cells #[Value.bool m4, Value.slice d4 l4 f4] 25) (cell_to hb4 s1 hszV) (size_to hb4 hszV)
        clear s0 s1 hb4 i4 BV
        rcases zE_or (y + z) with ⟨za, zb⟩ | ⟨za, zb⟩
        all_goals
          have ZB := Lib.hid za
          rw [za]
          clear za zb
          go_wp2_with fail
          first
          | (go_ret
             exact ⟨rfl, B4.out.alloc B4.out.size _⟩)
          | (obtain ⟨U, eU, hU, belU, hszU⟩ := alloc1 w4 (Obj.cells #[Value.bool m4, Value.slice d4 l4 f4] 25)
             rw [eU]
             have BU := Lib.hid (below_of B4.out belU)
             clear eU hU s0' s1'
             refine (cmpI_any _ _ (x + z) (y + z) U ((I3'.out.fine ZA.out).below belU) ((I4.out.fine ZB.out).below belU)).mono ?_
             rintro e w5 ⟨rfl, hb5⟩
             have B5 := Lib.hid (below_of BU.out hb5)
             rw [AD.out]
             clear hb5
             go_wp2
             go_ret
             exact ⟨rfl, B5.out⟩)
end Go.Proofs.YtfbglfpjooipkaaDoor
