/- DivMod of the program and of the reference 02, whatever the numbers. -/
import Derived.Test.YtkccjddmmjdceaaGreatDoorYS
import Derived.Test.YtkccjddmmjdceaaGreatDoorYX
import Derived.Test.YtkccjddmmjdceaaGreatDoorHI
import Derived.Test.YtkccjddmmjdceaaGreatDoorZQZ
set_option linter.unusedVariables false
set_option linter.unusedSimpArgs false
namespace Go.Proofs.YtkccjddmmjdceaaGreatDoor
open Go.RowKit Mth

/-- what DivMod answers -/
def ezE (x y : Int) : Int := if y = 0 then 11 else twE (qE x y) (rE x y)
def ezQ (x y : Int) : Int := if y = 0 then 0 else twZ (qE x y) (rE x y) (qE x y)
def ezR (x y : Int) : Int := if y = 0 then 0 else twZ (qE x y) (rE x y) (rE x y)

set_option maxHeartbeats 16000000 in
set_option maxRecDepth 100000 in
theorem rdiv_full (va vb : Value) (x y : Int) (w : World) (ha : IntV w va x) (hb : IntV w vb y) (h0 : y ≠ 0) :
    Calls Tryz.prog 10 #[va, vb] w fun e w' => ∃ v1 v2, e = .returned (.tuple #[v1, v2, .int .i64 (twE (qE x y) (rE x y))]) ∧ IntK w' v1 (twZ (qE x y) (rE x y) (qE x y)) ∧ IntK w' v2 (twZ (qE x y) (rE x y) (rE x y)) ∧ Below w.heap.size w w' := by
  obtain ⟨n1, a1, k1, c1, rfl⟩ := ha.shape
  obtain ⟨n2, a2, k2, c2, rfl⟩ := hb.shape
  have HX : Hid (x.natAbs < HugeD) := Lib.hid (Nat.lt_of_lt_of_le ha.huge huge_d)
  have HY : Hid (y.natAbs < HugeD) := Lib.hid (Nat.lt_of_lt_of_le hb.huge huge_d)
  have HA := Lib.hid ha; have HB := Lib.hid hb; have H0 := Lib.hid h0
  clear ha hb h0
  go_enter Tryz.func10, Tryz.ntmps10
  go_wp2_with fail
  obtain ⟨W, eW, h1, h2, h3, h4, bel, hsz⟩ := alloc4 w (Obj.cells #[Value.bool n1, Value.slice a1 k1 c1] 25) (Obj.cells #[Value.bool n2, Value.slice a2 k2 c2] 25) (Obj.cells #[Value.bool false, Value.slice none 0 0] 25) (Obj.cells #[Value.bool false, Value.slice none 0 0] 25)
  rw [eW]
  have H1 := Lib.hid h1; have H3 := Lib.hid h3; have H4 := Lib.hid h4
  have hlt4 := (Array.getElem?_eq_some_iff.1 h4).1
  have BW := Lib.hid bel
  clear eW h1 h2 h3 h4 bel hsz
  refine (from_any2 _ y W (HB.out.below BW.out)).mono ?_
  rintro e w1 ⟨v1, rfl, z1, hb1⟩
  obtain ⟨m1, d1, l1, e1, rfl⟩ := z1.shape
  have HL : Hid (l1 ≠ 0) := Lib.hid (by
    obtain ⟨_, ys, _, _, _, hv, rfl⟩ := z1.parts
    intro e
    have := List.eq_nil_of_length_eq_zero e
    rw [this] at hv
    exact H0.out (by have : (0 : Nat) = y.natAbs := hv; omega))
  obtain ⟨V, eV, hV, belV, hszV⟩ := alloc1 w1 (Obj.cells #[Value.bool m1, Value.slice d1 l1 e1] 65)
  have hsz1 := hb1.size
  have HV := Lib.hid hV
  have Z1 := Lib.hid (z1.below belV)
  have BV := Lib.hid (below_of (below_of BW.out hb1) belV)
  have H1V := Lib.hid (blk_below' belV (blk_below' hb1 H1.out))
  have H3V := Lib.hid (blk_below' belV (blk_below' hb1 H3.out)); have H4V := Lib.hid (blk_below' belV (blk_below' hb1 H4.out))
  obtain ⟨y0, y1, _, _, _⟩ := blk2 hV
  obtain ⟨x0, x1, _, _, _⟩ := blk2 H1V.out
  have hd : ((l1 : Int) == 0) = false := by rw [beq_eq_false_iff_ne]; have := HL.out; omega
  clear z1 hV belV hb1
  go_wp2_with fail
  clear eV
  have STAY : Hid (∀ w', Below V.heap.size V w' → w'.cell? ⟨w.heap.size, 0, none⟩ = some (.bool n1) ∧ w'.cell? ⟨w.heap.size, 1, none⟩ = some (.slice a1 k1 c1) ∧ w'.cell? ⟨w1.heap.size, 0, none⟩ = some (.bool m1) ∧ w'.cell? ⟨w1.heap.size, 1, none⟩ = some (.slice d1 l1 e1) ∧ Below V.heap.size V w' ∧ V.heap.size ≤ w'.heap.size) :=
    Lib.hid (fun w' h => ⟨cell_to h x0 (World.block_lt_of_cell? V _ x0), cell_to h x1 (World.block_lt_of_cell? V _ x1), cell_to h y0 (by omega), cell_to h y1 (by omega), h, h.size⟩)
  have FR : Hid (∀ v w1, v = .agg #[.bool n1, .slice a1 k1 c1] → Below V.heap.size V w1 → Calls Tryz.prog 36 #[v] w1 fun e w' => ∃ v', e = .returned v' ∧ ZV w' v' x ∧ Below w1.heap.size w1 w') := Lib.hid (fun v w1 e h => by subst e; exact from_any2 _ x w1 (HA.out.below (below_of BV.out h)))
  have CU : Hid (∀ v u w1, u = .agg #[.bool m1, .slice d1 l1 e1] → ZV w1 v x → Below V.heap.size V w1 → Calls Tryz.prog 37 #[v, u] w1 fun e w' => ∃ v1 v2, e = .returned (.tuple #[v1, v2]) ∧ ZV w' v1 (qE x y) ∧ ZV w' v2 (rE x y) ∧ Below w1.heap.size w1 w') := Lib.hid (fun v u w1 e hz h => by subst e; exact euclid_any _ _ x y w1 hz (Z1.out.below h) HX.out HY.out H0.out)
  have hB0 := (Below.refl V.heap.size V).drew
  clear HX HY
  go_cut [8, 9] (fun s t wx => CutO V wx (qE x y) (rE x y) s t)
  case first =>
    clear x0 x1 y0 y1 hd
    go_region_held3 (fun w' => w'.cell? ⟨w.heap.size, 0, none⟩ = some (.bool n1) ∧ w'.cell? ⟨w.heap.size, 1, none⟩ = some (.slice a1 k1 c1) ∧ w'.cell? ⟨w1.heap.size, 0, none⟩ = some (.bool m1) ∧ w'.cell? ⟨w1.heap.size, 1, none⟩ = some (.slice d1 l1 e1) ∧ Below V.heap.size V w' ∧ V.heap.size ≤ w'.heap.size)
      (((try go_split_ands); refine STAY.out _ ?_; repeat (first | assumption | exact Below.refl _ _ | (with_reducible refine Below.drew ?_) | exact below_to (by assumption) (by assumption) | ((with_reducible refine Below.alloc ?_ ?_ _); rotate_left; (focus (first | omega | (simp; done) | (simp; omega)))) | ((with_reducible refine Below.setCell ?_ ?_ _); rotate_left; (focus (first | omega | (simp; done) | (simp; omega)))))))
      (first
      | (go_at_call 36; go_split_ands; (refine Calls.mono (FR.out _ _ ?_ (by assumption)) ?_; (exact rfl); rintro e w4 ⟨v4, rfl, z4, hb4⟩; obtain ⟨m4, d4, l4, e4, rfl⟩ := z4.shape; have hk4 := below_to hb4 (by assumption); have hz4 := hk4.size; obtain ⟨hc4, hf4⟩ := bcell hb4; have hy4 := hb4.size; (try simp only [sz_alloc, sz_set, sz_drew] at hy4); (try (have hq4 : V.heap.size < w4.heap.size := by omega)); (try (have hr4 : V.heap.size + 1 < w4.heap.size := by omega))))
      | (go_at_call 37; go_split_ands; (refine Calls.mono (CU.out _ _ _ ?_ ?_ (by assumption)) ?_; (exact rfl); (first | exact z4 | exact z4.below ((Below.refl _ _).alloc (Nat.le_refl _) _) | exact (z4.below ((Below.refl _ _).alloc (Nat.le_refl _) _)).below ((Below.refl _ _).alloc (Nat.le_refl _) _)); rintro e w5 ⟨v5, v6, rfl, z5, z6, hb5⟩; obtain ⟨m5, d5, l5, e5, rfl⟩ := z5.shape; obtain ⟨m6, d6, l6, e6, rfl⟩ := z6.shape; have hk5 := below_to hb5 (by assumption); have hz5 := hk5.size; obtain ⟨hc5, hf5⟩ := bcell hb5; have hy5 := hb5.size; (try simp only [sz_alloc, sz_set, sz_drew] at hy5); (try (have hq5 : V.heap.size < w5.heap.size := by omega)); (try (have hr5 : V.heap.size + 1 < w5.heap.size := by omega)); (try (have hs5 : w4.heap.size < w5.heap.size := by omega)); (try (have ht5 : w4.heap.size + 1 < w5.heap.size := by omega)))))
    all_goals
      (go_wp2_with fail
       go_meet
       clear hc4 hf4 hc5 hf5
       refine ⟨_, _, m5, d5, l5, e5, m6, d6, l6, e6, rfl, rfl, ?_, ?_, ?_, ?_, ?_⟩)
    all_goals
      repeat (first
       | (with_reducible assumption)
       | ((with_reducible refine blk_newz ?_); (first | omega | (simp only [sz_alloc, sz_set, sz_drew]; omega) | (focus (simp only [sz_alloc, sz_set, sz_drew]; done))))
       | ((with_reducible refine blk_ltz ?_ ?_); (first | omega | (simp only [sz_alloc, sz_set, sz_drew]; omega) | (focus (simp only [sz_alloc, sz_set, sz_drew]; done))))
       | (with_reducible refine blk_own2z ?_)
       | ((with_reducible refine blk_twoz ?_ ?_); (first | omega | (simp only [sz_alloc, sz_set, sz_drew]; omega) | (focus (simp only [sz_alloc, sz_set, sz_drew]; done))))
       | (with_reducible refine blk_drew ?_)
       | ((with_reducible refine blk_below hb5 ?_ ?_); (first | omega | (simp only [sz_alloc, sz_set, sz_drew]; omega) | (focus (simp only [sz_alloc, sz_set, sz_drew]; done))))
       | ((with_reducible refine blk_below hb4 ?_ ?_); (first | omega | (simp only [sz_alloc, sz_set, sz_drew]; omega) | (focus (simp only [sz_alloc, sz_set, sz_drew]; done))))
       | (with_reducible refine zv_allocz ?_)
       | (with_reducible refine zv_set2z ?_ ?_)
       | ((with_reducible refine Below.alloc ?_ ?_ _); rotate_left; (focus (first | omega | (simp; done) | (simp; omega))))
       | ((with_reducible refine Below.setCell ?_ ?_ _); rotate_left; (focus (first | omega | (simp; done) | (simp; omega))))
       | (first | omega | (simp only [sz_alloc, sz_set, sz_drew]; omega) | (focus (simp only [sz_alloc, sz_set, sz_drew]; done))))
  case rest =>
    obtain ⟨g, h, m5, d5, l5, e5, m6, d6, l6, e6, rfl, rfl, hG, hH, z5, z6, hbC⟩ := hcut
    obtain ⟨g0, g1, _, _, _⟩ := blk2 hG
    obtain ⟨k0, k1, _, _, _⟩ := blk2 hH
    have Z5 := Lib.hid z5; have Z6 := Lib.hid z6; have HBC := Lib.hid hbC
    have hl3 : w.heap.size + 1 + 1 < V.heap.size := by omega
    have hl4 : w.heap.size + 1 + 1 + 1 < V.heap.size := by omega
    have R3 := Lib.hid ((hbC.block _ hl3).trans H3V.out)
    have R4 := Lib.hid ((hbC.block _ hl4).trans H4V.out)
    have hszc := hbC.size
    clear x0 x1 y0 y1 STAY hB0 hG hH z5 z6 hbC FR CU hd H1V H3V H4V
    go_wp2_with fail
    refine (two_any _ _ (qE x y) (rE x y) _ Z5.out Z6.out).mono ?_
    rintro e w9 ⟨v8, v9, rfl, i1, i2, hb9⟩
    obtain ⟨m8, d8, l8, e8, rfl⟩ := i1.shape
    obtain ⟨m9, d9, l9, e9, rfl⟩ := i2.shape
    have x3 := (hb9.block _ (Nat.lt_of_lt_of_le hl3 hszc)).trans R3.out
    have x4 := (hb9.block _ (Nat.lt_of_lt_of_le hl4 hszc)).trans R4.out
    obtain ⟨c0, c1', f0, f1, _⟩ := blk2 x3
    obtain ⟨c3, c4, f3, f4, _⟩ := blk2 x4
    have X3 := Lib.hid x3; have X4 := Lib.hid x4; have I1 := Lib.hid i1; have I2 := Lib.hid i2
    have B9 := Lib.hid (below_of (below_of BV.out HBC.out) hb9)
    have hL3 : w.heap.size ≤ w.heap.size + 1 + 1 := by omega
    have hL4 : w.heap.size ≤ w.heap.size + 1 + 1 + 1 := by omega
    have hne : w.heap.size + 1 + 1 + 1 ≠ w.heap.size + 1 + 1 := by omega
    clear x3 x4 i1 i2 hb9 g0 g1 k0 k1
    go_wp2
    refine bodyPost_ret (v := .tuple #[.agg #[.bool m8, .slice d8 l8 e8], .agg #[.bool m9, .slice d9 l9 e9], .int .i64 (twE (qE x y) (rE x y))]) ?_ rfl ⟨_, _, rfl, intk_two I1.out X3.out X4.out hne, intk_two I2.out X3.out X4.out hne, set_below (set_below (set_below (set_below B9.out hL3) hL3) hL4) hL4⟩
    simp [results, Tryz.results10, go_sem, *]

set_option maxHeartbeats 4000000 in
set_option maxRecDepth 100000 in
theorem rdiv_zero (va vb : Value) (x : Int) (w : World) (ha : IntV w va x) (hb : IntV w vb 0) :
    Calls Tryz.prog 10 #[va, vb] w fun e w' => e = .returned (.tuple #[.agg #[.bool false, .slice none 0 0], .agg #[.bool false, .slice none 0 0], .int .i64 11]) ∧ Below w.heap.size w w' := by
  obtain ⟨n1, a1, k1, c1, rfl⟩ := ha.shape
  obtain ⟨n2, a2, k2, c2, rfl⟩ := hb.shape
  have HB := Lib.hid hb
  clear ha hb
  go_enter Tryz.func10, Tryz.ntmps10
  go_wp2_with fail
  obtain ⟨W, eW, h1, h2, h3, h4, bel, hsz⟩ := alloc4 w (Obj.cells #[Value.bool n1, Value.slice a1 k1 c1] 25) (Obj.cells #[Value.bool n2, Value.slice a2 k2 c2] 25) (Obj.cells #[Value.bool false, Value.slice none 0 0] 25) (Obj.cells #[Value.bool false, Value.slice none 0 0] 25)
  rw [eW]
  have H3 := Lib.hid h3; have H4 := Lib.hid h4
  have BW := Lib.hid bel
  clear eW h1 h2 h3 h4 bel hsz
  refine (from_any2 _ 0 W (HB.out.below BW.out)).mono ?_
  rintro e w1 ⟨v1, rfl, z1, hb1⟩
  obtain ⟨m1, d1, l1, e1, rfl⟩ := z1.shape
  have HL : Hid (l1 = 0) := Lib.hid (by
    obtain ⟨_, ys, _, _, ht, hv, rfl⟩ := z1.parts
    rcases Nat.eq_zero_or_pos ys.length with h | h
    · exact h
    · have h1 := val_ge_top (B := B16) ht h
      have h2 : 0 < B16 ^ (ys.length - 1) := Nat.pow_pos (by unfold B16; omega)
      have h3 : val B16 ys = 0 := hv
      omega)
  obtain ⟨V, eV, hV, belV, hszV⟩ := alloc1 w1 (Obj.cells #[Value.bool m1, Value.slice d1 l1 e1] 65)
  have BV := Lib.hid (below_of (below_of BW.out hb1) belV)
  obtain ⟨y0, y1, _, _, _⟩ := blk2 hV
  obtain ⟨k0, k1', g0, g1, _⟩ := blk2 (blk_below' belV (blk_below' hb1 H3.out))
  obtain ⟨k3, k4, g3, g4, _⟩ := blk2 (blk_below' belV (blk_below' hb1 H4.out))
  have hd : ((l1 : Int) == 0) = true := by rw [HL.out]; rfl
  have hL3 : w.heap.size ≤ w.heap.size + 1 + 1 := by omega
  have hL4 : w.heap.size ≤ w.heap.size + 1 + 1 + 1 := by omega
  clear z1 hV belV hb1
  go_wp2
  refine bodyPost_ret (v := .tuple #[.agg #[.bool false, .slice none 0 0], .agg #[.bool false, .slice none 0 0], .int .i64 11]) ?_ rfl ⟨rfl, set_below (set_below (set_below (set_below BV.out hL3) hL3) hL4) hL4⟩
  simp [results, Tryz.results10, go_sem, *]

theorem divI_all (va vb : Value) (x y : Int) (w : World) (ha : IntV w va x) (hb : IntV w vb y) :
    Calls Tryz.prog 9 #[va, vb] w fun e w' => ∃ v1 v2, e = .returned (.tuple #[v1, v2, .int .i64 (ezE x y)]) ∧ IntK w' v1 (ezQ x y) ∧ IntK w' v2 (ezR x y) ∧ Below w.heap.size w w' := by
  by_cases h0 : y = 0
  · subst h0
    refine (divmodI_zero va vb x w ha hb).mono ?_
    rintro e w' ⟨rfl, hb'⟩
    exact ⟨_, _, by rw [ezE, if_pos rfl], by rw [ezQ, if_pos rfl]; exact intk_zero _, by rw [ezR, if_pos rfl]; exact intk_zero _, hb'⟩
  · rw [ezE, ezQ, ezR, if_neg h0, if_neg h0, if_neg h0]
    exact divI_full va vb x y w ha hb h0
theorem rdiv_all (va vb : Value) (x y : Int) (w : World) (ha : IntV w va x) (hb : IntV w vb y) :
    Calls Tryz.prog 10 #[va, vb] w fun e w' => ∃ v1 v2, e = .returned (.tuple #[v1, v2, .int .i64 (ezE x y)]) ∧ IntK w' v1 (ezQ x y) ∧ IntK w' v2 (ezR x y) ∧ Below w.heap.size w w' := by
  by_cases h0 : y = 0
  · subst h0
    refine (rdiv_zero va vb x w ha hb).mono ?_
    rintro e w' ⟨rfl, hb'⟩
    exact ⟨_, _, by rw [ezE, if_pos rfl], by rw [ezQ, if_pos rfl]; exact intk_zero _, by rw [ezR, if_pos rfl]; exact intk_zero _, hb'⟩
  · rw [ezE, ezQ, ezR, if_neg h0, if_neg h0, if_neg h0]
    exact rdiv_full va vb x y w ha hb h0
end Go.Proofs.YtkccjddmmjdceaaGreatDoor
