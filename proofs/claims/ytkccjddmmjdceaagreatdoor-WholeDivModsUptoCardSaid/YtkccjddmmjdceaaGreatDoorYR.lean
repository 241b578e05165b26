/- tribunalref02: two. -/
import Derived.Test.YtkccjddmmjdceaaGreatDoorYQ
import Derived.Test.YtkccjddmmjdceaaGreatDoorZT
import Derived.Test.YtkccjddmmjdceaaGreatDoorHF
import Derived.Deep.RegionWith
set_option linter.unusedVariables false
set_option linter.unusedSimpArgs false
namespace Go.Proofs.YtkccjddmmjdceaaGreatDoor
open Go.RowKit Mth

theorem intk_two {w : World} {R S : Nat} {v x0 x1 y0 y1 : Value} {z : Int} {a b : Bool} {ao bo : Option Addr} {n c m d : Nat} (h : IntK w v z) (hR : w.heap[R]? = some (.cells #[.bool a, .slice ao n c] 25 (0, 0))) (hS : w.heap[S]? = some (.cells #[.bool b, .slice bo m d] 25 (0, 0))) (hne : S ≠ R) :
    IntK ((((w.setCell ⟨R, 0, none⟩ x0).setCell ⟨R, 1, none⟩ x1).setCell ⟨S, 0, none⟩ y0).setCell ⟨S, 1, none⟩ y1) v z := by
  refine (h.far hR (y0 := x0) (y1 := x1)).far (R := S) (T := 25) (x := b) (ao := bo) (n := m) (c := d) ?_
  exact blk_two hS hne

set_option maxHeartbeats 4000000 in
set_option maxRecDepth 100000 in
/-- two answers: both, or too long -/
theorem two_any (va vb : Value) (x y : Int) (w : World) (ha : ZV w va x) (hb : ZV w vb y) :
    Calls Tryz.prog 38 #[va, vb] w fun e w' => ∃ v1 v2, e = .returned (.tuple #[v1, v2, .int .i64 (twE x y)]) ∧ IntK w' v1 (twZ x y x) ∧ IntK w' v2 (twZ x y y) ∧ Below w.heap.size w w' := by
  obtain ⟨n1, a1, k1, c1, rfl⟩ := ha.shape
  obtain ⟨n2, a2, k2, c2, rfl⟩ := hb.shape
  have HA := Lib.hid ha; have HB := Lib.hid hb
  clear ha hb
  go_enter Tryz.func38, Tryz.ntmps38
  go_wp2_with fail
  obtain ⟨W, eW, h1, h2, h3, h4, bel, hsz⟩ := alloc4 w (Obj.cells #[Value.bool n1, Value.slice a1 k1 c1] 65) (Obj.cells #[Value.bool n2, Value.slice a2 k2 c2] 65) (Obj.cells #[Value.bool false, Value.slice none 0 0] 25) (Obj.cells #[Value.bool false, Value.slice none 0 0] 25)
  rw [eW]
  have H2 := Lib.hid h2
  have H3 : Hid (W.heap[w.heap.size + 1 + 1]? = _) := Lib.hid h3
  have H4 : Hid (W.heap[w.heap.size + 1 + 1 + 1]? = _) := Lib.hid h4
  have B := Lib.hid bel; have HSZ := Lib.hid hsz
  clear eW h1 h2 h3 h4 bel hsz
  refine (out_any2 _ x W (HA.out.below B.out)).mono ?_
  rintro e w1 ⟨v1, rfl, i1, hb1⟩
  obtain ⟨m1, d1', l1, e1, rfl⟩ := i1.shape
  have hq1 := blk_below' (nuc_new w1 (Obj.cells #[Value.bool m1, Value.slice d1' l1 e1] 25)) (blk_below' hb1 H2.out)
  obtain ⟨p0, p1, _, _, _⟩ := blk2 hq1
  have I1 := Lib.hid i1
  have B1 := Lib.hid (below_of B.out hb1)
  have H31 := Lib.hid (blk_below' hb1 H3.out); have H41 := Lib.hid (blk_below' hb1 H4.out)
  have H4lt := Lib.hid (blk_below' hb1 H4.out)
  clear i1 hb1 hq1 H2 H3 H4
  go_wp2_with fail
  obtain ⟨V, eV, hV, belV, hszV⟩ := alloc1 w1 (Obj.cells #[Value.bool m1, Value.slice d1' l1 e1] 25)
  rw [eV]
  have BV := Lib.hid (below_of B1.out belV)
  have IV := Lib.hid (I1.out.below belV)
  have H32 := Lib.hid (blk_below' belV H31.out); have H42 := Lib.hid (blk_below' belV H41.out)
  have HV := Lib.hid hV
  clear eV hV belV p0 p1 I1 H31 H41
  refine (out_any2 _ y V (HB.out.below BV.out)).mono ?_
  rintro e w2 ⟨v2, rfl, i2, hb2⟩
  obtain ⟨m2, d2', l2, e2, rfl⟩ := i2.shape
  have I2 := Lib.hid i2
  have B2 := Lib.hid (below_of BV.out hb2)
  have J1 := Lib.hid (IV.out.below hb2)
  have hz2 := hb2.size
  obtain ⟨U, eU, hU9, bU, sU⟩ := alloc1 w2 (Obj.cells #[Value.bool m2, Value.slice d2' l2 e2] 25)
  have hR3 := blk_below' bU (blk_below' hb2 H32.out)
  have hR4 := blk_below' bU (blk_below' hb2 H42.out)
  have hRV := blk_below' bU (blk_below' hb2 HV.out)
  obtain ⟨r0, r1, f0, f1, _⟩ := blk2 hR3
  obtain ⟨s0, s1, g0, g1, _⟩ := blk2 hR4
  obtain ⟨t0, t1, _, _, _⟩ := blk2 hRV
  obtain ⟨u0, u1, _, _, _⟩ := blk2 hU9
  have HR3 := Lib.hid hR3; have HR4 := Lib.hid hR4
  have BF := Lib.hid (below_of B2.out bU)
  have JX := Lib.hid (J1.out.below bU); have JY := Lib.hid (I2.out.below bU)
  have hs1 := B1.out.size
  have hl1 : w.heap.size + 1 + 1 + 1 < w1.heap.size := (Array.getElem?_eq_some_iff.1 H4lt.out).1
  have hl2 : w1.heap.size < w2.heap.size := by omega
  have hne : w.heap.size + 1 + 1 + 1 ≠ w.heap.size + 1 + 1 := by omega
  have l3 : w.heap.size ≤ w.heap.size + 1 + 1 := by omega
  have l4 : w.heap.size ≤ w.heap.size + 1 + 1 + 1 := by omega
  have d1 : w.heap.size + 1 + 1 ≠ w1.heap.size := by omega
  have d2 : w1.heap.size ≠ w.heap.size + 1 + 1 := by omega
  have d3 : w.heap.size + 1 + 1 + 1 ≠ w1.heap.size := by omega
  have d4 : w1.heap.size ≠ w.heap.size + 1 + 1 + 1 := by omega
  have d5 : w.heap.size + 1 + 1 ≠ w2.heap.size := by omega
  have d6 : w2.heap.size ≠ w.heap.size + 1 + 1 := by omega
  have d7 : w.heap.size + 1 + 1 + 1 ≠ w2.heap.size := by omega
  have d8 : w2.heap.size ≠ w.heap.size + 1 + 1 + 1 := by omega
  clear i2 hb2 hR3 hR4 hRV hU9 H32 H42 HV bU hs1
  rcases zE_or x with ⟨zx, nx⟩ | ⟨zx, nx⟩
  · have E := Lib.hid (fun z => tw_big (x := x) (y := y) (.inl zx) z)
    rw [zx]
    clear zx nx
    go_wp2
    refine bodyPost_ret (v := .tuple #[.agg #[.bool false, .slice none 0 0], .agg #[.bool false, .slice none 0 0], .int .i64 5]) ?_ rfl ⟨_, _, by rw [(E.out 0).1], by rw [(E.out _).2]; exact intk_zero _, by rw [(E.out _).2]; exact intk_zero _, ((((BF.out.setCell (p := ⟨w.heap.size + 1 + 1, 0, none⟩) l3 _).setCell (p := ⟨w.heap.size + 1 + 1, 1, none⟩) l3 _).setCell (p := ⟨w.heap.size + 1 + 1 + 1, 0, none⟩) l4 _).setCell (p := ⟨w.heap.size + 1 + 1 + 1, 1, none⟩) l4 _)⟩
    simp [results, Tryz.results38, go_sem, *]
  · rcases zE_or y with ⟨zy, ny⟩ | ⟨zy, ny⟩
    · have E := Lib.hid (fun z => tw_big (x := x) (y := y) (.inr zy) z)
      rw [zx, zy]
      clear zx nx zy ny
      go_wp2
      refine bodyPost_ret (v := .tuple #[.agg #[.bool false, .slice none 0 0], .agg #[.bool false, .slice none 0 0], .int .i64 5]) ?_ rfl ⟨_, _, by rw [(E.out 0).1], by rw [(E.out _).2]; exact intk_zero _, by rw [(E.out _).2]; exact intk_zero _, ((((BF.out.setCell (p := ⟨w.heap.size + 1 + 1, 0, none⟩) l3 _).setCell (p := ⟨w.heap.size + 1 + 1, 1, none⟩) l3 _).setCell (p := ⟨w.heap.size + 1 + 1 + 1, 0, none⟩) l4 _).setCell (p := ⟨w.heap.size + 1 + 1 + 1, 1, none⟩) l4 _)⟩
      simp [results, Tryz.results38, go_sem, *]
    · have E := Lib.hid (fun z => tw_fine (x := x) (y := y) zx zy z)
      rw [nx] at JX
      rw [ny] at JY
      rw [zx, zy]
      clear zx nx zy ny
      go_wp2
      go_region_with fail
      go_ways
      all_goals
        go_wp2
        refine bodyPost_ret (v := .tuple #[.agg #[.bool m1, .slice d1' l1 e1], .agg #[.bool m2, .slice d2' l2 e2], .int .i64 0]) ?_ rfl ⟨_, _, by rw [(E.out 0).1], ?_, ?_, ((((BF.out.drew.setCell (p := ⟨w.heap.size + 1 + 1, 0, none⟩) l3 _).setCell (p := ⟨w.heap.size + 1 + 1, 1, none⟩) l3 _).setCell (p := ⟨w.heap.size + 1 + 1 + 1, 0, none⟩) l4 _).setCell (p := ⟨w.heap.size + 1 + 1 + 1, 1, none⟩) l4 _)⟩
        · simp [results, Tryz.results38, go_sem, *]
        · rw [(E.out _).2]; exact intk_two (w := World.drew _) JX.out HR3.out HR4.out hne
        · rw [(E.out _).2]; exact intk_two (w := World.drew _) JY.out HR3.out HR4.out hne
end Go.Proofs.YtkccjddmmjdceaaGreatDoor
