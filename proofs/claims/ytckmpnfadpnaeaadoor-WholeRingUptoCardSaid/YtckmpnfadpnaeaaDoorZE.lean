/- Package whole: amounts compared; Norm, Neg, Abs, Sign, Of. -/
import Derived.Test.YtckmpnfadpnaeaaDoorZB
set_option linter.unusedVariables false
set_option linter.unusedSimpArgs false
namespace Go.Proofs.YtckmpnfadpnaeaaDoor
open Go.RowKit Mth

theorem alloc4 (w : World) (o1 o2 o3 o4 : Obj) : ∃ W, (((w.alloc o1).alloc o2).alloc o3).alloc o4 = W ∧ W.heap[w.heap.size]? = some o1 ∧ W.heap[w.heap.size + 1]? = some o2 ∧ W.heap[w.heap.size + 2]? = some o3 ∧ W.heap[w.heap.size + 3]? = some o4 ∧ Below w.heap.size w W ∧ w.heap.size + 3 < W.heap.size := by
  obtain ⟨W, e, h1, h2, h3, h4, h5⟩ := alloc3 w o1 o2 o3
  have hz : W.heap.size = w.heap.size + 3 := by rw [← e]; simp
  rw [e]
  have hb : Below W.heap.size W (W.alloc o4) := (Below.refl _ _).alloc (Nat.le_refl _) _
  refine ⟨_, rfl, (hb.block _ (by omega)).trans h1, (hb.block _ (by omega)).trans h2, (hb.block _ (by omega)).trans h3, ?_, h4.trans (hb.mono h4.size), by simp; omega⟩
  have h := heap_alloc_new W o4
  rwa [hz] at h
theorem wcmp_any (u v : Value) (m n : Nat) (w : World) (h1 : Num w u m) (h2 : Num w v n) (c : Int) (hc : cmp3 m n = c) : Calls Tryd.prog 56 #[u, v] w fun e w' => e = .returned (.int .i64 c) ∧ Below w.heap.size w w' := by
  have C := Lib.hid (cmp_nm h1.nm h2.nm c hc)
  obtain ⟨xs, s1, _⟩ := h1
  obtain ⟨ys, s2, _⟩ := h2
  obtain ⟨a1, c1, rfl⟩ := s1.shape
  obtain ⟨a2, c2, rfl⟩ := s2.shape
  clear s1 s2 hc
  go_enter Tryd.func56, Tryd.ntmps56
  go_wp2_with fail
  refine (limbs_is _ _ _ _).mono ?_
  rintro e w' ⟨rfl, rfl⟩
  go_wp2_with fail
  refine (limbs_is _ _ _ _).mono ?_
  rintro e w' ⟨rfl, rfl⟩
  go_wp2_with fail
  refine C.out.mono ?_
  rintro e w' ⟨rfl, hb⟩
  go_wp2
  go_ret
  exact ⟨rfl, hb⟩
/-- the beginning of a call on one Int: the box and the result's cell -/
theorem norm_any (v : Value) (z : Int) (w : World) (h : IntV w v z) : Calls Tryd.prog 31 #[v] w fun e w' => ∃ v', e = .returned v' ∧ IntC w' w.heap.size v' z ∧ Below w.heap.size w w' := by
  obtain ⟨n, ao, k, c, t, rfl, N, R⟩ := h.rd
  have N := Lib.hid N; have R := Lib.hid R
  clear h
  go_enter Tryd.func31, Tryd.ntmps31
  go_wp2_with fail
  obtain ⟨W, eW, h1, h2, bel, hsz⟩ := alloc2 w (Obj.cells #[Value.bool n, Value.slice ao k c] 25) (Obj.cells #[Value.bool false, Value.slice none 0 0] 25)
  rw [eW]
  have H2 := Lib.hid h2
  clear eW h1 h2
  refine (R.out W bel).mono ?_
  rintro e w1 ⟨rfl, hb1, _⟩
  go_wp2_with fail
  have B1 := below_of bel hb1
  refine (copied_any _ z w1 (N.out.below B1)).mono ?_
  rintro e w2 ⟨v2, rfl, hi, hb2⟩
  have hR := ((hb1.trans (hb2.mono hb1.size)).block _ hsz).trans H2.out
  obtain ⟨n2, a2, k2, c2, rfl⟩ := hi.shape
  obtain ⟨k0, k1, g0, g1, hlt⟩ := blk2 hR
  have hs1 : w.heap.size + 1 < w1.heap.size := size_to hb1 hsz
  go_wp2
  refine bodyPost_ret (v := .agg #[.bool n2, .slice a2 k2 c2]) ?_ rfl ⟨_, rfl, ((hi.far hs1).far hs1).mono B1.size, ?_⟩
  · simp [results, Tryd.results31, go_sem, *]
  · exact ((below_of B1 hb2).setCell (by simp) _).setCell (by simp) _
end Go.Proofs.YtckmpnfadpnaeaaDoor
