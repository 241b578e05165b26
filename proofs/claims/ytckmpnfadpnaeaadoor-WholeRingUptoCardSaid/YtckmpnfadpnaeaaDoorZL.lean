/- Package whole: answer. -/
import Derived.Test.YtckmpnfadpnaeaaDoorZK
set_option linter.unusedVariables false
set_option linter.unusedSimpArgs false
namespace Go.Proofs.YtckmpnfadpnaeaaDoor
open Go.RowKit Mth

theorem limbs_same (ao : Option Addr) (n c : Nat) (w : World) : Calls Tryd.prog 38 #[.slice ao n c] w fun e w' => e = .returned (.slice ao n c) ∧ w' = w := (limbs_is ao n c w).mono fun _ _ ⟨h1, h2⟩ => ⟨h1, h2.symm⟩
theorem Ow.long {w : World} {base n k c : Nat} {ao : Option Addr} (h : Ow w base (.slice ao k c) n) : 4096 < k ↔ Big ≤ n := by
  obtain ⟨xs, h1, h2, h3, h4⟩ := h.sl
  obtain ⟨ao', c', e, _⟩ := h1
  simp only [Value.slice.injEq] at e
  obtain ⟨_, rfl, _⟩ := e
  rw [← h4, ← long_iff h2, trimL_of_top h3]

set_option maxHeartbeats 1000000 in
set_option maxRecDepth 100000 in
theorem answer_number (base : Nat) (v : Value) (z : Int) (w : World) (h : NuC w base v z) (hbase : base ≤ w.heap.size) :
    Calls Tryd.prog 44 #[v] w fun e w' => ∃ v', e = .returned (.tuple #[v', .int .i64 (zE z)]) ∧ IntC w' base v' (zN z) ∧ Below w.heap.size w w' := by
  obtain ⟨u, rfl, ho⟩ := h
  obtain ⟨ao, k, c, rfl⟩ := ho.shape
  have hl := ho.long
  have hz := ho.zero
  have HO := Lib.hid ho
  clear ho
  by_cases h1 : 4096 < k
  · have E := Lib.hid (z_big (hl.1 h1))
    have hd : decide ((4096 : Int) < (k : Int)) = true := decide_eq_true (by omega)
    clear hl hz
    go_enter Tryd.func44, Tryd.ntmps44
    go_wp2_with fail
    refine (long_is _ _ _ _).mono ?_
    rintro e w' ⟨rfl, rfl⟩
    go_wp2
    rw [E.out.1, E.out.2]
    refine bodyPost_ret (v := .tuple #[.agg #[.bool false, .slice none 0 0], .int .i64 5]) ?_ rfl ⟨_, rfl, ⟨_, rfl, ow_nil _ _⟩, ((Below.refl _ _).alloc (Nat.le_refl _) _).alloc (by simp) _⟩
    simp [results, Tryd.results44, go_sem]
  · have E := Lib.hid (z_fine (Nat.lt_of_not_le fun h => h1 (hl.2 h)))
    have hd : decide ((4096 : Int) < (k : Int)) = false := decide_eq_false (by omega)
    by_cases h0 : k = 0
    · have hd0 : ((k : Int) == 0) = true := by rw [h0]; rfl
      have Z0 : Hid (z = 0) := Lib.hid (by have := hz.1 h0; omega)
      clear hl hz h0 h1
      go_enter Tryd.func44, Tryd.ntmps44
      go_wp2_with fail
      refine (long_is _ _ _ _).mono ?_
      rintro e w' ⟨rfl, rfl⟩
      go_wp2_with fail
      refine (zero_is _ _ _ _).mono ?_
      rintro e w' ⟨rfl, rfl⟩
      go_wp2
      rw [E.out.1, E.out.2]
      have z0 := Z0.out
      subst z0
      refine bodyPost_ret (v := .tuple #[.agg #[.bool false, .slice none 0 0], .int .i64 0]) ?_ rfl ⟨_, rfl, ⟨_, rfl, ow_nil _ _⟩, ((Below.refl _ _).alloc (Nat.le_refl _) _).alloc (by simp) _⟩
      simp [results, Tryd.results44, go_sem]
    · have hd0 : ((k : Int) == 0) = false := by rw [beq_eq_false_iff_ne]; omega
      clear hl hz h0 h1
      go_enter Tryd.func44, Tryd.ntmps44
      go_wp2_with fail
      refine (long_is _ _ _ _).mono ?_
      rintro e w' ⟨rfl, rfl⟩
      go_wp2_with fail
      refine (zero_is _ _ _ _).mono ?_
      rintro e w' ⟨rfl, rfl⟩
      go_wp2
      obtain ⟨W, eW, b1, b2, bel, hsz⟩ := alloc2 w (Obj.cells #[Value.slice ao k c, Value.bool (sgn z)] 54) (Obj.cells #[Value.bool false, Value.slice none 0 0] 25)
      rw [eW]
      obtain ⟨c0, c1, _, _, _⟩ := blk2 b1
      obtain ⟨k0, k1, g0, g1, _⟩ := blk2 b2
      have H2 := Lib.hid b2
      clear eW b1 b2
      go_still_tail 5, (by kernel_rfl)
      still_call (limbs_same _ _ _ _)
      repeat still_step
      refine wpStill_nil ?_
      go_wp2
      rw [E.out.1, E.out.2]
      refine bodyPost_ret (v := .tuple #[.agg #[.bool (sgn z), .slice ao k c], .int .i64 0]) ?_ rfl ⟨_, rfl, ⟨_, rfl, ?_⟩, (bel.drew.setCell (p := ⟨w.heap.size + 1, 0, none⟩) (Nat.le_add_right _ _) _).setCell (p := ⟨w.heap.size + 1, 1, none⟩) (Nat.le_add_right _ _) _⟩
      · simp [results, Tryd.results44, go_sem, *]
      · exact Ow.away2 (HO.out.below bel.drew) (w := W.drew) H2.out (by decide)
end Go.Proofs.YtckmpnfadpnaeaaDoor
