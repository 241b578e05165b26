/- Package whole: Parse. -/
import Derived.Test.YthgmebnihpjnoaaGreatDoorShelf
import Derived.Test.YthgmebnihpjnoaaGreatDoorPA
import Derived.Test.YthgmebnihpjnoaaGreatDoorBackMath
import Derived.Test.YthgmebnihpjnoaaGreatDoorZB4
set_option linter.unusedVariables false
set_option linter.unusedSimpArgs false
namespace Go.Proofs.YthgmebnihpjnoaaGreatDoor
open Go.RowKit Mth

set_option maxHeartbeats 1000000 in
set_option maxRecDepth 100000 in
theorem answerK_any (v : Value) (z : Int) (w : World) (h : NuV w v z) :
    Calls Tryz.prog 99 #[v] w fun e w' => ∃ v', e = .returned (.tuple #[v', .int .i64 (zE z)]) ∧ IntK w' v' (zN z) ∧ Below w.heap.size w w' := by
  obtain ⟨u, rfl, ho⟩ := h
  obtain ⟨ao, k, c, rfl⟩ : ∃ ao k c, u = .slice ao k c := by
    obtain ⟨ys, h1, _⟩ := ho
    obtain ⟨ao, c, e⟩ := h1.shape
    exact ⟨_, _, _, e⟩
  have hl := num_long ho
  have hz := ho.zero
  have HO := Lib.hid ho
  clear ho
  by_cases h1 : 4096 < k
  · have E := Lib.hid (z_big (hl.1 h1))
    have hd : decide ((4096 : Int) < (k : Int)) = true := decide_eq_true (by omega)
    clear hl hz
    go_enter Tryz.func99, Tryz.ntmps99
    go_wp2_with fail
    refine (long_is _ _ _ _).mono ?_
    rintro e w' ⟨rfl, rfl⟩
    go_wp2
    rw [E.out.1, E.out.2]
    refine bodyPost_ret (v := .tuple #[.agg #[.bool false, .slice none 0 0], .int .i64 5]) ?_ rfl ⟨_, rfl, intk_zero _, ((Below.refl _ _).alloc (Nat.le_refl _) _).alloc (by simp) _⟩
    simp [results, Tryz.results99, go_sem]
  · have E := Lib.hid (z_fine (Nat.lt_of_not_le fun h => h1 (hl.2 h)))
    have hd : decide ((4096 : Int) < (k : Int)) = false := decide_eq_false (by omega)
    by_cases h0 : k = 0
    · have hd0 : ((k : Int) == 0) = true := by rw [h0]; rfl
      have Z0 : Hid (z = 0) := Lib.hid (by have := hz.1 h0; omega)
      clear hl hz h0 h1
      go_enter Tryz.func99, Tryz.ntmps99
      go_wp2_with fail
      refine (long_is _ _ _ _).mono ?_
      rintro e w' ⟨rfl, rfl⟩
      go_wp2_with fail
      refine (zero_is _ _ _ _).mono ?_
      rintro e w' ⟨rfl, rfl⟩
      go_wp2
      rw [E.out.1, E.out.2]
      have z0 := Z0.out
      subst z0
      refine bodyPost_ret (v := .tuple #[.agg #[.bool false, .slice none 0 0], .int .i64 0]) ?_ rfl ⟨_, rfl, intk_zero _, ((Below.refl _ _).alloc (Nat.le_refl _) _).alloc (by simp) _⟩
      simp [results, Tryz.results99, go_sem]
    · have hd0 : ((k : Int) == 0) = false := by rw [beq_eq_false_iff_ne]; omega
      clear hl hz h0 h1
      go_enter Tryz.func99, Tryz.ntmps99
      go_wp2_with fail
      refine (long_is _ _ _ _).mono ?_
      rintro e w' ⟨rfl, rfl⟩
      go_wp2_with fail
      refine (zero_is _ _ _ _).mono ?_
      rintro e w' ⟨rfl, rfl⟩
      go_wp2
      obtain ⟨W, eW, b1, b2, bel, hsz⟩ := alloc2 w (Obj.cells #[Value.slice ao k c, Value.bool (sgn z)] 110) (Obj.cells #[Value.bool false, Value.slice none 0 0] 25)
      rw [eW]
      obtain ⟨c0, c1, _, _, _⟩ := blk2 b1
      obtain ⟨k0, k1, g0, g1, _⟩ := blk2 b2
      have H2 := Lib.hid b2
      clear eW b1 b2
      go_still_tail 5, (by kernel_rfl)
      still_call (limbs_same _ _ _ _)
      repeat still_step
      refine wpStill_nil ?_
      go_wp2
      rw [E.out.1, E.out.2]
      refine bodyPost_ret (v := .tuple #[.agg #[.bool (sgn z), .slice ao k c], .int .i64 0]) ?_ rfl ⟨_, rfl, ?_, (bel.drew.setCell (p := ⟨w.heap.size + 1, 0, none⟩) (Nat.le_add_right _ _) _).setCell (p := ⟨w.heap.size + 1, 1, none⟩) (Nat.le_add_right _ _) _⟩
      · simp [results, Tryz.results99, go_sem, *]
      · exact IntK.far (w := W.drew) ⟨_, rfl, HO.out.below bel.drew⟩ H2.out

theorem sgn_cut {w : World} {n k c : Nat} {ao : Option Addr} (h : Num w (.slice ao k c) n) (g : Bool) : (g && !((k : Int) == 0)) = sgn (sg g n) := by
  by_cases hk : k = 0
  · rw [h.zero.1 hk, sgn_sg0, hk]; cases g <;> rfl
  · have hn : 0 < n := Nat.pos_of_ne_zero (fun e => hk (h.zero.2 e))
    have : ((k : Int) == 0) = false := by rw [beq_eq_false_iff_ne]; omega
    rw [sgn_sg hn, this]; cases g <;> rfl

set_option maxHeartbeats 1000000 in
set_option maxRecDepth 100000 in
/-- what is read where nat.Parse reads digits that are not too long -/
theorem parse_ok (s d : ByteArray) (g : Bool) (N : Nat) (w : World) (hd : (⟨(Lib.trimPrefix s.data.toList [45]).toArray⟩ : ByteArray) = d) (hg : Lib.hasPrefix s.data.toList [45] = g) (hl : d.size ≤ 1048576) (HK : ParIs d 10 N 0) (h0 : N < Big) :
    Calls Tryz.prog 77 #[.string s] w fun e w' => ∃ v', e = .returned (.tuple #[v', .int .i64 0]) ∧ IntK w' v' (sg g N) ∧ Below w.heap.size w w' := by
  have CP : Hid (∀ w1, Calls Tryz.prog 107 #[.string s, .string ⟨#[45]⟩] w1 fun e w' => e = .returned (.tuple #[.string d, .bool g]) ∧ w' = w1) := Lib.hid (fun w1 => by
    have := Tryz.strings_CutPrefix s ⟨#[45]⟩ w1
    rw [show (⟨#[45]⟩ : ByteArray).data.toList = [45] from rfl, hd, hg] at this
    exact this)
  have P : Hid (∀ w1, Calls Tryz.prog 78 #[.string d, .int .i64 10] w1 fun e w' => ∃ v', e = .returned (.tuple #[v', .int .i64 0]) ∧ Num w' v' N ∧ Below w1.heap.size w1 w') := Lib.hid (fun w1 => parse_any d 10 N 0 w1 hl HK (by omega))
  have E := Lib.hid (z_fine (z := sg g N) (by rw [natAbs_sg]; exact h0))
  clear hd hg hl HK h0
  go_enter Tryz.func77, Tryz.ntmps77
  go_wp2_with fail
  obtain ⟨W, eW, b1, bel, hsz⟩ := alloc1 w (Obj.cells #[Value.bool false, Value.slice none 0 0] 25)
  rw [eW]
  have H1 := Lib.hid b1
  clear eW b1
  refine (CP.out W).mono ?_
  rintro e w1 ⟨rfl, rfl⟩
  go_wp2_with fail
  refine (P.out _).mono ?_
  rintro e w2 ⟨v2, rfl, hn2, hb2⟩
  have hR2 := Lib.hid ((hb2.block _ hsz).trans H1.out)
  have B2 := Lib.hid (below_of bel hb2)
  have hsz2 := Lib.hid (Nat.lt_of_lt_of_le hsz hb2.size)
  obtain ⟨ao, k, c, rfl⟩ : ∃ ao k c, v2 = .slice ao k c := by
    obtain ⟨ys, h1, _⟩ := hn2
    obtain ⟨ao, c, e⟩ := h1.shape
    exact ⟨_, _, _, e⟩
  have SG := Lib.hid (sgn_cut hn2 g)
  have N2 := Lib.hid hn2
  clear hn2 hb2 hsz bel
  go_wp2_with fail
  refine (signed_is _ _ _ _ _).mono ?_
  rintro e w3 ⟨rfl, hb3, _⟩
  rw [SG.out]
  have hR3 := Lib.hid ((hb3.block _ hsz2.out).trans hR2.out)
  have hsz3 := Lib.hid (Nat.lt_of_lt_of_le hsz2.out hb3.size)
  have B3 := Lib.hid (below_of B2.out hb3)
  have N3 := Lib.hid (N2.out.below hb3)
  clear hb3
  go_wp2_with fail
  refine (answerK_any _ (sg g N) w3 ⟨_, rfl, by rw [natAbs_sg]; exact N3.out⟩).mono ?_
  rintro e w4 ⟨v4, rfl, hi4, hb4⟩
  have hR4 := (hb4.block _ hsz3.out).trans hR3.out
  have B4 := below_of B3.out hb4
  rw [E.out.1] at hi4
  rw [E.out.2]
  obtain ⟨b5, a5, k5, c5, rfl⟩ := hi4.shape
  obtain ⟨k0, k1, g0, g1, _⟩ := blk2 hR4
  have H4 := Lib.hid (hi4.far (y0 := .bool b5) (y1 := .slice a5 k5 c5) hR4)
  clear hi4 hb4 hR4
  go_wp2
  refine bodyPost_ret (v := .tuple #[.agg #[.bool b5, .slice a5 k5 c5], .int .i64 0]) ?_ rfl ⟨_, rfl, H4.out, (B4.setCell (p := ⟨w.heap.size, 0, none⟩) (Nat.le_refl _) _).setCell (p := ⟨w.heap.size, 1, none⟩) (Nat.le_refl _) _⟩
  simp [results, Tryz.results77, go_sem, *]

end Go.Proofs.YthgmebnihpjnoaaGreatDoor
