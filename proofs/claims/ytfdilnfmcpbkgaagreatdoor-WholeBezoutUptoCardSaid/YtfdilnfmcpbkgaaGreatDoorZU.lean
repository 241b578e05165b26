/- tribunallaw02.awake: the chapter's first example. -/
import Derived.Test.YtfdilnfmcpbkgaaGreatDoorZQ
import Derived.Test.YtfdilnfmcpbkgaaGreatDoorZR
set_option linter.unusedVariables false
set_option linter.unusedSimpArgs false
namespace Go.Proofs.YtfdilnfmcpbkgaaGreatDoor
open Go.RowKit Mth

/-- a canonical Int of a number that is not too long, as any Int -/
theorem IntK.intV {w : World} {v : Value} {z : Int} (h : IntK w v z) (hz : z.natAbs < Big) : IntV w v z := by
  obtain ⟨u, rfl, xs, s, l, t, e⟩ := h
  refine ⟨_, u, xs, rfl, s, l, ?_, by rw [e, sg_sgn]⟩
  have := length_of_val B64_pos t maxL (by rw [e]; exact hz)
  unfold maxL at this; omega
theorem small_big {n : Nat} (h : n < 18446744073709551616) : n < Big := by
  have h1 : B64 ^ 1 ≤ B64 ^ maxL := Nat.pow_le_pow_right (by have := B64_pos; omega) (by unfold maxL; omega)
  have h2 : Big = B64 ^ maxL := rfl
  have h3 : (18446744073709551616 : Nat) = B64 ^ 1 := by unfold B64; rfl
  omega
theorem seven : qE (-7) 2 = -4 ∧ rE (-7) 2 = 1 := by decide
theorem zS_four : zS (-4) = [45, 52] ∧ zE (-4) = 0 := by
  have hb : (-4 : Int).natAbs < Big := small_big (by omega)
  exact ⟨by rw [zS_neg hb (by omega)]; rfl, (z_fine hb).2⟩
theorem zS_one : zS 1 = [49] ∧ zE 1 = 0 := by
  have hb : (1 : Int).natAbs < Big := small_big (by omega)
  exact ⟨by rw [zS_pos hb (by omega)]; rfl, (z_fine hb).2⟩

set_option maxHeartbeats 2000000 in
set_option maxRecDepth 100000 in
theorem awake_any (w : World) (hz : TZ10 w) : Calls Tryz.prog 9 #[] w fun e w' => e = .returned (.bool true) ∧ Below w.heap.size w w' := by
  have HZ := Lib.hid hz
  have HB7 : Hid ((-7 : Int).natAbs < Big) := Lib.hid (small_big (by omega))
  have HB2 : Hid ((2 : Int).natAbs < Big) := Lib.hid (small_big (by omega))
  have HB4 : Hid ((-4 : Int).natAbs < Big) := Lib.hid (small_big (by omega))
  have HB1 : Hid ((1 : Int).natAbs < Big) := Lib.hid (small_big (by omega))
  clear hz
  go_enter Tryz.func9, Tryz.ntmps9
  go_wp2_with fail
  refine (ofI_any (-7) _ (by omega) (by omega)).mono ?_
  rintro e w1 ⟨v1, rfl, i1, b1⟩
  obtain ⟨n1, a1, k1, c1, rfl⟩ := i1.shape
  have I1 := Lib.hid (i1.intV HB7.out); have B1 := Lib.hid b1
  clear i1 b1
  go_wp2_with fail
  refine (ofI_any 2 _ (by omega) (by omega)).mono ?_
  rintro e w2 ⟨v2, rfl, i2, b2⟩
  obtain ⟨n2, a2, k2, c2, rfl⟩ := i2.shape
  have I1' := Lib.hid (I1.out.below b2); have I2 := Lib.hid (i2.intV HB2.out); have B2 := Lib.hid (below_of B1.out b2)
  clear i2 b2 I1 B1
  go_wp2_with fail
  refine (divmodI_any _ _ (-7) 2 w2 I1'.out I2.out HB7.out HB2.out (by omega)).mono ?_
  rintro e w3 ⟨v3, v4, rfl, i3, i4, b3⟩
  rw [seven.1] at i3
  rw [seven.2] at i4
  obtain ⟨n3, a3, k3, c3, rfl⟩ := i3.shape
  obtain ⟨n4, a4, k4, c4, rfl⟩ := i4.shape
  have I3 := Lib.hid (i3.intV HB4.out); have I4 := Lib.hid (i4.intV HB1.out); have B3 := Lib.hid (below_of B2.out b3)
  clear i3 i4 b3 I1' I2 B2
  go_wp2_with fail
  obtain ⟨W, eW, h1, h2, bel, hsz⟩ := alloc2 w3 (Obj.cells #[Value.bool n3, Value.slice a3 k3 c3] 25) (Obj.cells #[Value.bool n4, Value.slice a4 k4 c4] 25)
  rw [eW]
  clear eW
  obtain ⟨p0, p1, _, _, hl1⟩ := blk2 h1
  obtain ⟨q0, q1, _, _, hl2⟩ := blk2 h2
  have BW := Lib.hid (below_of B3.out bel)
  have J3 := Lib.hid (I3.out.below bel); have J4 := Lib.hid (I4.out.below bel)
  clear h1 h2 I3 I4
  refine (printI_any _ (-4) W J3.out (HZ.out.below BW.out)).mono ?_
  rintro e w4 ⟨rfl, b4⟩
  rw [zS_four.1, zS_four.2]
  have p0' := cell_to b4 p0 hl1; have p1' := cell_to b4 p1 hl1; have q0' := cell_to b4 q0 hl2; have q1' := cell_to b4 q1 hl2
  have hl1' := size_to b4 hl1; have hl2' := size_to b4 hl2
  have B4 := Lib.hid (below_of BW.out b4); have K3 := Lib.hid (J3.out.below b4); have K4 := Lib.hid (J4.out.below b4)
  clear p0 p1 q0 q1 b4 J3 J4 BW
  go_wp2_with fail
  refine (printI_any _ 1 w4 K4.out (HZ.out.below B4.out)).mono ?_
  rintro e w5 ⟨rfl, b5⟩
  rw [zS_one.1, zS_one.2]
  have p0 := cell_to b5 p0' hl1'; have p1 := cell_to b5 p1' hl1'
  have B5 := Lib.hid (below_of B4.out b5); have L3 := Lib.hid (K3.out.below b5)
  clear p0' p1' q0' q1' b5 K3 K4 B4
  go_wp2_with fail
  refine (sign_any _ (-4) w5 L3.out).mono ?_
  rintro e w6 ⟨rfl, b6⟩
  have hz4 : zcmp (-4) 0 = -1 := rfl
  rw [hz4]
  have B6 := Lib.hid (below_of B5.out b6)
  clear b6 hz4
  go_wp2
  go_ret
  exact ⟨rfl, B6.out⟩
end Go.Proofs.YtfdilnfmcpbkgaaGreatDoor
