/- Package whole: Print. -/
import Derived.Test.YtfdilnfmcpbkgaaGreatDoorZ3
import Derived.Test.YtfdilnfmcpbkgaaGreatDoorTT
import Derived.Test.YtfdilnfmcpbkgaaGreatDoorBackMath
set_option linter.unusedVariables false
set_option linter.unusedSimpArgs false
namespace Go.Proofs.YtfdilnfmcpbkgaaGreatDoor
open Go.RowKit Mth

/-- a number's digits, with its sign -/
def zS (z : Int) : List Nat := if Big ≤ z.natAbs then [] else if z < 0 then 45 :: numeral 10 z.natAbs else numeral 10 z.natAbs
theorem zS_big {z : Int} (h : Big ≤ z.natAbs) : zS z = [] := if_pos h
theorem zS_neg {z : Int} (h : z.natAbs < Big) (hn : z < 0) : zS z = 45 :: numeral 10 z.natAbs := by unfold zS; rw [if_neg (by omega), if_pos hn]
theorem zS_pos {z : Int} (h : z.natAbs < Big) (hn : 0 ≤ z) : zS z = numeral 10 z.natAbs := by unfold zS; rw [if_neg (by omega), if_neg (by omega)]
theorem text_nm {w : World} {v : Value} {n : Nat} (h : Num w v n) (hz : TZ10 w) : Calls Tryz.prog 59 #[v, .int .i64 10] w fun e w' => e = .returned (.tuple #[.string ⟨(toBytes (txS 10 n)).toArray⟩, .int .i64 (txE 10 n)]) ∧ Below w.heap.size w w' := by
  obtain ⟨xs, s, l, _, rfl⟩ := h
  exact text10 v xs w s l hz
theorem minus_bytes (l : List Nat) : (⟨#[45]⟩ : ByteArray) ++ ⟨(toBytes l).toArray⟩ = ⟨(toBytes (45 :: l)).toArray⟩ := by
  apply ByteArray.ext
  simp [toBytes]
set_option maxHeartbeats 2000000 in
set_option maxRecDepth 100000 in
theorem printI_any (v : Value) (z : Int) (w : World) (h : IntV w v z) (hz10 : TZ10 w) : Calls Tryz.prog 35 #[v] w fun e w' => e = .returned (.tuple #[.string ⟨(toBytes (zS z)).toArray⟩, .int .i64 (zE z)]) ∧ Below w.heap.size w w' := by
  obtain ⟨n, ao, k, c, t, rfl, N', R'⟩ := h.rd
  have T : Hid (∀ w1, Below w.heap.size w w1 → Calls Tryz.prog 59 #[.slice ao t c, .int .i64 10] w1 fun e w' => e = .returned (.tuple #[.string ⟨(toBytes (txS 10 z.natAbs)).toArray⟩, .int .i64 (txE 10 z.natAbs)]) ∧ Below w1.heap.size w1 w') := Lib.hid (fun w1 hb => text_nm (N'.below hb).parts.2.2 (hz10.below hb))
  have R := Lib.hid R'
  clear h N' R' hz10
  go_enter Tryz.func35, Tryz.ntmps35
  go_wp2_with fail
  obtain ⟨W, eW, h1, bel, hsz⟩ := alloc1 w (Obj.cells #[Value.bool n, Value.slice ao k c] 25)
  rw [eW]
  clear eW h1
  refine (R.out W bel).mono ?_
  rintro e w1 ⟨rfl, hb1, hs1⟩
  clear hs1
  go_wp2_with fail
  obtain ⟨V, eV, hN, belV, hszV⟩ := alloc1 w1 (Obj.cells #[Value.slice ao t c, Value.bool (sgn z)] 49)
  rw [eV]
  clear eV
  obtain ⟨q0, q1, _, _, _⟩ := blk2 hN
  have BV := Lib.hid (below_of (below_of bel hb1) belV)
  clear hN
  refine (limbs_is _ _ _ _).mono ?_
  rintro e w2 ⟨rfl, rfl⟩
  go_wp2_with fail
  refine (T.out _ BV.out).mono ?_
  rintro e w3 ⟨rfl, hb3⟩
  have r1 := cell_to hb3 q1 hszV
  have B3 := Lib.hid (below_of BV.out hb3)
  clear q0 q1 hb3
  by_cases hbig : Big ≤ z.natAbs
  · obtain ⟨e1, e2⟩ := tx_long (b := 10) (by omega) hbig
    rw [e1, e2]
    have E := Lib.hid (zS_big hbig); have E2 := Lib.hid (z_big hbig).2
    clear e1 e2 hbig
    go_wp2
    go_ret2
    exact ⟨by rw [E.out, E2.out]; rfl, B3.out⟩
  · obtain ⟨e1, e2⟩ := tx_fine (b := 10) (by omega) hbig
    rw [e1, e2]
    have E2 := Lib.hid (z_fine (by omega : z.natAbs < Big)).2
    have hnl := numeral_size (b := 10) (by omega) (by omega : z.natAbs < Big)
    have hsl : (toBytes (numeral 10 z.natAbs)).length ≤ 262144 := by rw [length_toBytes]; exact hnl
    have hnn : (10 : Int).toNat = 10 := rfl
    rw [hnn]
    by_cases hneg : z < 0
    · have E := Lib.hid (zS_neg (z := z) (by omega) hneg)
      rw [sgn_neg hneg] at r1
      clear e1 e2 hbig hneg hnn hnl
      generalize numeral 10 z.natAbs = l at *
      go_wp2
      go_ret2
      exact ⟨by rw [E.out, E2.out, ← minus_bytes]; rfl, B3.out⟩
    · have E := Lib.hid (zS_pos (z := z) (by omega) (by omega))
      rw [sgn_pos (z := z) (by omega)] at r1
      clear e1 e2 hbig hneg hnn hnl
      generalize numeral 10 z.natAbs = l at *
      go_wp2
      go_ret2
      exact ⟨by rw [E.out, E2.out]; rfl, B3.out⟩
end Go.Proofs.YtfdilnfmcpbkgaaGreatDoor
