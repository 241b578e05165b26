/- tribunallaw01.alive: a product and its digits. -/
import Derived.Test.YtafeokkkbiaajabDoorText
import Derived.Test.YtafeokkkbiaajabDoorProductB
namespace Go.Proofs.YtafeokkkbiaajabDoor
open Go.RowKit Mth

theorem two_num : val B64 [18446744073709551614, 1] = 18446744073709551615 * 2 := by unfold B64; rfl
theorem two_small : 18446744073709551615 * 2 < Big := by
  have h1 : B64 ^ 2 ≤ B64 ^ maxL := Nat.pow_le_pow_right (by have := B64_pos; omega) (by unfold maxL; omega)
  have h2 : Big = B64 ^ maxL := rfl
  have h3 : (18446744073709551615 * 2 : Nat) < B64 ^ 2 := by unfold B64; omega
  omega
/-- the value in a slot -/
def maxU : Nat := 18446744073709551615
theorem maxU_lt : maxU < B64 := by unfold maxU B64; omega

theorem two_val : Value.int .u64 18446744073709551615 = Value.int .u64 ((maxU : Nat) : Int) := by unfold maxU; rfl
theorem alive_text : textS (dgs 16 16) 16 [18446744073709551614, 1] = [49, 102, 102, 102, 102, 102, 102, 102, 102, 102, 102, 102, 102, 102, 102, 102, 101] := by kernel_rfl
theorem alive_err : textE [18446744073709551614, 1] = 0 := by kernel_rfl

theorem natList_two {w : World} {ao1 ao2 : Option Addr} {n1 n2 c1 c2 : Nat} {xs ys : List Nat} (h1 : Sl w .u64 (.slice ao1 n1 c1) xs) (h2 : Sl w .u64 (.slice ao2 n2 c2) ys) :
    NatList (w.alloc (Obj.cells #[Value.slice ao1 n1 c1, Value.slice ao2 n2 c2] 23)) (.slice (some ⟨w.heap.size, 0, none⟩) 2 2) [xs, ys] := by
  have hb : Below w.heap.size w (w.alloc (Obj.cells #[Value.slice ao1 n1 c1, Value.slice ao2 n2 c2] 23)) := (Below.refl _ _).alloc (Nat.le_refl _) _
  refine ⟨_, _, rfl, by simp, by unfold maxLen; omega, by simp, fun e => by simp at e, fun _ => ⟨_, _, rfl, by simp, fun j hj => ?_⟩⟩
  match j, hj with
  | 0, _ => exact ⟨_, World.cell?_alloc_new _ _ _ _, h1.below hb⟩
  | 1, _ => exact ⟨_, World.cell?_alloc_new _ _ _ _, h2.below hb⟩
theorem alive_mul {xs ys : List Nat} (h1 : val B64 xs = maxU) (h2 : val B64 ys = 2) : mulN [xs, ys] = 36893488147419103230 ∧ mulE [xs, ys] = 0 := by
  have hb := two_small
  have hl : ¬ longL [xs, ys] [xs, ys].length := by
    rintro ⟨j, hj, hl⟩
    have hj2 : j = 0 ∨ j = 1 := by simp at hj; omega
    rcases hj2 with rfl | rfl
    · have h3 : Big ≤ val B64 xs := hl
      rw [h1] at h3
      have h4 : maxU < Big := Nat.lt_of_le_of_lt (by unfold maxU; omega) hb
      exact absurd h3 (Nat.not_le.2 h4)
    · have h3 : Big ≤ val B64 ys := hl
      rw [h2] at h3
      have h4 : 2 < Big := Nat.lt_of_le_of_lt (by omega) hb
      exact absurd h3 (Nat.not_le.2 h4)
  have hp : prodL [xs, ys] = 36893488147419103230 := by simp [prodL, h1, h2, maxU]
  obtain ⟨c1, c2⟩ := cut_small (n := 36893488147419103230) hb
  exact ⟨by rw [← c1, ← hp]; exact if_neg hl, by rw [← c2, ← hp]; exact if_neg hl⟩

set_option maxRecDepth 100000 in
theorem alive_any (w : World) (hz : TZ w) : Calls Tryd.prog 9 #[] w fun e w' => e = .returned (.bool true) ∧ Below w.heap.size w w' := by
  have HZ := Lib.hid hz; clear hz
  go_enter Tryd.func9, Tryd.ntmps9
  go_wp2_with fail
  rw [two_val]
  refine (of_any maxU maxU_lt _).mono ?_
  rintro e w1 ⟨v1, rfl, hb1, ys1, hs1, hl1, _, hv1⟩
  obtain ⟨a1, c1, rfl⟩ := hs1.shape
  have HB1 := Lib.hid hb1; have HS1 := Lib.hid hs1; have HL1 := Lib.hid hl1; have HV1 := Lib.hid hv1
  clear hb1 hs1 hl1 hv1
  go_wp2_with fail
  refine (of_any 2 (by unfold B64; omega) _).mono ?_
  rintro e w2 ⟨v2, rfl, hb2, ys2, hs2, hl2, _, hv2⟩
  obtain ⟨a2, c2, rfl⟩ := hs2.shape
  have HB2 := Lib.hid (below_step HB1.out hb2); have HS1' := Lib.hid (HS1.out.below hb2); have HS2 := Lib.hid hs2; have HL2 := Lib.hid hl2; have HV2 := Lib.hid hv2
  clear hb2 hs2 hl2 hv2
  go_wp2_with fail
  have HM := Lib.hid (alive_mul HV1.out HV2.out)
  refine (mul_any _ _ _ (natList_two HS1'.out HS2.out) (fun j => by
    match j with
    | 0 => exact HL1.out
    | 1 => exact HL2.out
    | j + 2 => exact lim_nil (by have := B64_pos; omega))).mono ?_
  rintro e w3 ⟨v3, rfl, hn3, hb3⟩
  rw [HM.out.1] at hn3
  rw [HM.out.2]
  obtain ⟨ys3, hs3, hl3, ht3, hv3⟩ := hn3
  have e3 : ys3 = [18446744073709551614, 1] := top_uniq B64_pos hl3 (lim_cons.2 ⟨by unfold B64; omega, lim_cons.2 ⟨by unfold B64; omega, lim_nil (by unfold B64; omega)⟩⟩) ht3 rfl (by rw [hv3, two_num])
  have HB3 := Lib.hid (HB2.out.trans ((((Below.refl _ _).alloc (Nat.le_refl _) _).trans (hb3.mono (by simp))).mono HB2.out.size))
  have HS3 := Lib.hid hs3; have HL3 := Lib.hid hl3; have HE3 := Lib.hid e3
  clear hs3 hl3 hv3 ht3 e3 hb3
  go_wp2_with fail
  refine (text16 _ _ _ HS3.out HL3.out (HZ.out.below HB3.out)).mono ?_
  rintro e w4 ⟨rfl, hb4⟩
  have HB4 := Lib.hid (below_step HB3.out hb4)
  clear hb4
  rw [HE3.out, alive_text, alive_err]
  go_wp2
  go_ret
  exact ⟨rfl, HB4.out⟩
end Go.Proofs.YtafeokkkbiaajabDoor
