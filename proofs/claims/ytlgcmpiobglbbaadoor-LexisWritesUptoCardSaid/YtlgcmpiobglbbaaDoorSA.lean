/- package sort: names, of the program and of the reference. -/
import Derived.Test.YtlgcmpiobglbbaaDoorLU
import Derived.Test.YtlgcmpiobglbbaaDoorNA
import Derived.Test.YtlgcmpiobglbbaaDoorKC
import Derived.Test.YtlgcmpiobglbbaaDoorKR
import Derived.Test.YtlgcmpiobglbbaaDoorShelf
set_option linter.unusedVariables false
set_option linter.unusedSimpArgs false
namespace Go.Proofs.YtlgcmpiobglbbaaDoor
open Go.RowKit Mth

def bNm (c : Nat) : Bool := decide (32 ≤ c) && decide (c ≤ 126) && c != 124 && c != 92
theorem bNm_iff {c : Nat} : bNm c = true ↔ 32 ≤ c ∧ c ≤ 126 ∧ c ≠ 124 ∧ c ≠ 92 := by simp [bNm, and_assoc]
theorem bNm_not {c : Nat} (h : bNm c = false) : c < 32 ∨ (32 ≤ c ∧ 126 < c) ∨ c = 124 ∨ c = 92 := by
  rw [← Bool.not_eq_true, bNm_iff] at h; omega
/-- may a text be a name? -/
def isName (s : ByteArray) : Prop := 1 ≤ s.size ∧ s.size ≤ 200 ∧ cb s 0 ≠ 64 ∧ cb s 0 ≠ 46 ∧ allP s bNm 0 s.size
/-- SMT-LIB's reserved words -/
def resL : List (List UInt8) := [[33], [95], [97, 115], [66, 73, 78, 65, 82, 89], [68, 69, 67, 73, 77, 65, 76], [101, 120, 105, 115, 116, 115], [102, 111, 114, 97, 108, 108], [72, 69, 88, 65, 68, 69, 67, 73, 77, 65, 76], [108, 101, 116], [109, 97, 116, 99, 104], [78, 85, 77, 69, 82, 65, 76], [112, 97, 114], [83, 84, 82, 73, 78, 71], [97, 115, 115, 101, 114, 116], [99, 104, 101, 99, 107, 45, 115, 97, 116], [99, 104, 101, 99, 107, 45, 115, 97, 116, 45, 97, 115, 115, 117, 109, 105, 110, 103], [100, 101, 99, 108, 97, 114, 101, 45, 99, 111, 110, 115, 116], [100, 101, 99, 108, 97, 114, 101, 45, 100, 97, 116, 97, 116, 121, 112, 101], [100, 101, 99, 108, 97, 114, 101, 45, 100, 97, 116, 97, 116, 121, 112, 101, 115], [100, 101, 99, 108, 97, 114, 101, 45, 102, 117, 110], [100, 101, 99, 108, 97, 114, 101, 45, 115, 111, 114, 116], [100, 101, 102, 105, 110, 101, 45, 102, 117, 110], [100, 101, 102, 105, 110, 101, 45, 115, 111, 114, 116], [101, 99, 104, 111], [101, 120, 105, 116], [103, 101, 116, 45, 97, 115, 115, 101, 114, 116, 105, 111, 110, 115], [103, 101, 116, 45, 105, 110, 102, 111], [103, 101, 116, 45, 109, 111, 100, 101, 108], [103, 101, 116, 45, 118, 97, 108, 117, 101], [112, 111, 112], [112, 117, 115, 104], [114, 101, 115, 101, 116], [114, 101, 115, 101, 116, 45, 97, 115, 115, 101, 114, 116, 105, 111, 110, 115], [115, 101, 116, 45, 105, 110, 102, 111], [115, 101, 116, 45, 108, 111, 103, 105, 99], [115, 101, 116, 45, 111, 112, 116, 105, 111, 110]]
def isRes (s : ByteArray) : Prop := s.toList ∈ resL
def isSimple (s : ByteArray) : Prop := isName s ∧ bDig (cb s 0) = false ∧ ¬ isRes s ∧ allP s bSimple 0 s.size
open Classical in
noncomputable def quoB (s : ByteArray) : ByteArray := if isSimple s then s else ⟨#[124]⟩ ++ s ++ ⟨#[124]⟩
set_option maxHeartbeats 2000000 in
set_option maxRecDepth 100000 in
theorem nameS_any (s : ByteArray) (hs : s.size ≤ 1048576) (w : World) : Calls Tryd.prog 68 #[.string s] w fun e w' => Says w w' (isName s) e := by
  by_cases h1 : s.size < 1
  · have HN : Hid (¬ isName s) := Lib.hid (fun h => by have := h.1; omega)
    go_enter Tryd.func68, Tryd.ntmps68
    go_wp2
    go_ret
    exact says_no HN.out
  by_cases h2 : 200 < s.size
  · have HN : Hid (¬ isName s) := Lib.hid (fun h => by have := h.2.1; omega)
    go_enter Tryd.func68, Tryd.ntmps68
    go_wp2
    go_ret
    exact says_no HN.out
  have hlt0 : 0 < s.size := by omega
  have hb0 := cb_at hlt0
  by_cases h3 : cb s 0 = 64
  · have HN : Hid (¬ isName s) := Lib.hid (fun h => h.2.2.1 h3)
    rw [h3] at hb0
    clear h3
    go_enter Tryd.func68, Tryd.ntmps68
    go_wp2
    go_ret
    exact says_no HN.out
  by_cases h4 : cb s 0 = 46
  · have HN : Hid (¬ isName s) := Lib.hid (fun h => h.2.2.2.1 h4)
    rw [h4] at hb0
    clear h3 h4
    go_enter Tryd.func68, Tryd.ntmps68
    go_wp2
    go_ret
    exact says_no HN.out
  have HY : Hid (allP s bNm 0 s.size → isName s) := Lib.hid (fun h => ⟨by omega, by omega, h3, h4, h⟩)
  have e3 : ((cb s 0 : Int) == 64) = false := ne_i (k := 64) h3
  have e4 : ((cb s 0 : Int) == 46) = false := ne_i (k := 46) h4
  clear h3 h4
  go_enter Tryd.func68, Tryd.ntmps68
  go_wp2
  go_loop [3, 24] (fun _ i => AllR s bNm i) (fun _ i => s.size - (intOf i).toNat)
  case atStart => exact ⟨0, by omega, rfl, fun j _ hj => by omega⟩
  case round =>
    obtain ⟨k, hk, rfl, hall⟩ := hrel
    have HA := Lib.hid hall
    clear hall
    by_cases hlt : k < s.size
    · have hbk := cb_at hlt
      rcases Bool.eq_false_or_eq_true (bNm (cb s k)) with hb | hb
      · have HS := Lib.hid (all_step HA.out hb)
        obtain ⟨g1, g2, g3, g4⟩ := bNm_iff.1 hb
        have f3 : ((cb s k : Int) == 124) = false := ne_i (k := 124) g3
        have f4 : ((cb s k : Int) == 92) = false := ne_i (k := 92) g4
        clear hb g3 g4
        go_wp2
        go_round
        case rel => exact ⟨k + 1, by omega, by go_num, HS.out⟩
        case measure => simp [intOf]; omega
      · have HN : Hid (¬ isName s) := Lib.hid (fun h => by have := h.2.2.2.2 k (by omega) hlt; rw [hb] at this; cases this)
        have hx := bNm_not hb
        clear hb
        rcases hx with hx | ⟨hx1, hx⟩ | hx | hx
        · go_wp2
          go_ret
          exact says_no HN.out
        · go_wp2
          go_ret
          exact says_no HN.out
        · rw [hx] at hbk
          clear hx
          go_wp2
          go_ret
          exact says_no HN.out
        · rw [hx] at hbk
          clear hx
          go_wp2
          go_ret
          exact says_no HN.out
    · obtain rfl : k = s.size := by omega
      have HN := Lib.hid (HY.out HA.out)
      go_wp2
      go_ret
      exact says_yes HN.out
set_option maxHeartbeats 2000000 in
set_option maxRecDepth 100000 in
theorem nameR_any (s : ByteArray) (hs : s.size ≤ 1048576) (w : World) : Calls Tryd.prog 53 #[.string s] w fun e w' => Says w w' (isName s) e := by
  by_cases h1 : s.size < 1
  · have HN : Hid (¬ isName s) := Lib.hid (fun h => by have := h.1; omega)
    go_enter Tryd.func53, Tryd.ntmps53
    go_wp2
    go_ret
    exact says_no HN.out
  by_cases h2 : 200 < s.size
  · have HN : Hid (¬ isName s) := Lib.hid (fun h => by have := h.2.1; omega)
    go_enter Tryd.func53, Tryd.ntmps53
    go_wp2
    go_ret
    exact says_no HN.out
  have hlt0 : 0 < s.size := by omega
  have hb0 := cb_at hlt0
  by_cases h3 : cb s 0 = 64
  · have HN : Hid (¬ isName s) := Lib.hid (fun h => h.2.2.1 h3)
    rw [h3] at hb0
    clear h3
    go_enter Tryd.func53, Tryd.ntmps53
    go_wp2
    go_ret
    exact says_no HN.out
  by_cases h4 : cb s 0 = 46
  · have HN : Hid (¬ isName s) := Lib.hid (fun h => h.2.2.2.1 h4)
    rw [h4] at hb0
    clear h3 h4
    go_enter Tryd.func53, Tryd.ntmps53
    go_wp2
    go_ret
    exact says_no HN.out
  have HY : Hid (allP s bNm 0 s.size → isName s) := Lib.hid (fun h => ⟨by omega, by omega, h3, h4, h⟩)
  have e3 : ((cb s 0 : Int) == 64) = false := ne_i (k := 64) h3
  have e4 : ((cb s 0 : Int) == 46) = false := ne_i (k := 46) h4
  clear h3 h4
  go_enter Tryd.func53, Tryd.ntmps53
  go_wp2
  go_loop [3] (fun i => AllR s bNm i) (fun i => s.size - (intOf i).toNat)
  case atStart => exact ⟨0, by omega, rfl, fun j _ hj => by omega⟩
  case round =>
    obtain ⟨k, hk, rfl, hall⟩ := hrel
    have HA := Lib.hid hall
    clear hall
    by_cases hlt : k < s.size
    · have hbk := cb_at hlt
      rcases Bool.eq_false_or_eq_true (bNm (cb s k)) with hb | hb
      · have HS := Lib.hid (all_step HA.out hb)
        obtain ⟨g1, g2, g3, g4⟩ := bNm_iff.1 hb
        have f3 : ((cb s k : Int) == 124) = false := ne_i (k := 124) g3
        have f4 : ((cb s k : Int) == 92) = false := ne_i (k := 92) g4
        clear hb g3 g4
        go_wp2
        go_round
        case rel => exact ⟨k + 1, by omega, by go_num, HS.out⟩
        case measure => simp [intOf]; omega
      · have HN : Hid (¬ isName s) := Lib.hid (fun h => by have := h.2.2.2.2 k (by omega) hlt; rw [hb] at this; cases this)
        have hx := bNm_not hb
        clear hb
        rcases hx with hx | ⟨hx1, hx⟩ | hx | hx
        · go_wp2
          go_ret
          exact says_no HN.out
        · go_wp2
          go_ret
          exact says_no HN.out
        · rw [hx] at hbk
          clear hx
          go_wp2
          go_ret
          exact says_no HN.out
        · rw [hx] at hbk
          clear hx
          go_wp2
          go_ret
          exact says_no HN.out
    · obtain rfl : k = s.size := by omega
      have HN := Lib.hid (HY.out HA.out)
      go_wp2
      go_ret
      exact says_yes HN.out
set_option maxRecDepth 100000 in
theorem letterS_any (c : Nat) (hc : c ≤ 255) (w : World) : Calls Tryd.prog 71 #[.int .u8 ((c : Nat) : Int)] w fun e w' => e = .returned (.bool ((decide (97 ≤ c) && decide (c ≤ 122)) || (decide (65 ≤ c) && decide (c ≤ 90)))) ∧ w = w' := by
  go_enter Tryd.func71, Tryd.ntmps71
  go_wp2
  all_goals (go_ret; refine ⟨ret_b ?_, rfl⟩; rw [Bool.eq_iff_iff]; simp <;> omega)
set_option maxRecDepth 100000 in
theorem digitS_any (c : Nat) (hc : c ≤ 255) (w : World) : Calls Tryd.prog 69 #[.int .u8 ((c : Nat) : Int)] w fun e w' => e = .returned (.bool (bDig c)) ∧ w = w' := by
  go_enter Tryd.func69, Tryd.ntmps69
  go_wp2
  all_goals (go_ret; refine ⟨ret_b ?_, rfl⟩; rw [Bool.eq_iff_iff, bDig_iff]; simp <;> omega)
set_option maxHeartbeats 2000000 in
set_option maxRecDepth 100000 in
theorem reservedS_any (s : ByteArray) (w : World) : Calls Tryd.prog 70 #[.string s] w fun e w' => Says w w' (isRes s) e := by
  go_enter Tryd.func70, Tryd.ntmps70
  go_wp2
  all_goals go_ret
  all_goals first
    | (refine says_yes ?_; unfold isRes resL; simp_all; done)
    | (refine says_no ?_; unfold isRes resL; simp_all; done)
end Go.Proofs.YtlgcmpiobglbbaaDoor
