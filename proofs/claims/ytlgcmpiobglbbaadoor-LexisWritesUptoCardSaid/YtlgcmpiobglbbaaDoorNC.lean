/- lexis's reference: small. -/
import Derived.Test.YtlgcmpiobglbbaaDoorNB
import Derived.Test.YtlgcmpiobglbbaaDoorLT
set_option linter.unusedVariables false
set_option linter.unusedSimpArgs false
namespace Go.Proofs.YtlgcmpiobglbbaaDoor
open Go.RowKit Mth

theorem one_string (w : World) (z : Int) (d : UInt8) (e : z = (d.toNat : Int)) :
    (convert 62 9 (.slice (some ⟨w.heap.size, 0, none⟩) 1 1)).run Tryd.prog (w.alloc (Obj.cells #[Value.int .u8 z] 5)) = .ok (.string ⟨#[d]⟩) (w.alloc (Obj.cells #[Value.int .u8 z] 5)) := by
  subst e
  refine run_convert_bytes_back _ 62 9 5 ⟨w.heap.size, 0, none⟩ 1 [d] Tryd.underlying62 Tryd.underlying5 Tryd.underlying9 ?_
  have hw := heap_alloc_new w (Obj.cells #[Value.int .u8 (d.toNat : Int)] 5)
  intro j hj
  match j, hj with
  | 0, _ => rw [Addr.add_lit, Nat.zero_add, cell_of_row _ _ 0 _ _ (0, 0) hw]; rfl
  | j + 1, hj => exact absurd hj (by simp)
theorem low_app (a b : ByteArray) : lowB (a ++ b) = lowB a ++ lowB b := by
  apply ByteArray.ext
  simp [lowB, lower]
theorem low_next {s : ByteArray} {k : Nat} (h : k < s.size) : lowB (s.extract 0 (k + 1)) = lowB (s.extract 0 k) ++ ⟨#[Lib.lowerB (s[k]'h)]⟩ := by
  have e : s.extract k (k + 1) = ⟨#[s[k]'h]⟩ := byt_ext (l := [s[k]'h]) ⟨(cb_at h).symm, True.intro⟩ (by simp; omega)
  have e2 : s.extract 0 (k + 1) = s.extract 0 k ++ s.extract k (k + 1) := by rw [ByteArray.extract_append_extract, Nat.min_eq_left (by omega), Nat.max_eq_right (by omega)]
  rw [e2, low_app, e]
  rfl
theorem low_size (s : ByteArray) : (lowB s).size = s.size := by
  unfold lowB lower
  rw [size_list, List.length_map]
  exact Array.length_toList
def SmR (w : World) (s : ByteArray) (o i : Value) (wr : World) : Prop := ∃ k : Nat, k ≤ s.size ∧ i = .int .i64 (k : Int) ∧ o = .string (lowB (s.extract 0 k)) ∧ Below w.heap.size w wr
set_option maxHeartbeats 1000000 in
set_option maxRecDepth 100000 in
theorem small_any (s : ByteArray) (hs : s.size ≤ 1048576) (w : World) : Calls Tryd.prog 64 #[.string s] w fun e w' => e = .returned (.string (lowB s)) ∧ Below w.heap.size w w' := by
  go_enter Tryd.func64, Tryd.ntmps64
  go_wp2
  go_loopw [3, 4] (fun o i wr => SmR w s o i wr) (fun _ i _ => s.size - (intOf i).toNat)
  case atStart => exact ⟨0, by omega, rfl, by rw [show s.extract 0 0 = ⟨#[]⟩ from by apply ByteArray.ext_getElem <;> (try intro i h1 h2; rw [ByteArray.size_extract] at h1; omega); rw [ByteArray.size_extract]; show _ = 0; omega]; rfl, Below.refl _ _⟩
  case round =>
    obtain ⟨k, hk, rfl, rfl, hbel⟩ := hrel
    have HB := Lib.hid hbel
    clear hbel
    by_cases hlt : k < s.size
    · have hbk := cb_at hlt
      have hb255 := cb_lt s k
      have HN := Lib.hid (low_next hlt)
      have hsz : (lowB (s.extract 0 k)).size = k := by rw [low_size, size_ext (by omega)]; omega
      generalize lowB (s.extract 0 k) = o at *
      generalize hd : s[k] = d at *
      by_cases hu : 65 ≤ cb s k ∧ cb s k ≤ 90
      · have e1 : ((cb s k : Int) + 32) = ((Lib.lowerB d).toNat : Int) := by
          have h := Lib.lowerB_int d (by
            rw [Lib.isUpperB]; simp; constructor
            · exact UInt8.le_iff_toNat_le.2 (by rw [hbk]; exact hu.1)
            · exact UInt8.le_iff_toNat_le.2 (by rw [hbk]; exact hu.2))
          rw [h, hbk]
        have hcv : (convert 62 9 (.slice (some ⟨wr.heap.size, 0, none⟩) 1 1)).run Tryd.prog (wr.alloc (Obj.cells #[Value.int .u8 ((cb s k : Int) + 32)] 5)) = .ok (.string ⟨#[Lib.lowerB d]⟩) (wr.alloc (Obj.cells #[Value.int .u8 ((cb s k : Int) + 32)] 5)) := one_string wr _ _ e1
        have E1 := Lib.hid e1
        obtain ⟨h1, h2⟩ := hu
        clear e1
        go_wp2
        go_roundw
        case rel => exact ⟨k + 1, by omega, rfl, by rw [HN.out], HB.out.alloc HB.out.size _⟩
        case measure => simp [intOf]; omega
      · have e1 : (cb s k : Int) = ((Lib.lowerB d).toNat : Int) := by
          have h := Lib.lowerB_of_not d (by
            rw [Lib.isUpperB, Bool.and_eq_false_iff]
            simp only [decide_eq_false_iff_not]
            by_cases h65 : 65 ≤ cb s k
            · right; intro h9; have := UInt8.le_iff_toNat_le.1 h9; rw [hbk] at this; exact hu ⟨h65, this⟩
            · left; intro h9; have := UInt8.le_iff_toNat_le.1 h9; rw [hbk] at this; exact h65 this)
          rw [h, hbk]
        have hcv : (convert 62 9 (.slice (some ⟨wr.heap.size, 0, none⟩) 1 1)).run Tryd.prog (wr.alloc (Obj.cells #[Value.int .u8 (cb s k : Int)] 5)) = .ok (.string ⟨#[Lib.lowerB d]⟩) (wr.alloc (Obj.cells #[Value.int .u8 (cb s k : Int)] 5)) := one_string wr _ _ e1
        have E1 := Lib.hid e1
        clear e1
        rcases (show cb s k < 65 ∨ (65 ≤ cb s k ∧ 90 < cb s k) by omega) with h1 | ⟨h1, h2⟩
        all_goals (
          clear hu
          go_wp2
          go_roundw
          case rel => exact ⟨k + 1, by omega, rfl, by rw [HN.out], HB.out.alloc HB.out.size _⟩
          case measure => simp [intOf]; omega)
    · obtain rfl : k = s.size := by omega
      go_wp2
      go_ret
      exact ⟨ret_s (by rw [ByteArray.extract_zero_size]), HB.out⟩
end Go.Proofs.YtlgcmpiobglbbaaDoor
