/- bits: up, down, joined, amount. -/
import Derived.Test.YtehdfkafdpfdnaaGreatDoorUN2
import Derived.Test.YtehdfkafdpfdnaaGreatDoorUZB5
set_option linter.unusedVariables false
set_option linter.unusedSimpArgs false
namespace Go.Proofs.YtehdfkafdpfdnaaGreatDoor
open Go.RowKit Mth

/-- limbs in any form that are not many -/
def NmB (w : World) (v : Value) (n : Nat) : Prop := ∃ xs, Sl w .u64 v xs ∧ Lim B64 xs ∧ xs.length ≤ 4000000 ∧ val B64 xs = n
theorem NmB.below {w w' : World} {v : Value} {n : Nat} (h : NmB w v n) (hb : Below w.heap.size w w') : NmB w' v n := by
  obtain ⟨xs, h1, h2⟩ := h; exact ⟨xs, h1.below hb, h2⟩
theorem NmB.shape {w : World} {v : Value} {n : Nat} (h : NmB w v n) : ∃ a k c, v = .slice a k c := by
  obtain ⟨xs, h1, -⟩ := h
  obtain ⟨a, c, rfl⟩ := h1.shape
  exact ⟨a, xs.length, c, rfl⟩
/-- twice the widest vector's bits -/
def w8 : Nat := 8192
set_option maxHeartbeats 1000000 in
set_option maxRecDepth 100000 in
theorem amount_any (v : Value) (m : Nat) (w : World) (h : NmB w v m) : Calls Tryz.prog 52 #[v] w fun e w' => ∃ v', e = .returned v' ∧ IntV w' v' (m : Int) ∧ Below w.heap.size w w' := by
  obtain ⟨W, eW, gW, bW, hWs⟩ := alloc1n w (Obj.cells #[.bool false, .slice none 0 0] 37)
  obtain ⟨xs, s, l, hl, e⟩ := h
  have HI := Lib.hid (intV_of (s.below bW) l hl e)
  have GW := Lib.hid gW; have BW := Lib.hid bW
  obtain ⟨q0, q1, r0, r1, _⟩ := blk2 gW
  obtain ⟨a, c, rfl⟩ := s.shape
  have EW := Lib.hid eW
  clear s l hl e gW bW eW
  go_enter Tryz.func52, Tryz.ntmps52
  go_upto_region 1 with fail
  try rw [EW.out]
  go_wp2
  exact bodyPost_ret (results_it rfl rfl (set2_row _ _ GW.out)) rfl ⟨_, rfl, HI.out.far GW.out, (BW.out.setCell (Nat.le_refl _) _).setCell (Nat.le_refl _) _⟩
end Go.Proofs.YtehdfkafdpfdnaaGreatDoor
