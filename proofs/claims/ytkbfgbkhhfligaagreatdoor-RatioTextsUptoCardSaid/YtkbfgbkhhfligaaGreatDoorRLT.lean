/- RatioTexts: the walk. -/
import Derived.Test.YtkbfgbkhhfligaaGreatDoorRFT
import Derived.Test.YtkbfgbkhhfligaaGreatDoorQB4
set_option linter.unusedVariables false
set_option linter.unusedSimpArgs false
namespace Go.Proofs.YtkbfgbkhhfligaaGreatDoor
open Go.RowKit Mth

theorem TxtO.same {x : Int} {d : Nat} {S T : ByteArray} {E F : Int} (h : TxtO x d S E) (k : TxtO x d T F) : S = T ∧ E = F := by
  rcases h with ⟨a, rfl, rfl⟩ | ⟨a, b, rfl, rfl⟩ | ⟨a, b, rfl, rfl⟩ <;> rcases k with ⟨a', rfl, rfl⟩ | ⟨a', b', rfl, rfl⟩ | ⟨a', b', rfl, rfl⟩ <;> first | exact ⟨rfl, rfl⟩ | omega | exact absurd b b' | exact absurd b' b
set_option maxHeartbeats 8000000 in
set_option maxRecDepth 100000 in
theorem texts3_walk (w : World) (v : Value) (x : Int) (d : Nat) (hz10 : TZ10 w) (h : RatV w v x d) :
    Calls Tryz.prog 7 #[v] w fun e w' => e = .returned (.bool true) ∧ Below w.heap.size w w' := by
  have H := Lib.hid h; have HZ := Lib.hid hz10
  obtain ⟨n, a, k, c, a', k', c', xs, ys, rfl, -⟩ := h
  obtain ⟨W, eW, h1, bW, hsW⟩ := alloc1 w (Obj.cells #[.bool n, .slice a k c, .slice a' k' c'] 41)
  have BW := Lib.hid bW; have HA := Lib.hid h1
  have T1 := Lib.hid (rtextQ_any _ x d W (H.out.below bW) (HZ.out.below bW))
  obtain ⟨⟨p0, p1, p2⟩, _, _⟩ := blk3 h1
  clear h1 bW hsW hz10
  go_enter Tryz.func7, Tryz.ntmps7
  go_wp2_with fail
  try rw [eW]
  clear eW
  refine T1.out.mono ?_
  rintro e w1 ⟨S, E, rfl, h1, b1⟩
  have H1 := Lib.hid h1; have B1 := Lib.hid (below_of BW.out b1); have A1 := Lib.hid (blk_below' b1 HA.out)
  have T2 := Lib.hid (rtext3_any _ x d w1 (H.out.below B1.out))
  clear T1 p0 p1 p2 h1 b1
  obtain ⟨⟨p0, p1, p2⟩, _, _⟩ := blk3 A1.out
  go_wp2_with fail
  refine T2.out.mono ?_
  rintro e w2 ⟨T, F, rfl, h2, b2⟩
  obtain ⟨rfl, rfl⟩ := H1.out.same h2
  have B2 := Lib.hid (below_of B1.out b2)
  have AL := Lib.hid (alive3_any w2 (HZ.out.below B2.out))
  clear T2 p0 p1 p2 h2 b2 H1
  go_wp2_with (go_at_call 32; refine AL.out.mono ?_; rintro e w5 ⟨rfl, hb⟩; have B5 := Lib.hid (below_of B2.out hb); clear hb)
  go_ret
  exact ⟨rfl, B5.out⟩
end Go.Proofs.YtkbfgbkhhfligaaGreatDoor
