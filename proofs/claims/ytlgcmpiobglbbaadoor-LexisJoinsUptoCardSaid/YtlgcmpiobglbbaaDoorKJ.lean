/- LexisJoins: the walk. -/
import Derived.Test.YtlgcmpiobglbbaaDoorKG
import Derived.Test.YtlgcmpiobglbbaaDoorNL
set_option linter.unusedVariables false
set_option linter.unusedSimpArgs false
namespace Go.Proofs.YtlgcmpiobglbbaaDoor
open Go.RowKit Mth

set_option maxHeartbeats 2000000 in
set_option maxRecDepth 100000 in
theorem joins_walk (w : World) (v : Value) (L : List Tk) (hv : TkL w v L) (hlen : L.length ≤ 1048576) (ht : ∀ x ∈ L, x.t.size ≤ 1048576) (hL : LexW w) : Calls Tryd.prog 5 #[v] w fun e w' => e = .returned (.bool true) ∧ Below w.heap.size w w' := by
  have HL := Lib.hid hL
  have HTK := Lib.hid hv
  have HT := Lib.hid ht
  have JN := Lib.hid (join_any L v w hL hv hlen ht)
  clear hL hv ht
  go_enter Tryd.func5, Tryd.ntmps5
  go_wp2_with fail
  refine JN.out.mono ?_
  rintro e w1 ⟨hb, hjo⟩
  have HB1 := Lib.hid hb
  have RJ := Lib.hid (rjoin_any L v w1 (HTK.out.below hb) hlen HT.out)
  have AW : Hid (∀ w2, Below w1.heap.size w1 w2 → Calls Tryd.prog 14 #[] w2 fun e w' => e = .returned (.bool true) ∧ Below w2.heap.size w2 w') := Lib.hid (fun w2 h2 => awake_any w2 (HL.out.below (HB1.out.trans (h2.mono HB1.out.size))))
  have EN : Hid (∀ w2 w3, Below w1.heap.size w1 w2 → Below w2.heap.size w2 w3 → Below w.heap.size w w3) := Lib.hid (fun w2 w3 h2 h3 => by
    have h := HB1.out.trans (h2.mono HB1.out.size)
    exact h.trans (h3.mono h.size))
  clear hb
  rcases hjo with ⟨hg, hz, rfl⟩ | ⟨hg, hz, rfl⟩ | ⟨hg, rfl⟩
  all_goals (
    go_wp2_with fail
    refine RJ.out.mono ?_
    rintro e w2 ⟨hb2, (⟨hg', hz', rfl⟩ | ⟨hg', hz', rfl⟩ | ⟨hg', rfl⟩)⟩
    all_goals first
      | (exact absurd hg hg')
      | (exact absurd hg' hg)
      | (exfalso; omega)
      | (have HB2 := Lib.hid hb2
         have AW2 := Lib.hid (AW.out _ hb2)
         clear hb2 hg hg'
         go_wp2_with (go_at_call 14; refine AW2.out.mono ?_; rintro e w3 ⟨rfl, hb3⟩; have HB3 := Lib.hid hb3; clear hb3)
         go_ret
         exact ⟨rfl, EN.out _ _ HB2.out HB3.out⟩))
end Go.Proofs.YtlgcmpiobglbbaaDoor
