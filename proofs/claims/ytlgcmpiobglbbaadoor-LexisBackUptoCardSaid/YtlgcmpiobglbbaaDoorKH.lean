/- LexisBack: the walk. -/
import Derived.Test.YtlgcmpiobglbbaaDoorKX
set_option linter.unusedVariables false
set_option linter.unusedSimpArgs false
namespace Go.Proofs.YtlgcmpiobglbbaaDoor
open Go.RowKit Mth

set_option maxHeartbeats 2000000 in
set_option maxRecDepth 100000 in
theorem back_walk (w : World) (v : Value) (L : List Tk) (hv : TkL w v L) (hlen : L.length ≤ 1048576) (ht : ∀ x ∈ L, x.t.size ≤ 1048576) (hL : LexW w) : Calls Tryd.prog 6 #[v] w fun e w' => e = .returned (.bool true) ∧ Below w.heap.size w w' := by
  have HL := Lib.hid hL
  have HTK := Lib.hid hv
  have JN := Lib.hid (join_any L v w hL hv hlen ht)
  clear hL hv ht
  go_enter Tryd.func6, Tryd.ntmps6
  go_wp2_with fail
  refine JN.out.mono ?_
  rintro e w1 ⟨hb, hjo⟩
  have HB1 := Lib.hid hb
  have AW := Lib.hid (awake_any w1 (HL.out.below hb))
  have HTK1 := Lib.hid (HTK.out.below hb)
  clear hb
  rcases hjo with ⟨hg, hz, rfl⟩ | ⟨hg, hz, rfl⟩ | ⟨hg, rfl⟩
  · have HC := Lib.hid (scan_cat hg)
    have hz2 : (⟨(catL none L).toArray⟩ : ByteArray).size ≤ 1048576 := by rw [size_list]; exact hz
    clear hg hz
    go_wp2_with (go_at_call 14; refine AW.out.mono ?_; rintro e w2 ⟨rfl, hb2⟩; have HB2 := Lib.hid hb2; clear hb2)
    have HB3 : Hid (Below w.heap.size w w2) := Lib.hid (HB1.out.trans (HB2.out.mono HB1.out.size))
    have HTK2 := Lib.hid (HTK1.out.below HB2.out)
    refine (scan_any ⟨(catL none L).toArray⟩ hz2 w2 (HL.out.below HB3.out)).mono ?_
    rintro e w4 ⟨hb4, (⟨M, u, hMs, rfl, htk4, hfar4⟩ | ⟨E, x0, y0, hbad, hE, rfl⟩)⟩
    · have HB4 : Hid (Below w.heap.size w w4) := Lib.hid (HB3.out.trans (hb4.mono HB3.out.size))
      have hsame : SameL false L M := by
        obtain ⟨M', hM', hsm⟩ := HC.out
        rw [hM'] at hMs
        injection hMs with e
        subst e; exact hsm
      have SM := Lib.hid (same_any L M v u false w4 (HTK2.out.below hb4) htk4 hsame hlen)
      clear hb4 htk4 hfar4 hMs hsame
      go_wp2_with (go_at_call 13; refine SM.out.mono ?_; rintro e w5 ⟨rfl, hw5⟩; have HW5 := Lib.hid hw5; clear hw5)
      go_ret
      exact ⟨rfl, below_ex HB4.out HW5.out⟩
    · exfalso
      obtain ⟨M', hM', _⟩ := HC.out
      rw [hM'] at hbad; cases hbad
  · clear hg hz
    go_wp2_with (go_at_call 14; refine AW.out.mono ?_; rintro e w2 ⟨rfl, hb2⟩; have HB2 := Lib.hid hb2; clear hb2)
    go_ret
    exact ⟨rfl, HB1.out.trans (HB2.out.mono HB1.out.size)⟩
  · clear hg
    go_wp2_with (go_at_call 14; refine AW.out.mono ?_; rintro e w2 ⟨rfl, hb2⟩; have HB2 := Lib.hid hb2; clear hb2)
    go_ret
    exact ⟨rfl, HB1.out.trans (HB2.out.mono HB1.out.size)⟩
end Go.Proofs.YtlgcmpiobglbbaaDoor
