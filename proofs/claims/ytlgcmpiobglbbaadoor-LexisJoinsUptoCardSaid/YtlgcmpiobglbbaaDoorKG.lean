/- LexisScans: the walk. -/
import Derived.Test.YtlgcmpiobglbbaaDoorKF
import Derived.Test.YtlgcmpiobglbbaaDoorKB
set_option linter.unusedVariables false
set_option linter.unusedSimpArgs false
namespace Go.Proofs.YtlgcmpiobglbbaaDoor
open Go.RowKit Mth

theorem below_ex {B : Nat} {a w w' : World} (h : Below B a w) (k : ∃ n, w' = w.drewN n) : Below B a w' := by
  obtain ⟨n, rfl⟩ := k; exact below_drewN h n
theorem scan_len {s : ByteArray} : ∀ {L : List Tk} {p : Nat}, scanF s p = .ok L → L.length ≤ s.size - p
  | [], p, _ => Nat.zero_le _
  | y :: L, p, h => by
    obtain ⟨k, t, q, n, h1, h2, h3, h4, h5, h6⟩ := scan_inv h
    have := scan_len h4
    have hg := skip_ge (s := s) s.size (p := p) (by omega)
    rw [List.length_cons]; omega
set_option maxHeartbeats 2000000 in
set_option maxRecDepth 100000 in
theorem scans_walk (w : World) (s : ByteArray) (hs : s.size ≤ 1048576) (hL : LexW w) : Calls Tryd.prog 3 #[.string s] w fun e w' => e = .returned (.bool true) ∧ Below w.heap.size w w' := by
  have HL := Lib.hid hL
  have SC := Lib.hid (scan_any s hs w hL)
  clear hL
  go_enter Tryd.func3, Tryd.ntmps3
  go_wp2_with fail
  refine SC.out.mono ?_
  rintro e w1 ⟨hb, (⟨L, v, hLs, rfl, htk, hfar⟩ | ⟨E, x0, y0, hbad, hE, rfl⟩)⟩
  · have HB := Lib.hid hb
    have HTK := Lib.hid htk
    have SR := Lib.hid (rscan_any s hs w1)
    rw [hLs] at SR
    have hlen : L.length ≤ 1048576 := by
      have := scan_len hLs; omega
    clear hb htk hfar hLs
    go_wp2_with fail
    refine SR.out.mono ?_
    rintro e w2 ⟨hb2, (⟨L2, v2, hL2, rfl, htk2, hfar2⟩ | ⟨E, x0, y0, hbad, hE, rfl⟩)⟩
    · have hLL : L = L2 := by injection hL2
      subst hLL
      have HB2 := Lib.hid hb2
      have SM := Lib.hid (same_any L L v v2 true w2 (HTK.out.below hb2) htk2 (SameL.refl _ _) hlen)
      have HB3 : Hid (Below w.heap.size w w2) := Lib.hid (HB.out.trans (hb2.mono HB.out.size))
      clear hb2 htk2 hfar2 hL2 hlen
      have AW : Hid (∀ w3, (∃ n, w3 = w2.drewN n) → Calls Tryd.prog 14 #[] w3 fun e w' => e = .returned (.bool true) ∧ Below w3.heap.size w3 w') := Lib.hid (fun w3 h => awake_any w3 (HL.out.below (below_ex HB3.out h)))
      go_wp2_with (first | (go_at_call 13; refine SM.out.mono ?_; rintro e w3 ⟨rfl, hw3⟩; have HW3 := Lib.hid hw3; clear hw3) | (go_at_call 14; refine Calls.mono (AW.out _ HW3.out) ?_; rintro e w4 ⟨rfl, hb4⟩; have HB4 := Lib.hid hb4; clear hb4))
      go_ret
      exact ⟨rfl, (below_ex HB3.out HW3.out).trans (HB4.out.mono (below_ex HB3.out HW3.out).size)⟩
    · exfalso; cases hbad
  · have HB := Lib.hid hb
    have SR := Lib.hid (rscan_any s hs w1)
    rw [hbad] at SR
    clear hb hbad
    go_wp2_with fail
    refine SR.out.mono ?_
    rintro e w2 ⟨hb2, (⟨L2, v2, hL2, rfl, htk2, hfar2⟩ | ⟨E2, x2, y2, hbad2, hE2, rfl⟩)⟩
    · exfalso; cases hL2
    · injection hbad2 with i1 i2 i3
      subst i1 i2 i3
      have SM := Lib.hid (same_any [] [] (.slice none 0 0) (.slice none 0 0) true w2 (TkL.nil _) (TkL.nil _) (SameL.refl _ _) (by simp))
      have HB3 : Hid (Below w.heap.size w w2) := Lib.hid (HB.out.trans (hb2.mono HB.out.size))
      clear hb2
      have AW : Hid (∀ w3, (∃ n, w3 = w2.drewN n) → Calls Tryd.prog 14 #[] w3 fun e w' => e = .returned (.bool true) ∧ Below w3.heap.size w3 w') := Lib.hid (fun w3 h => awake_any w3 (HL.out.below (below_ex HB3.out h)))
      go_wp2_with (first | (go_at_call 13; refine SM.out.mono ?_; rintro e w3 ⟨rfl, hw3⟩; have HW3 := Lib.hid hw3; clear hw3) | (go_at_call 14; refine Calls.mono (AW.out _ HW3.out) ?_; rintro e w4 ⟨rfl, hb4⟩; have HB4 := Lib.hid hb4; clear hb4))
      go_ret
      exact ⟨rfl, (below_ex HB3.out HW3.out).trans (HB4.out.mono (below_ex HB3.out HW3.out).size)⟩
end Go.Proofs.YtlgcmpiobglbbaaDoor
