/- LexisAgain: the walk. -/
import Derived.Test.YtlgcmpiobglbbaaDoorKG
import Derived.Test.YtlgcmpiobglbbaaDoorKN
set_option linter.unusedVariables false
set_option linter.unusedSimpArgs false
namespace Go.Proofs.YtlgcmpiobglbbaaDoor
open Go.RowKit Mth

theorem wr_ge {x : Tk} (h : 0 < (wrT x).length) : x.t.size ≤ (wrT x).length := by
  have hl := len_data x.t
  have hd := dbl_len x.t.data.toList
  revert h
  unfold wrT wrL
  (repeat' split) <;> (intro h; try simp only [List.length_cons, List.length_append, List.length_nil] at h ⊢) <;> omega
theorem good_tsize {x : Tk} (h : Good x) : x.t.size ≤ 1048576 := by
  have h1 := good_wr h
  obtain ⟨_, _, h0, _, _⟩ := h
  rw [← wrT_len] at h0
  exact Nat.le_trans (wr_ge h0) h1
set_option maxHeartbeats 2000000 in
set_option maxRecDepth 100000 in
theorem again_walk (w : World) (s : ByteArray) (hs : s.size ≤ 1048576) (hL : LexW w) : Calls Tryd.prog 7 #[.string s] w fun e w' => e = .returned (.bool true) ∧ Below w.heap.size w w' := by
  have HL := Lib.hid hL
  have AW := Lib.hid (awake_any w hL)
  clear hL
  go_enter Tryd.func7, Tryd.ntmps7
  go_wp2_with fail
  refine AW.out.mono ?_
  rintro e w1 ⟨rfl, hb⟩
  have HB1 := Lib.hid hb
  have SC := Lib.hid (scan_any s hs w1 (HL.out.below hb))
  clear hb
  go_wp2_with fail
  refine SC.out.mono ?_
  rintro e w2 ⟨hb2, (⟨L, v, hLs, rfl, htk, hfar⟩ | ⟨E, x0, y0, hbad, hE, rfl⟩)⟩
  · have HB2 : Hid (Below w.heap.size w w2) := Lib.hid (HB1.out.trans (hb2.mono HB1.out.size))
    have HTK := Lib.hid htk
    have HG := Lib.hid (scan_good hs hLs)
    have hlen : L.length ≤ 1048576 := by have := scan_len hLs; omega
    have JN := Lib.hid (join_any L v w2 (HL.out.below HB2.out) htk hlen (fun x hx => good_tsize (HG.out.1 x hx)))
    clear hb2 htk hfar hLs
    go_wp2_with fail
    refine JN.out.mono ?_
    rintro e w3 ⟨hb3, (⟨hg, hz, rfl⟩ | ⟨hg, hz, rfl⟩ | ⟨hg, rfl⟩)⟩
    · have HB3 : Hid (Below w.heap.size w w3) := Lib.hid (HB2.out.trans (hb3.mono HB2.out.size))
      have HTK3 := Lib.hid (HTK.out.below hb3)
      have SC2 := Lib.hid (scan_any ⟨(catL none L).toArray⟩ (by rw [size_list]; exact hz) w3 (HL.out.below HB3.out))
      have HC := Lib.hid (scan_cat hg)
      clear hb3 hg hz
      go_wp2_with fail
      refine SC2.out.mono ?_
      rintro e w4 ⟨hb4, (⟨M, u, hMs, rfl, htk4, hfar4⟩ | ⟨E, x0, y0, hbad, hE, rfl⟩)⟩
      · have HB4 : Hid (Below w.heap.size w w4) := Lib.hid (HB3.out.trans (hb4.mono HB3.out.size))
        have hsame : SameL false L M := by
          obtain ⟨M', hM', hsm⟩ := HC.out
          rw [hM'] at hMs
          injection hMs with e
          subst e; exact hsm
        have SM := Lib.hid (same_any L M v u false w4 (HTK3.out.below hb4) htk4 hsame hlen)
        clear hb4 htk4 hfar4 hMs hsame
        go_wp2_with (go_at_call 13; refine SM.out.mono ?_; rintro e w5 ⟨rfl, hw5⟩; have HW5 := Lib.hid hw5; clear hw5)
        go_ret
        exact ⟨rfl, below_ex HB4.out HW5.out⟩
      · exfalso
        obtain ⟨M', hM', _⟩ := HC.out
        rw [hM'] at hbad; cases hbad
    · have HB3 : Hid (Below w.heap.size w w3) := Lib.hid (HB2.out.trans (hb3.mono HB2.out.size))
      have hsz : 524286 < s.size := by have := HG.out.2 none; omega
      clear hb3 hg hz
      go_wp2
      go_ret
      exact ⟨ret_b (by simp; omega), HB3.out⟩
    · exact absurd HG.out.1 hg
  · have HB2 : Hid (Below w.heap.size w w2) := Lib.hid (HB1.out.trans (hb2.mono HB1.out.size))
    have hE0 : ((E : Int) != 0) = true := by rw [bne_iff_ne]; omega
    clear hb2 hbad hE
    go_wp2
    go_ret
    exact ⟨rfl, HB2.out⟩
end Go.Proofs.YtlgcmpiobglbbaaDoor
