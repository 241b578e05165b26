/- PYO. -/
import Derived.Test.YtnbnnkdepceciaaGreatDoorPG7
set_option linter.unusedVariables false
set_option linter.unusedSimpArgs false
/- SexpLooks: the walk. -/
namespace Go.Proofs.YtnbnnkdepceciaaGreatDoor
open Go.RowKit Mth

set_option maxRecDepth 100000 in
theorem rdepth_out {T : List Nd} (v : Value) (r : Int) (w : World) (h : SxL w v T) (hr : ¬ (0 ≤ r ∧ r < T.length)) :
    Calls Tryz.prog 18 #[v, .int .i64 r] w fun e w' => e = .returned (.tuple #[.int .i64 0, .int .i64 1]) ∧ w' = w := by
  have CK := Lib.hid (rcheck_out T v r w h hr)
  obtain ⟨ao, cap, rfl⟩ := h.shape
  clear h hr
  go_enter Tryz.func18, Tryz.ntmps18
  go_wp2_with fail
  refine CK.out.mono ?_
  rintro e w0 ⟨rfl, rfl⟩
  go_wp2
  go_ret2
  exact ⟨rfl, rfl⟩
/-- the two depths answer alike -/
theorem depths_both {T : List Nd} (C : TabC T) (v : Value) (r : Int) (w : World) (h : SxL w v T) (hL : LexW w) : ∃ x y : Int, (∀ W, Below w.heap.size w W → Calls Tryz.prog 17 #[v, .int .i64 r] W fun e w' => e = .returned (.tuple #[.int .i64 x, .int .i64 y]) ∧ Below W.heap.size W w') ∧
    (∀ W, Below w.heap.size w W → Calls Tryz.prog 18 #[v, .int .i64 r] W fun e w' => e = .returned (.tuple #[.int .i64 x, .int .i64 y]) ∧ Below W.heap.size W w') := by
  by_cases hr : 0 ≤ r ∧ r < T.length
  · obtain ⟨k, rfl⟩ : ∃ k : Nat, r = k := ⟨r.toNat, by omega⟩
    have hk : k < T.length := by omega
    by_cases hs : Sound T k
    · refine ⟨numF baseD moreD T k, 0, fun W hW => ?_, fun W hW => ?_⟩
      · refine (depth_any C v (k : Int) W (h.below hW) (hL.below hW)).mono ?_
        rintro e w' ⟨⟨hn, _⟩ | ⟨j, hj, _, ⟨_, rfl⟩ | ⟨hn, _⟩⟩, hb⟩
        · exact absurd hr hn
        · obtain rfl : k = j := by omega
          exact ⟨rfl, hb⟩
        · obtain rfl : k = j := by omega
          exact absurd hs hn
      · refine (rdepth_in C v k W (h.below hW) hk).mono ?_
        rintro e w' ⟨⟨_, rfl⟩ | ⟨hn, _⟩, hb⟩
        · exact ⟨rfl, hb⟩
        · exact absurd hs hn
    · refine ⟨0, 73, fun W hW => ?_, fun W hW => ?_⟩
      · refine (depth_any C v (k : Int) W (h.below hW) (hL.below hW)).mono ?_
        rintro e w' ⟨⟨hn, _⟩ | ⟨j, hj, _, ⟨hn, _⟩ | ⟨_, rfl⟩⟩, hb⟩
        · exact absurd hr hn
        · obtain rfl : k = j := by omega
          exact absurd hn hs
        · exact ⟨rfl, hb⟩
      · refine (rdepth_in C v k W (h.below hW) hk).mono ?_
        rintro e w' ⟨⟨hn, _⟩ | ⟨_, rfl⟩, hb⟩
        · exact absurd hn hs
        · exact ⟨rfl, hb⟩
  · refine ⟨0, 1, fun W hW => ?_, fun W hW => ?_⟩
    · refine (depth_any C v r W (h.below hW) (hL.below hW)).mono ?_
      rintro e w' ⟨⟨_, rfl⟩ | ⟨j, hj, hl, _⟩, hb⟩
      · exact ⟨rfl, hb⟩
      · exact absurd ⟨by omega, by omega⟩ hr
    · refine (rdepth_out v r W (h.below hW) hr).mono ?_
      rintro e w' ⟨rfl, rfl⟩
      exact ⟨rfl, Below.refl _ _⟩
theorem kidsF_small {T : List Nd} (C : TabC T) (r : Int) : (kidsF T r).length ≤ 1048576 := by
  unfold kidsF
  split
  · rename_i nd hnd
    split
    · unfold ndAt at hnd
      split at hnd
      · exact C.kids nd (List.mem_of_getElem? hnd)
      · cases hnd
    · simp
  · simp
set_option maxHeartbeats 16000000 in
set_option maxRecDepth 100000 in
theorem looks_walk (w : World) (v : Value) (r : Int) (T : List Nd) (C : TabC T) (h : SxL w v T) (hL : LexW w) : Calls Tryz.prog 5 #[v, .int .i64 r] w fun e w' => e = .returned (.bool true) ∧ Below w.heap.size w w' := by
  obtain ⟨x, y, hd1, hd2⟩ := depths_both C v r w h hL
  have D1 := Lib.hid hd1; have D2 := Lib.hid hd2
  have H1 := Lib.hid (head_any v T r w h)
  have H2 : Hid (∀ W, Below w.heap.size w W → Calls Tryz.prog 16 #[v, .int .i64 r] W fun e w' => e = .returned (headV (headF T r)) ∧ Below W.heap.size W w') := Lib.hid (fun W hW => rhead_any v T r W (h.below hW))
  have K1 : Hid (∀ W, Below w.heap.size w W → Calls Tryz.prog 19 #[v, .int .i64 r] W fun e w' => ∃ v', e = .returned v' ∧ InL w' v' (kidsF T r) ∧ Below W.heap.size W w') := Lib.hid (fun W hW => (kids_any v T r W (h.below hW) (kidsF_small C r)).mono (by
    rintro e w' ⟨v', rfl, ho, hb⟩
    exact ⟨v', rfl, own_inL ho, hb⟩))
  have K2 : Hid (∀ W, Below w.heap.size w W → Calls Tryz.prog 20 #[v, .int .i64 r] W fun e w' => ∃ v', e = .returned v' ∧ InL W v' (kidsF T r) ∧ w' = W) := Lib.hid (fun W hW => rkids_any v T r W (h.below hW))
  have KL := Lib.hid (kidsF_small C r)
  have AL : Hid (∀ W, Below w.heap.size w W → Calls Tryz.prog 12 #[] W fun e w' => e = .returned (.bool true) ∧ Below W.heap.size W w') := Lib.hid (fun W hW => alive7_any W (hL.below hW))
  obtain ⟨ao, cap, rfl⟩ := h.shape
  unfold headV at H1 H2
  clear h hL C hd1 hd2
  generalize headF T r = o at *
  generalize kidsF T r = ks at *
  obtain ⟨s, hs⟩ : ∃ s, o.getD ⟨#[]⟩ = s := ⟨_, rfl⟩
  obtain ⟨b, hb⟩ : ∃ b, o.isSome = b := ⟨_, rfl⟩
  rw [hs, hb] at H1 H2
  clear hs hb
  go_enter Tryz.func5, Tryz.ntmps5
  go_wp2_with fail
  refine H1.out.mono ?_
  rintro e w1 ⟨rfl, hb1⟩
  have B1 := Lib.hid hb1
  clear hb1 H1
  go_wp2_with fail
  refine (H2.out _ B1.out).mono ?_
  rintro e w2 ⟨rfl, hb2⟩
  have B2 := Lib.hid (belowT B1.out hb2)
  clear hb2 H2
  go_wp2_with fail
  refine (D1.out _ B2.out).mono ?_
  rintro e w3 ⟨rfl, hb3⟩
  have B3 := Lib.hid (belowT B2.out hb3)
  clear hb3 D1
  go_wp2_with fail
  refine (D2.out _ B3.out).mono ?_
  rintro e w4 ⟨rfl, hb4⟩
  have B4 := Lib.hid (belowT B3.out hb4)
  clear hb4 D2
  go_wp2_with fail
  refine (K1.out _ B4.out).mono ?_
  rintro e w5 ⟨v5, rfl, hi5, hb5⟩
  have B5 := Lib.hid (belowT B4.out hb5)
  have I5 := Lib.hid hi5
  obtain ⟨a5, c5, rfl⟩ := hi5.shape
  clear hb5 hi5 K1
  go_wp2_with fail
  refine (K2.out _ B5.out).mono ?_
  rintro e w6 ⟨v6, rfl, hi6, rfl⟩
  have SM := Lib.hid (sameInts_any _ _ ks ks w6 I5.out hi6 (by have := KL.out; omega))
  obtain ⟨a6, c6, rfl⟩ := hi6.shape
  rw [decide_eq_true rfl] at SM
  clear hi6 K2
  go_wp2_with fail
  refine SM.out.mono ?_
  rintro e w7 ⟨rfl, m, hm⟩
  have B7 : Hid (Below w.heap.size w w7) := Lib.hid (by rw [hm]; exact below_drewN B5.out m)
  clear hm SM
  go_wp2_with fail
  refine (AL.out _ B7.out).mono ?_
  rintro e w8 ⟨rfl, hb8⟩
  have B8 := Lib.hid (belowT B7.out hb8)
  clear hb8
  go_wp2
  go_ret
  exact ⟨rfl, B8.out⟩
end Go.Proofs.YtnbnnkdepceciaaGreatDoor
