/- nat.Add, NatAdds. -/
import Derived.Test.YtafeokkkbiaajabDoorAdd
import Derived.Test.YtafeokkkbiaajabDoorMulR
namespace Go.Proofs.YtafeokkkbiaajabDoor
open Go.RowKit Mth

theorem maxLen_24 {n : Nat} (h : n ≤ 16777217) : n ≤ maxLen := by unfold maxLen; omega
theorem trim_eq' {ao : Option Addr} {n cap : Nat} {xs : List Nat} {w : World} (h : Sl w .u64 (.slice ao n cap) xs) :
    Calls Tryd.prog 18 #[.slice ao n cap] w fun e w' => e = .returned (.slice ao (tlen xs) cap) ∧ w = w' :=
  (trim_eq h).mono fun _ _ ⟨h1, h2⟩ => ⟨h1, h2.symm⟩
/-- what Add's first loop holds; the second -/
def AddA (xss : List (List Nat)) (l i : Value) : Prop := ∃ k L : Nat, k ≤ xss.length ∧ i = .int .i64 k ∧ l = .int .i64 L ∧ L ≤ 4096 ∧ (∀ j, j < k → (trimL (xss.getD j [])).length ≤ L) ∧ (∀ j, j < k → val B64 (xss.getD j []) < Big)
def AddB (w wr : World) (xss : List (List Nat)) (L : Nat) (i : Value) : Prop := ∃ (k : Nat) (R : List Nat), k ≤ xss.length ∧ i = .int .i64 k ∧ Row wr 36 .u64 w.heap.size R ∧ R.length = L + 1 ∧ Lim B64 R ∧ val B64 R = sumL (xss.take k) ∧ Below w.heap.size w wr
/-- one more number fits -/
theorem add_room {xss : List (List Nat)} {k L : Nat} (hk : k < xss.length) (hn : xss.length ≤ 16777216) (hl : ∀ j, Lim B64 (xss.getD j [])) (h : ∀ j, j < xss.length → (trimL (xss.getD j [])).length ≤ L) : sumL (xss.take (k + 1)) < B64 ^ (L + 1) := by
  have h1 : ∀ j, j < k + 1 → val B64 (xss.getD j []) ≤ B64 ^ L := fun j hj => by
    have a1 := val_lt (lim_trimL (hl j))
    rw [val_trimL] at a1
    have a2 : B64 ^ (trimL (xss.getD j [])).length ≤ B64 ^ L := Nat.pow_le_pow_right (by have := B64_pos; omega) (h j (by omega))
    omega
  have h2 := sumL_le (k + 1) (by omega) h1
  refine Nat.lt_of_le_of_lt h2 ?_
  rw [Nat.pow_succ, Nat.mul_comm]
  exact Nat.mul_lt_mul_of_pos_left (by unfold B64; omega) (Nat.pow_pos (by have := B64_pos; omega))
theorem putT_all {R R' b : List Nat} {n c : Nat} (h : PutT R R' 0 b n c) (hn : n = R.length) (hb : b.length ≤ n) (hv : val B64 R + val B64 b < B64 ^ n) : val B64 R' = val B64 R + val B64 b := by
  have e := h.eq
  subst hn
  have e2 : seg R' 0 R.length = val B64 R' := by rw [← h.len]; exact seg_all R'
  rw [e2, seg_all, List.take_of_length_le hb] at e
  have hc := h.cle
  have : c = 0 ∨ c = 1 := by omega
  rcases this with rfl | rfl
  · omega
  · rw [Nat.mul_one] at e; omega

set_option maxHeartbeats 2000000 in
set_option maxRecDepth 100000 in
theorem add_any (v : Value) (xss : List (List Nat)) (w : World) (h : NatList w v xss) (hl : ∀ j, Lim B64 (xss.getD j [])) :
    Calls Tryd.prog 10 #[v] w fun e w' => ∃ v', e = .returned (.tuple #[v', .int .i64 (addE xss)]) ∧ Num w' v' (addN xss) ∧ Below w.heap.size w w' := by
  have hlen := h.len
  obtain ⟨ao, cap, rfl, h1, h2, h3, h4, h5⟩ := h
  have H5 := Lib.hid h5; have HL := Lib.hid hl
  unfold maxLen at h2
  clear h3 h4 h5 hl
  go_enter Tryd.func10, Tryd.ntmps10
  go_wp2
  go_loop [4, 12] (fun l i => AddA xss l i) (fun _ i => xss.length - (intOf i).toNat)
  case atStart => exact ⟨0, 0, Nat.zero_le _, rfl, rfl, by omega, fun j hj => by omega, fun j hj => by omega⟩
  case round =>
    obtain ⟨k, L, hk, rfl, rfl, hL, hA, hB⟩ := hrel
    have HA := Lib.hid hA; have HB := Lib.hid hB
    by_cases hlt : k < xss.length
    · obtain ⟨b, off, rfl, hblt, hc⟩ := H5.out (by omega)
      obtain ⟨u, hu, hsu⟩ := hc k hlt
      obtain ⟨a0, c0, rfl⟩ := hsu.shape
      have HT := Lib.hid (trim_eq' hsu)
      have HS := Lib.hid hsu.trim
      have HI := Lib.hid (long_iff (HL.out k))
      have HLB : Hid (Big ≤ val B64 (xss.getD k []) → longB xss xss.length = true) := Lib.hid fun h => long_of hlt h rfl
      have HA1 : Hid (∀ L', L ≤ L' → (trimL (xss.getD k [])).length ≤ L' → ∀ j, j < k + 1 → (trimL (xss.getD j [])).length ≤ L') := Lib.hid fun L' h h' j hj => by
        rcases Nat.lt_or_ge j k with h1 | h1
        · exact Nat.le_trans (hA j h1) h
        · rw [show j = k by omega]; exact h'
      have HB1 : Hid (¬ Big ≤ val B64 (xss.getD k []) → ∀ j, j < k + 1 → val B64 (xss.getD j []) < Big) := Lib.hid fun h j hj => by
        rcases Nat.lt_or_ge j k with h1 | h1
        · exact hB j h1
        · rw [show j = k by omega]; omega
      have hlt' : tlen (xss.getD k []) = (trimL (xss.getD k [])).length := (length_trimL _).symm
      rw [hlt'] at HT HS
      clear hc hsu hA hB hlt'
      generalize hxx : xss.getD k [] = xx at *
      generalize trimL xx = ts at *
      have HSL := HS.out.len
      go_wp2_with fail
      refine HT.out.mono ?_
      rintro e w' ⟨rfl, rfl⟩
      by_cases hg : 4096 < ts.length
      · have hd : decide (4096 < ts.length) = true := decide_eq_true hg
        have E := Lib.hid (add_long (HLB.out (HI.out.1 hg)))
        clear hg
        go_wp2_with fail
        refine (tooLong_any HS.out).mono ?_
        rintro e w' ⟨rfl, rfl⟩
        go_wp2
        go_ret2
        exact ⟨_, by rw [E.out.2]; rfl, by rw [E.out.1]; exact num_nil _, Below.refl _ _⟩
      · have hd : decide (4096 < ts.length) = false := decide_eq_false hg
        have HB2 := Lib.hid (HB1.out (fun h => hg (HI.out.2 h)))
        have hg' : ts.length ≤ 4096 := by omega
        clear hg
        go_wp2_with fail
        refine (tooLong_any HS.out).mono ?_
        rintro e w' ⟨rfl, rfl⟩
        go_wp2
        go_round
        case rel => exact ⟨k + 1, max L ts.length, by omega, by go_num, by congr 1; omega, by omega, HA1.out _ (Nat.le_max_left _ _) (Nat.le_max_right _ _), HB2.out⟩
        case measure => simp [intOf]; omega
    · have HALL : Hid (∀ j, j < xss.length → (trimL (xss.getD j [])).length ≤ L) := Lib.hid fun j hj => hA j (by omega)
      have HNB : Hid (longB xss xss.length = false) := Lib.hid (by
        rw [← Bool.not_eq_true, longB_iff]
        rintro ⟨j, hj, h⟩
        have := hB j (by omega)
        omega)
      clear hA hB
      go_wp2_with (at_make; refine make_nat rfl _ _ rfl _ _ (L + 1) rfl rfl (by simp) (by simp) (by omega) ?_; intro w1 hrow hb1)
      have HROW := Lib.hid hrow; have HB1 := Lib.hid hb1
      clear hrow hb1
      go_loopw [30] (fun i wr => AddB w wr xss L i) (fun i _ => xss.length - (intOf i).toNat)
      case atStart => exact ⟨0, _, Nat.zero_le _, rfl, HROW.out, by simp, fun j => by rw [getD_replicate]; have := B64_pos; omega, by rw [val_zero (fun j => getD_replicate _ _)]; rfl, HB1.out⟩
      case round =>
        obtain ⟨k2, R, hk2, rfl, hrow, hRl, hRm, hRv, hbel⟩ := hrel
        have HB2 := Lib.hid hbel; have HR := Lib.hid hrow; have HRL := Lib.hid hRl; have HRM := Lib.hid hRm; have HRV := Lib.hid hRv
        by_cases hlt2 : k2 < xss.length
        · obtain ⟨b, off, rfl, hblt, hc⟩ := H5.out (by omega)
          obtain ⟨u, hu, hsu0⟩ := hc k2 hlt2
          have hur : wr.cell? ⟨b, off + k2, none⟩ = some u := (hbel.cell (p := ⟨b, off + k2, none⟩) hblt).trans hu
          obtain ⟨a0, c0, rfl⟩ := hsu0.shape
          have hsu := hsu0.below hbel
          have HT := Lib.hid (trim_eq' hsu)
          have HS := Lib.hid hsu.trim
          have hne : inBlock (.slice a0 (tlen (xss.getD k2 [])) c0) ≠ some w.heap.size ∨ trimL (xss.getD k2 []) = [] := by
            by_cases hu : trimL (xss.getD k2 []) = []
            · exact .inr hu
            · left
              have hs0 := hsu0.trim
              obtain ⟨b9, o9, c9, e9, _, _, hb9, _⟩ := hs0.pos (List.length_pos_iff.2 hu)
              simp only [Value.slice.injEq] at e9
              obtain ⟨rfl, _, _⟩ := e9
              simp [inBlock]; omega
          have HSU := Lib.hid (sumL_take_succ hlt2)
          have HROOM := Lib.hid (add_room hlt2 hlen HL.out HALL.out)
          have hlen2 := HALL.out k2 hlt2
          have hlim := lim_trimL (HL.out k2)
          have hval : val B64 (trimL (xss.getD k2 [])) = val B64 (xss.getD k2 []) := val_trimL _ _
          have hlt' : tlen (xss.getD k2 []) = (trimL (xss.getD k2 [])).length := (length_trimL _).symm
          rw [hlt'] at HT HS hne
          rw [← hval] at HSU
          rw [HSU.out, ← HRV.out] at HROOM
          clear hc hsu hsu0 hlt' hval hrow hbel
          generalize xss.getD k2 [] = xx at *
          generalize trimL xx = ts at *
          have HNE := Lib.hid hne; have HLEN2 := Lib.hid hlen2; have HLIM := Lib.hid hlim
          clear hne hlim
          go_wp2_with fail
          refine HT.out.mono ?_
          rintro e w' ⟨rfl, rfl⟩
          have AD := Lib.hid (addTo_any w.heap.size 0 (L + 1) (L + 1) R ts _ _ HR.out HRM.out HS.out HLIM.out HNE.out (by omega) (by rw [HRL.out]; omega) (Nat.le_refl _) (maxLen_24 (by omega)) (by rw [HRL.out]; omega))
          go_wp2_with fail
          refine AD.out.mono ?_
          rintro e w3 ⟨rfl, R', c', hr3, hg3, hp3⟩
          have HR3 := Lib.hid hr3; have HG3 := Lib.hid hg3; have HP3 := Lib.hid hp3
          clear hr3 hg3 hp3
          go_wp2
          go_roundw
          case rel =>
            refine ⟨k2 + 1, R', by omega, by go_num, HR3.out, by rw [HP3.out.len, HRL.out], HP3.out.lim, ?_, below_of_grown HB2.out HG3.out (Nat.le_refl _) HB2.out.size⟩
            rw [HSU.out, ← HRV.out]
            exact putT_all HP3.out HRL.out.symm (by have := HLEN2.out; omega) HROOM.out
          case measure => simp [intOf]; omega
        · have e : xss.take k2 = xss := List.take_of_length_le (by omega)
          rw [e] at hRv
          have HV := Lib.hid hRv
          have hsl := hrow.sl_all (by rw [hRl]; omega)
          rw [hRl] at hsl
          have HS := Lib.hid hsl
          have E := Lib.hid (add_fine HNB.out)
          clear hrow hRl hRm hRv hbel hsl e
          go_wp2_with fail
          refine (answer_any HS.out HRM.out).mono ?_
          rintro e w' ⟨v', rfl, hN, rfl⟩
          have HN := Lib.hid hN
          clear hN
          rw [HV.out] at HN
          go_wp2
          go_ret2
          exact ⟨_, by rw [E.out.2, ← HV.out]; rfl, by rw [E.out.1]; exact HN.out, HB2.out⟩

end Go.Proofs.YtafeokkkbiaajabDoor
