/- nat.product of many, nat.Mul. -/
import Derived.Test.YtafeokkkbiaajabDoorProduct
namespace Go.Proofs.YtafeokkkbiaajabDoor
open Go.RowKit Mth

/-- what product says of lists of at most n -/
def ProdUpto (n : Nat) : Prop := ∀ (w : World) (v : Value) (xss : List (List Nat)), xss.length ≤ n → NatList w v xss → (∀ x ∈ xss, Lim B64 x ∧ 0 < val B64 x ∧ val B64 x < Big) →
    Calls Tryd.prog 27 #[v] w (Ans w (prodL xss))

set_option maxHeartbeats 1000000 in
set_option maxRecDepth 100000 in
theorem product_rec (n : Nat) (ih : ProdUpto n) (w : World) (v : Value) (xss : List (List Nat)) (hn : xss.length ≤ n + 1) (hl3 : 3 ≤ xss.length) (h : NatList w v xss) (hall : ∀ x ∈ xss, Lim B64 x ∧ 0 < val B64 x ∧ val B64 x < Big) :
    Calls Tryd.prog 27 #[v] w (Ans w (prodL xss)) := by
  have hlen := h.len
  obtain ⟨bb, off, cap, rfl, h1, h2, h3, _⟩ := h.pos (by omega)
  obtain ⟨k, hk⟩ : ∃ k, k = xss.length / 2 := ⟨_, rfl⟩
  have hk1 : 1 ≤ k := by omega
  have hk2 : k < xss.length := by omega
  have hleft := ih w _ (xss.take k) (by rw [List.length_take]; omega) (h.take (Nat.le_of_lt hk2)) (fun x hx => hall x (List.mem_of_mem_take hx))
  have HD := Lib.hid (h.drop hk2)
  have HALL := Lib.hid (fun x (hx : x ∈ xss.drop k) => hall x (List.mem_of_mem_drop hx))
  have HDL : Hid ((xss.drop k).length ≤ n) := Lib.hid (by rw [List.length_drop]; omega)
  have hsplit := prodL_split xss k
  have pl : 0 < prodL (xss.take k) := prodL_pos fun x hx => (hall x (List.mem_of_mem_take hx)).2.1
  have pr : 0 < prodL (xss.drop k) := prodL_pos fun x hx => (hall x (List.mem_of_mem_drop hx)).2.1
  have HS := Lib.hid hsplit; have HPL := Lib.hid pl; have HPR := Lib.hid pr; have HLEFT := Lib.hid hleft; have IH := Lib.hid ih
  have hq : (xss.length : Int) / 2 = (k : Int) := by omega
  have hd0 : ((xss.length : Int) == 0) = false := beq_eq_false_iff_ne.2 (by omega)
  have hd1 : ((xss.length : Int) == 1) = false := beq_eq_false_iff_ne.2 (by omega)
  have hd2 : ((xss.length : Int) == 2) = false := beq_eq_false_iff_ne.2 (by omega)
  have hck : k < cap := by omega
  unfold maxLen at h2
  clear ih hall h hk hsplit pl pr hleft hn
  by_cases hbl : Big ≤ prodL (xss.take k)
  · obtain ⟨e1, e2⟩ := cut_big hbl
    obtain ⟨f1, f2⟩ := cut_big (big_mul_left hbl HPR.out)
    rw [← HS.out] at f1 f2
    have hl := HLEFT.out
    unfold Ans at hl
    rw [e1, e2] at hl
    have HL := Lib.hid hl; have F1 := Lib.hid f1; have F2 := Lib.hid f2
    clear e1 e2 f1 f2 hbl hl HLEFT
    go_enter Tryd.func27, Tryd.ntmps27
    go_wp2_with fail
    refine HL.out.mono ?_
    rintro e w1 ⟨v1, rfl, hn1, hb1⟩
    have HB1 := Lib.hid hb1
    clear hn1 hb1
    go_wp2
    go_ret2
    exact ⟨_, by rw [F2.out]; rfl, by rw [F1.out]; exact num_nil _, HB1.out⟩
  · obtain ⟨e1, e2⟩ := cut_small (Nat.lt_of_not_le hbl)
    have hl := HLEFT.out
    unfold Ans at hl
    rw [e1, e2] at hl
    have HL := Lib.hid hl
    clear e1 e2 hbl hl HLEFT
    by_cases hbr : Big ≤ prodL (xss.drop k)
    · obtain ⟨e1, e2⟩ := cut_big hbr
      obtain ⟨f1, f2⟩ := cut_big (big_mul_right hbr HPL.out)
      rw [← HS.out] at f1 f2
      have E1 := Lib.hid e1; have E2 := Lib.hid e2; have F1 := Lib.hid f1; have F2 := Lib.hid f2
      clear e1 e2 f1 f2 hbr
      go_enter Tryd.func27, Tryd.ntmps27
      go_wp2_with fail
      refine HL.out.mono ?_
      rintro e w1 ⟨v1, rfl, hn1, hb1⟩
      have HB1 := Lib.hid hb1
      have hr := IH.out w1 _ _ HDL.out (HD.out.below hb1) HALL.out
      unfold Ans at hr
      rw [E1.out, E2.out] at hr
      have HR := Lib.hid hr
      clear hn1 hb1 hr
      go_wp2_with fail
      refine HR.out.mono ?_
      rintro e w2 ⟨v2, rfl, hn2, hb2⟩
      have HB2 := Lib.hid (below_step HB1.out hb2)
      clear hn2 hb2
      go_wp2
      go_ret2
      exact ⟨_, by rw [F2.out]; rfl, by rw [F1.out]; exact num_nil _, HB2.out⟩
    · obtain ⟨e1, e2⟩ := cut_small (Nat.lt_of_not_le hbr)
      have E1 := Lib.hid e1; have E2 := Lib.hid e2
      clear e1 e2 hbr
      go_enter Tryd.func27, Tryd.ntmps27
      go_wp2_with fail
      refine HL.out.mono ?_
      rintro e w1 ⟨v1, rfl, hn1, hb1⟩
      have HB1 := Lib.hid hb1; have HN1 := Lib.hid hn1
      have hr := IH.out w1 _ _ HDL.out (HD.out.below hb1) HALL.out
      unfold Ans at hr
      rw [E1.out, E2.out] at hr
      have HR := Lib.hid hr
      clear hn1 hb1 hr
      go_wp2_with fail
      refine HR.out.mono ?_
      rintro e w2 ⟨v2, rfl, hn2, hb2⟩
      have HB2 := Lib.hid (below_step HB1.out hb2)
      have HT := Lib.hid (times_num w2 v1 v2 _ _ (HN1.out.below hb2) hn2 HPL.out HPR.out)
      clear hn2 hb2
      go_wp2_with fail
      refine HT.out.mono ?_
      rintro e w3 ⟨v3, rfl, hn3, hb3⟩
      have HN3 := Lib.hid hn3; have HB3 := Lib.hid (below_step HB2.out hb3)
      clear hn3 hb3
      go_wp2
      go_ret2
      unfold Ans
      rw [HS.out]
      exact ⟨_, rfl, HN3.out, HB3.out⟩

theorem product_any : ∀ n, ProdUpto n := by
  intro n
  induction n with
  | zero =>
    intro w v xss hn h _
    obtain rfl : xss = [] := List.eq_nil_of_length_eq_zero (by omega)
    obtain ⟨ao, cap, rfl, h1, h2, h3, h4, h5⟩ := h
    exact product_none w ao cap h2
  | succ n ih =>
    intro w v xss hn h hall
    match xss, hn, h, hall with
    | [], _, h, _ =>
      obtain ⟨ao, cap, rfl, h1, h2, h3, h4, h5⟩ := h
      exact product_none w ao cap h2
    | [xs], _, h, hall =>
      have := hall xs (by simp)
      have e : prodL [xs] = val B64 xs := by simp [prodL]
      rw [e]
      exact product_one w v xs h this.1 this.2.2
    | [xs, ys], _, h, hall =>
      have h1 := hall xs (by simp)
      have h2 := hall ys (by simp)
      have e : prodL [xs, ys] = val B64 xs * val B64 ys := by simp [prodL]
      rw [e]
      exact product_two w v xs ys h h1.1 h2.1 h1.2.1 h2.2.1
    | a :: b :: c :: r, hn, h, hall => exact product_rec n ih w v _ hn (by simp) h hall

set_option maxHeartbeats 1000000 in
set_option maxRecDepth 100000 in
theorem mul_any (w : World) (v : Value) (xss : List (List Nat)) (h : NatList w v xss) (hall : ∀ j, Lim B64 (xss.getD j [])) :
    Calls Tryd.prog 11 #[v] w fun e w' => ∃ v', e = .returned (.tuple #[v', .int .i64 (mulE xss)]) ∧ Num w' v' (mulN xss) ∧ Below w.heap.size w w' := by
  have hlen := h.len
  have HNL := Lib.hid h
  obtain ⟨ao, cap, rfl, h1, h2, h3, h4, h5⟩ := h
  have H5 := Lib.hid h5; have HA := Lib.hid hall
  unfold maxLen at h2
  clear h3 h4 h5 hall
  go_enter Tryd.func11, Tryd.ntmps11
  go_wp2
  go_loop [4, 9] (fun z i => ∃ k : Nat, k ≤ xss.length ∧ i = .int .i64 k ∧ z = .bool (zeroL xss k) ∧ ¬ longL xss k) (fun _ i => xss.length - (intOf i).toNat)
  case atStart => exact ⟨0, Nat.zero_le _, rfl, rfl, fun ⟨j, hj, _⟩ => by omega⟩
  case round =>
    obtain ⟨k, hk, rfl, hzv, hnl⟩ := hrel
    have HNLO := Lib.hid hnl
    clear hnl
    by_cases hlt : k < xss.length
    · obtain ⟨b, off, rfl, hblt, hc⟩ := H5.out (by omega)
      obtain ⟨u, hu, hsu⟩ := hc k hlt
      obtain ⟨a0, c0, rfl⟩ := hsu.shape
      have hlx := HA.out k
      have HLG := Lib.hid (long_iff hlx); have HZ := Lib.hid (nil_iff (xs := xss.getD k [])); have HZS := Lib.hid (zeroL_succ hlt)
      have HSU := Lib.hid hsu
      clear hc hsu hlx
      generalize hxx : xss.getD k [] = xx at *
      have HXX := Lib.hid hxx
      clear hxx
      by_cases hlong : 4096 < (trimL xx).length
      · have hd : decide (4096 < (trimL xx).length) = true := decide_eq_true hlong
        have HL : Hid (longL xss xss.length) := Lib.hid ⟨k, hlt, by rw [HXX.out]; exact HLG.out.1 hlong⟩
        clear hlong hzv
        go_wp2_with fail
        refine (trim_any HSU.out).mono ?_
        rintro e w' ⟨v', rfl, hs', rfl⟩
        have HS' := Lib.hid hs'; clear hs'
        go_wp2_with fail
        refine (tooLong_any HS'.out).mono ?_
        rintro e w' ⟨rfl, rfl⟩
        go_wp2
        go_ret2
        exact ⟨_, by rw [show mulE xss = 5 from if_pos HL.out]; rfl, by rw [show mulN xss = 0 from if_pos HL.out]; exact num_nil _, Below.refl _ _⟩
      · have hd : decide (4096 < (trimL xx).length) = false := decide_eq_false hlong
        have HNL2 : Hid (¬ longL xss (k + 1)) := Lib.hid fun ⟨j, hj, hjl⟩ => by
          by_cases e : j = k
          · subst e; rw [HXX.out] at hjl; exact hlong (HLG.out.2 hjl)
          · exact HNLO.out ⟨j, by omega, hjl⟩
        have hzs := HZS.out
        subst hzv
        generalize hz0 : zeroL xss k = z at *
        have HZ0 := Lib.hid hz0
        clear hlong hz0
        by_cases hn0 : (trimL xx).length = 0
        · have hd0 := len_eq hn0
          have HZZ : Hid (zeroL xss (k + 1) = true) := Lib.hid (by rw [hzs]; simp [HZ.out.1 hn0])
          clear hn0 hzs
          cases z
          all_goals
            go_wp2_with fail
            refine (trim_any HSU.out).mono ?_
            rintro e w' ⟨v', rfl, hs', rfl⟩
            obtain ⟨a2, c2, rfl⟩ := hs'.shape
            have HS' := Lib.hid hs'; clear hs'
            go_wp2_with fail
            refine (tooLong_any HS'.out).mono ?_
            rintro e w' ⟨rfl, rfl⟩
            go_wp2
            go_round
            case rel => exact ⟨k + 1, by omega, by go_num, by rw [HZZ.out], HNL2.out⟩
            case measure => simp [intOf]; omega
        · have hd0 := len_ne hn0
          have HZZ : Hid (zeroL xss (k + 1) = z) := Lib.hid (by
            rw [hzs]
            have : ¬ val B64 xx = 0 := fun h => hn0 (HZ.out.2 h)
            simp [this])
          clear hn0 hzs
          cases z
          all_goals
            go_wp2_with fail
            refine (trim_any HSU.out).mono ?_
            rintro e w' ⟨v', rfl, hs', rfl⟩
            obtain ⟨a2, c2, rfl⟩ := hs'.shape
            have HS' := Lib.hid hs'; clear hs'
            go_wp2_with fail
            refine (tooLong_any HS'.out).mono ?_
            rintro e w' ⟨rfl, rfl⟩
            go_wp2
            go_round
            case rel => exact ⟨k + 1, by omega, by go_num, by rw [HZZ.out], HNL2.out⟩
            case measure => simp [intOf]; omega
    · have hkl : k = xss.length := by omega
      subst hzv
      have HKL := Lib.hid hkl
      have HN : Hid (¬ longL xss xss.length) := Lib.hid (by rw [← hkl]; exact HNLO.out)
      have hz1 : zeroL xss k = zeroL xss xss.length := by rw [← hkl]
      clear hkl
      generalize hz0 : zeroL xss k = z at *
      have e1 : mulE xss = cutE (prodL xss) := if_neg HN.out
      have e2 : mulN xss = cutN (prodL xss) := if_neg HN.out
      have E1 := Lib.hid e1; have E2 := Lib.hid e2; have HZ1 := Lib.hid hz1
      clear e1 e2 hz0 hz1
      cases z
      · have hall : ∀ x ∈ xss, Lim B64 x ∧ 0 < val B64 x ∧ val B64 x < Big := by
          intro x hx
          obtain ⟨j, hj, rfl⟩ := getDL_mem hx
          refine ⟨HA.out j, ?_, ?_⟩
          · have := HZ1.out
            unfold zeroL at this
            rw [List.take_length] at this
            have h0 := List.any_eq_false.1 this.symm _ hx
            exact Nat.pos_of_ne_zero fun e => h0 (by rw [e]; rfl)
          · rcases Nat.lt_or_ge (val B64 (xss.getD j [])) Big with h | h
            · exact h
            · exact absurd ⟨j, hj, h⟩ HN.out
        have HP := Lib.hid (product_any xss.length w _ xss (Nat.le_refl _) HNL.out hall)
        clear hall
        go_wp2_with fail
        refine HP.out.mono ?_
        rintro e w1 ⟨v1, rfl, hn1, hb1⟩
        have HN1 := Lib.hid hn1; have HB1 := Lib.hid hb1
        clear hn1 hb1
        go_wp2
        go_ret2
        exact ⟨_, by rw [E1.out]; rfl, by rw [E2.out]; exact HN1.out, HB1.out⟩
      · have hp : prodL xss = 0 := by
          have := HZ1.out
          unfold zeroL at this
          rw [List.take_length] at this
          obtain ⟨x, hx, h0⟩ := List.any_eq_true.1 this.symm
          exact prodL_zero hx (by simpa using h0)
        have hc := cut_small (n := 0) (by have := one_lt_big; omega)
        rw [← hp] at hc
        have HC := Lib.hid hc
        have HP := Lib.hid hp
        clear hc hp
        go_wp2
        go_ret2
        exact ⟨_, by rw [E1.out, HC.out.2]; rfl, by rw [E2.out, HC.out.1, HP.out]; exact num_nil _, Below.refl _ _⟩
end Go.Proofs.YtafeokkkbiaajabDoor
