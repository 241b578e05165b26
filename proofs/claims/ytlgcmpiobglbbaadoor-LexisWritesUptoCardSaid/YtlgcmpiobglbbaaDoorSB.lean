/- package sort: simple names and how names are written, of the program and of the reference. -/
import Derived.Test.YtlgcmpiobglbbaaDoorSA
set_option linter.unusedVariables false
set_option linter.unusedSimpArgs false
namespace Go.Proofs.YtlgcmpiobglbbaaDoor
open Go.RowKit Mth

def hasCells (S : List ByteArray) : Array Value := (S.map Value.string).toArray
/-- does a text stand in a list? -/
def HsR (S : List ByteArray) (t : ByteArray) (i : Value) : Prop := ∃ k : Nat, k ≤ S.length ∧ i = .int .i64 (k : Int) ∧ ∀ (j : Nat) (x : ByteArray), j < k → S[j]? = some x → x ≠ t
theorem ba_list {a b : ByteArray} : a.toList = b.toList ↔ a = b := by
  constructor
  · intro e
    rw [ByteArray.toList_eq, ByteArray.toList_eq] at e
    cases a; cases b; exact congrArg ByteArray.mk (Array.toList_inj.1 e)
  · intro e; rw [e]
set_option maxHeartbeats 2000000 in
set_option maxRecDepth 100000 in
theorem hasR_any (S : List ByteArray) (v : Value) (t : ByteArray) (w : World) (hv : StL w v S) (hlen : S.length ≤ 1048576) : Calls Tryd.prog 73 #[v, .string t] w fun e w' => Says w w' (t ∈ S) e := by
  obtain ⟨ao, cap, rfl, hc⟩ := hv
  have HC := Lib.hid hc
  clear hc
  go_enter Tryd.func73, Tryd.ntmps73
  go_wp2
  go_loop [5] (fun i => HsR S t i) (fun i => S.length - (intOf i).toNat)
  case atStart => exact ⟨0, Nat.zero_le _, rfl, fun j x hj => by omega⟩
  case round =>
    obtain ⟨k, hk, rfl, hno⟩ := hrel
    have HNO := Lib.hid hno
    clear hno
    by_cases hlt : k < S.length
    · have hx : S[k]? = some S[k] := List.getElem?_eq_getElem hlt
      have hne : S ≠ [] := fun e => by rw [e] at hlt; simp at hlt
      obtain ⟨b, off, rfl, hblt, hcc⟩ := HC.out hne
      have c0 := hcc k _ hx
      have HX := Lib.hid hx
      have HM : Hid (S[k] ∈ S) := Lib.hid (List.getElem_mem hlt)
      generalize S[k] = x at *
      clear hx hne hcc HC
      by_cases hxt : x = t
      · subst hxt
        go_wp2
        go_ret
        exact says_yes HM.out
      · have e1 : (x.toList == t.toList) = false := beq_eq_false_iff_ne.2 (fun e => hxt (ba_list.1 e))
        have HN2 : Hid (∀ (j : Nat) (y : ByteArray), j < k + 1 → S[j]? = some y → y ≠ t) := Lib.hid (fun j y hj hy => by
          by_cases e : j = k
          · subst e; have := HX.out.symm.trans hy; obtain rfl := Option.some.inj this; exact hxt
          · exact HNO.out j y (by omega) hy)
        clear hxt
        go_wp2
        go_round
        case rel => exact ⟨k + 1, by omega, by go_num, HN2.out⟩
        case measure => simp [intOf]; omega
    · obtain rfl : k = S.length := by omega
      have HN : Hid (¬ t ∈ S) := Lib.hid (fun h => by
        obtain ⟨j, hj, e⟩ := List.mem_iff_getElem.1 h
        exact HNO.out j t hj (by rw [List.getElem?_eq_getElem hj, e]) rfl)
      go_wp2
      go_ret
      exact says_no HN.out
def resB : List ByteArray := resL.map fun l => ⟨l.toArray⟩
theorem res_iff {s : ByteArray} : s ∈ resB ↔ isRes s := by
  unfold isRes resB
  rw [List.mem_map]
  constructor
  · rintro ⟨l, hl, rfl⟩
    rw [ByteArray.toList_eq]
    exact hl
  · intro h
    refine ⟨s.toList, h, ?_⟩
    rw [ByteArray.toList_eq]
set_option maxHeartbeats 2000000 in
set_option maxRecDepth 100000 in
theorem reservedR_any (s : ByteArray) (w : World) : Calls Tryd.prog 54 #[.string s] w fun e w' => (∃ b : Bool, e = .returned (.bool b) ∧ (b = true ↔ isRes s)) ∧ Below w.heap.size w w' := by
  have HB : Hid (∀ o, Below w.heap.size w (w.alloc o)) := Lib.hid (fun o => (Below.refl _ _).alloc (Nat.le_refl _) _)
  have HA : Hid (StL (w.alloc (Obj.cells (hasCells resB) 9)) (.slice (some ⟨w.heap.size, 0, none⟩) 36 36) resB) := Lib.hid (by
    refine ⟨_, _, rfl, fun _ => ⟨_, 0, rfl, by simp, fun i x hx => ?_⟩⟩
    have h := heap_alloc_new w (Obj.cells (hasCells resB) 9)
    rw [cell_of_row _ w.heap.size _ _ _ (0, 0) h, Nat.zero_add]
    unfold hasCells
    rw [List.getElem?_toArray, List.getElem?_map, hx]; rfl)
  go_enter Tryd.func54, Tryd.ntmps54
  go_wp2_with fail
  refine (hasR_any resB _ s _ HA.out (by decide)).mono ?_
  rintro e w2 ⟨b, rfl, hb, rfl⟩
  have HBB := Lib.hid (hb.trans res_iff)
  clear hb
  go_wp2
  go_ret
  exact ⟨⟨b, rfl, HBB.out⟩, HB.out _⟩
theorem more_index (c : Nat) (hc : c ≤ 255) : (0 ≤ Lib.indexByte [126, 33, 64, 36, 37, 94, 38, 42, 95, 45, 43, 61, 60, 62, 46, 63, 47] ((c : Int).toNat.toUInt8)) ↔ bMore c = true := by
  have h := indexB_mem [126, 33, 64, 36, 37, 94, 38, 42, 95, 45, 43, 61, 60, 62, 46, 63, 47] ((c : Int).toNat.toUInt8)
  have key : ∀ n : Nat, n < 256 → (([126, 33, 64, 36, 37, 94, 38, 42, 95, 45, 43, 61, 60, 62, 46, 63, 47] : List UInt8).contains ((n : Int).toNat.toUInt8)) = bMore n := by decide +kernel
  rw [key c (by omega)] at h
  rw [← h, decide_eq_true_iff]
theorem moreS_any (c : Nat) (hc : c ≤ 255) (w : World) : Calls Tryd.prog 72 #[.string ⟨#[126, 33, 64, 36, 37, 94, 38, 42, 95, 45, 43, 61, 60, 62, 46, 63, 47]⟩, .int .u8 ((c : Nat) : Int)] w fun e w' => ∃ z : Int, e = .returned (.int .i64 z) ∧ (0 ≤ z ↔ bMore c = true) ∧ w = w' := by
  refine (Tryd.strings_IndexByte ⟨#[126, 33, 64, 36, 37, 94, 38, 42, 95, 45, 43, 61, 60, 62, 46, 63, 47]⟩ (c : Int) w).mono ?_
  rintro e w' ⟨rfl, rfl⟩
  exact ⟨_, rfl, more_index c hc, rfl⟩
theorem simple_parts {c : Nat} : bSimple c = (((decide (97 ≤ c) && decide (c ≤ 122)) || (decide (65 ≤ c) && decide (c ≤ 90))) || bDig c || bMore c) := rfl
theorem not_name {s : ByteArray} (h : ¬ isName s) : ¬ isSimple s := fun k => h k.1
set_option maxHeartbeats 2000000 in
set_option maxRecDepth 100000 in
theorem simpleS_any (s : ByteArray) (hs : s.size ≤ 1048576) (w : World) : Calls Tryd.prog 52 #[.string s] w fun e w' => Says w w' (isSimple s) e := by
  go_enter Tryd.func52, Tryd.ntmps52
  go_wp2_with fail
  refine (nameS_any s hs w).mono ?_
  rintro e w1 ⟨b, rfl, hb, rfl⟩
  cases b with
  | false =>
    have HN : Hid (¬ isSimple s) := Lib.hid (fun k => by have := hb.2 k.1; cases this)
    clear hb
    go_wp2
    go_ret
    exact says_no HN.out
  | true =>
    have HNM := Lib.hid (hb.1 rfl)
    have hlt0 : 0 < s.size := HNM.out.1
    have hb0 := cb_at hlt0
    have DG := Lib.hid (digitS_any (cb s 0) (cb_lt s 0) w)
    clear hb
    rcases Bool.eq_false_or_eq_true (bDig (cb s 0)) with hd | hd
    · have HN : Hid (¬ isSimple s) := Lib.hid (fun k => by rw [k.2.1] at hd; cases hd)
      rw [hd] at DG
      clear hd
      go_wp2_with (go_at_call 69; refine DG.out.mono ?_; rintro e w1 ⟨rfl, rfl⟩)
      go_ret
      exact says_no HN.out
    · have HDG := Lib.hid hd
      rw [hd] at DG
      clear hd
      go_wp2_with (go_at_call 69; refine DG.out.mono ?_; rintro e w1 ⟨rfl, rfl⟩)
      refine (reservedS_any s w).mono ?_
      rintro e w1 ⟨b, rfl, hb, rfl⟩
      cases b with
      | true =>
        have HN : Hid (¬ isSimple s) := Lib.hid (fun k => k.2.2.1 (hb.1 rfl))
        clear hb
        go_wp2
        go_ret
        exact says_no HN.out
      | false =>
        have HRS : Hid (¬ isRes s) := Lib.hid (fun k => by have := hb.2 k; cases this)
        clear hb
        go_wp2
        go_loop [3, 18] (fun _ i => AllR s bSimple i) (fun _ i => s.size - (intOf i).toNat)
        case atStart => exact ⟨0, by omega, rfl, fun j _ hj => by omega⟩
        case round =>
          obtain ⟨k, hk, rfl, hall⟩ := hrel
          have HA := Lib.hid hall
          clear hall
          by_cases hlt : k < s.size
          · have hbk := cb_at hlt
            have LT : Hid (∀ W, Calls Tryd.prog 71 #[.int .u8 ((cb s k : Nat) : Int)] W fun e w' => e = .returned (.bool ((decide (97 ≤ cb s k) && decide (cb s k ≤ 122)) || (decide (65 ≤ cb s k) && decide (cb s k ≤ 90)))) ∧ W = w') := Lib.hid (fun W => letterS_any _ (cb_lt s k) W)
            have DGk : Hid (∀ W, Calls Tryd.prog 69 #[.int .u8 ((cb s k : Nat) : Int)] W fun e w' => e = .returned (.bool (bDig (cb s k))) ∧ W = w') := Lib.hid (fun W => digitS_any _ (cb_lt s k) W)
            have MR := Lib.hid (fun W => moreS_any (cb s k) (cb_lt s k) W)
            have HSP := Lib.hid (simple_parts (c := cb s k))
            have HNS : Hid (bSimple (cb s k) = false → ¬ isSimple s) := Lib.hid (fun h q => by have := q.2.2.2 k (by omega) hlt; rw [h] at this; cases this)
            have HYS : Hid (bSimple (cb s k) = true → allP s bSimple 0 (k + 1)) := Lib.hid (fun h => all_step HA.out h)
            generalize ((decide (97 ≤ cb s k) && decide (cb s k ≤ 122)) || (decide (65 ≤ cb s k) && decide (cb s k ≤ 90))) = lt at LT HSP
            generalize hdg : bDig (cb s k) = dg at DGk HSP
            clear hdg
            cases lt with
            | true =>
              have HS := Lib.hid (HYS.out (by rw [HSP.out]; rfl))
              go_wp2_with (go_at_call 71; refine (LT.out _).mono ?_; rintro e w1 ⟨rfl, rfl⟩)
              go_round
              case rel => exact ⟨k + 1, by omega, by go_num, HS.out⟩
              case measure => simp [intOf]; omega
            | false =>
              cases dg with
              | true =>
                have HS := Lib.hid (HYS.out (by rw [HSP.out]; rfl))
                go_wp2_with (first | (go_at_call 71; refine (LT.out _).mono ?_; rintro e w1 ⟨rfl, rfl⟩) | (go_at_call 69; refine (DGk.out _).mono ?_; rintro e w1 ⟨rfl, rfl⟩))
                go_round
                case rel => exact ⟨k + 1, by omega, by go_num, HS.out⟩
                case measure => simp [intOf]; omega
              | false =>
                rcases Bool.eq_false_or_eq_true (bMore (cb s k)) with hm | hm
                · have HS := Lib.hid (HYS.out (by rw [HSP.out, hm]; rfl))
                  rw [hm] at MR
                  clear hm
                  go_wp2_with (first | (go_at_call 71; refine (LT.out _).mono ?_; rintro e w1 ⟨rfl, rfl⟩) | (go_at_call 69; refine (DGk.out _).mono ?_; rintro e w1 ⟨rfl, rfl⟩) | (go_at_call 72; refine (MR.out _).mono ?_; rintro e w1 ⟨z, rfl, hz, rfl⟩; have hz0 : 0 ≤ z := (by first | exact hz.2 rfl | exact hz.2 trivial | simpa using hz); clear hz))
                  go_round
                  case rel => exact ⟨k + 1, by omega, by go_num, HS.out⟩
                  case measure => simp [intOf]; omega
                · have HN := Lib.hid (HNS.out (by rw [HSP.out, hm]; rfl))
                  rw [hm] at MR
                  clear hm
                  go_wp2_with (first | (go_at_call 71; refine (LT.out _).mono ?_; rintro e w1 ⟨rfl, rfl⟩) | (go_at_call 69; refine (DGk.out _).mono ?_; rintro e w1 ⟨rfl, rfl⟩) | (go_at_call 72; refine (MR.out _).mono ?_; rintro e w1 ⟨z, rfl, hz, rfl⟩; have hz0 : z < 0 := Int.not_le.1 (fun h => by have := hz.1 h; cases this); clear hz))
                  go_ret
                  exact says_no HN.out
          · obtain rfl : k = s.size := by omega
            have HY : Hid (isSimple s) := Lib.hid ⟨HNM.out, HDG.out, HRS.out, HA.out⟩
            go_wp2
            go_ret
            exact says_yes HY.out
/-- the answer of a test that may lay a block -/
def SaysB (w w' : World) (Q : Prop) (e : Ending) : Prop := ∃ b : Bool, e = .returned (.bool b) ∧ (b = true ↔ Q) ∧ Below w.heap.size w w'
set_option maxHeartbeats 2000000 in
set_option maxRecDepth 100000 in
theorem simpleR_any (s : ByteArray) (hs : s.size ≤ 1048576) (w : World) : Calls Tryd.prog 34 #[.string s] w fun e w' => SaysB w w' (isSimple s) e := by
  go_enter Tryd.func34, Tryd.ntmps34
  go_wp2_with fail
  refine (nameR_any s hs w).mono ?_
  rintro e w1 ⟨b, rfl, hb, rfl⟩
  cases b with
  | false =>
    have HN : Hid (¬ isSimple s) := Lib.hid (fun k => by have := hb.2 k.1; cases this)
    clear hb
    go_wp2
    go_ret
    exact ⟨_, rfl, ⟨fun x => (by cases x), fun x => absurd x HN.out⟩, Below.refl _ _⟩
  | true =>
    have HNM := Lib.hid (hb.1 rfl)
    have hlt0 : 0 < s.size := HNM.out.1
    have hb0 := cb_at hlt0
    clear hb
    by_cases hd : 48 ≤ cb s 0 ∧ cb s 0 ≤ 57
    · have HN : Hid (¬ isSimple s) := Lib.hid (fun k => by have := k.2.1; rw [bDig_iff.2 hd] at this; cases this)
      obtain ⟨hd1, hd2⟩ := hd
      go_wp2
      go_ret
      exact ⟨_, rfl, ⟨fun x => (by cases x), fun x => absurd x HN.out⟩, Below.refl _ _⟩
    · have HDG : Hid (bDig (cb s 0) = false) := Lib.hid (by rw [← Bool.not_eq_true, bDig_iff]; exact hd)
      have hd' : cb s 0 < 48 ∨ (48 ≤ cb s 0 ∧ 57 < cb s 0) := by omega
      clear hd
      have RV := Lib.hid (reservedR_any s w)
      rcases hd' with hd | ⟨hd, hd2⟩
      all_goals (
        go_wp2_with fail
        refine RV.out.mono ?_
        rintro e w1 ⟨⟨b, rfl, hb⟩, hb1⟩
        have HB1 := Lib.hid hb1
        clear hb1
        cases b with
        | true =>
          have HN : Hid (¬ isSimple s) := Lib.hid (fun k => k.2.2.1 (hb.1 rfl))
          clear hb
          go_wp2
          go_ret
          exact ⟨_, rfl, ⟨fun x => (by cases x), fun x => absurd x HN.out⟩, HB1.out⟩
        | false =>
          have HRS : Hid (¬ isRes s) := Lib.hid (fun k => by have := hb.2 k; cases this)
          clear hb
          go_wp2
          go_loop [4] (fun i => AllR s bSimple i) (fun i => s.size - (intOf i).toNat)
          case atStart => exact ⟨0, by omega, rfl, fun j _ hj => by omega⟩
          case round =>
            obtain ⟨k, hk, rfl, hall⟩ := hrel
            have HA := Lib.hid hall
            clear hall
            by_cases hlt : k < s.size
            · have hbk := cb_at hlt
              have SB := Lib.hid (fun W => simple4_any (cb s k) (cb_lt s k) W)
              rcases Bool.eq_false_or_eq_true (bSimple (cb s k)) with hm | hm
              · have HS := Lib.hid (all_step HA.out hm)
                rw [hm] at SB
                clear hm
                go_wp2_with (go_at_call 47; refine (SB.out _).mono ?_; rintro e w1 ⟨rfl, rfl⟩)
                go_round
                case rel => exact ⟨k + 1, by omega, by go_num, HS.out⟩
                case measure => simp [intOf]; omega
              · have HN : Hid (¬ isSimple s) := Lib.hid (fun q => by have := q.2.2.2 k (by omega) hlt; rw [hm] at this; cases this)
                rw [hm] at SB
                clear hm
                go_wp2_with (go_at_call 47; refine (SB.out _).mono ?_; rintro e w1 ⟨rfl, rfl⟩)
                go_ret
                exact ⟨_, rfl, ⟨fun x => (by cases x), fun x => absurd x HN.out⟩, HB1.out⟩
            · obtain rfl : k = s.size := by omega
              have HY : Hid (isSimple s) := Lib.hid ⟨HNM.out, HDG.out, HRS.out, HA.out⟩
              go_wp2
              go_ret
              exact ⟨_, rfl, ⟨fun _ => HY.out, fun _ => rfl⟩, HB1.out⟩)
theorem quo_yes {s : ByteArray} (h : isSimple s) : s = quoB s := by unfold quoB; rw [if_pos h]
theorem quo_no {s : ByteArray} (h : ¬ isSimple s) : (⟨#[124]⟩ : ByteArray) ++ s ++ ⟨#[124]⟩ = quoB s := by unfold quoB; rw [if_neg h]
theorem quoteS_any (s : ByteArray) (hs : s.size ≤ 1048576) (w : World) : Calls Tryd.prog 33 #[.string s] w fun e w' => e = .returned (.string (quoB s)) ∧ w = w' := by
  go_enter Tryd.func33, Tryd.ntmps33
  go_wp2_with fail
  refine (simpleS_any s hs w).mono ?_
  rintro e w1 ⟨b, rfl, hb, rfl⟩
  cases b with
  | true =>
    have HQ := Lib.hid (quo_yes (hb.1 rfl))
    clear hb
    go_wp2
    go_ret
    exact ⟨ret_s HQ.out, rfl⟩
  | false =>
    have HQ := Lib.hid (quo_no (s := s) (fun k => by have := hb.2 k; cases this))
    clear hb
    go_wp2
    go_ret
    exact ⟨ret_s HQ.out, rfl⟩
theorem quoteR_any (s : ByteArray) (hs : s.size ≤ 1048576) (w : World) : Calls Tryd.prog 20 #[.string s] w fun e w' => e = .returned (.string (quoB s)) ∧ Below w.heap.size w w' := by
  go_enter Tryd.func20, Tryd.ntmps20
  go_wp2_with fail
  refine (simpleR_any s hs w).mono ?_
  rintro e w1 ⟨b, rfl, hb, hb1⟩
  have HB1 := Lib.hid hb1
  clear hb1
  cases b with
  | true =>
    have HQ := Lib.hid (quo_yes (hb.1 rfl))
    clear hb
    go_wp2
    go_ret
    exact ⟨ret_s HQ.out, HB1.out⟩
  | false =>
    have HQ := Lib.hid (quo_no (s := s) (fun k => by have := hb.2 k; cases this))
    clear hb
    go_wp2
    go_ret
    exact ⟨ret_s HQ.out, HB1.out⟩
end Go.Proofs.YtlgcmpiobglbbaaDoor
