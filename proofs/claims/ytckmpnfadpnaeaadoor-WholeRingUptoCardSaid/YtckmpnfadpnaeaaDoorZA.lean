/- Package whole: the small calls on amounts and numbers. -/
import Derived.Test.YtckmpnfadpnaeaaDoorZMem
import Derived.Deep.RegionHeld3
import Derived.StillTailTactics
import Derived.Laws.AppendOwnNone
import Derived.Deep.RegionWith
import Derived.Deep.DeepCutAuto
set_option linter.unusedVariables false
set_option linter.unusedSimpArgs false
namespace Go.Proofs.YtckmpnfadpnaeaaDoor
open Go.RowKit Mth

set_option maxHeartbeats 400000 in
theorem wtrim_pos (b off cap : Nat) (xs : List Nat) (w : World) (hl : xs.length ≤ cap) (hm : cap ≤ maxLen)
    (hc : ∀ j, j < xs.length → w.cell? ⟨b, off + j, none⟩ = some (.int .u64 ((xs.getD j 0 : Nat) : Int))) :
    Calls Tryd.prog 62 #[.slice (some ⟨b, off, none⟩) xs.length cap] w fun e w' =>
      e = .returned (.slice (some ⟨b, off, none⟩) (tlen xs) cap) ∧ w = w' := by
  unfold maxLen at hm
  go_enter Tryd.func62, Tryd.ntmps62
  go_wp2
  go_loop [3] (fun n => ∃ k : Nat, k ≤ xs.length ∧ n = .int .i64 k ∧ (∀ j, k ≤ j → xs.getD j 0 = 0)) (fun n => (intOf n).toNat)
  case atStart => exact ⟨xs.length, Nat.le_refl _, rfl, fun j hj => getD_ge xs j hj⟩
  case round =>
    obtain ⟨k, hk, rfl, hz⟩ := hrel
    by_cases h0 : 0 < k
    · have hc1 := hc (k - 1) (by omega)
      have HZ := Lib.hid hz
      clear hz hc
      go_wp2
      · have h1 : ((xs[k - 1]?.getD 0 : Nat) : Int) == 0 := by assumption
        go_round
        case rel => exact ⟨k - 1, by omega, by congr 1; omega, fun j hj => by
          by_cases e : j = k - 1
          · subst e; simp at h1; simpa [List.getD_eq_getElem?_getD] using h1
          · exact HZ.out j (by omega)⟩
        case measure => simp [intOf]; omega
      · have h1 : (((xs[k - 1]?.getD 0 : Nat) : Int) == 0) = false := by assumption
        go_ret
        have e : tlen xs = k := tlen_eq HZ.out (.inr (by simp at h1; simpa [List.getD_eq_getElem?_getD] using h1))
        rw [e]
        exact ⟨rfl, rfl⟩
    · have HZ := Lib.hid hz
      clear hz hc
      go_wp2
      go_ret
      have e : tlen xs = k := tlen_eq HZ.out (.inl (by omega))
      rw [e]
      exact ⟨rfl, rfl⟩
theorem wtrim_zero (ao : Option Addr) (cap : Nat) (w : World) (hm : cap ≤ maxLen) (hn : ao = none → cap = 0) :
    Calls Tryd.prog 62 #[.slice ao 0 cap] w fun e w' => e = .returned (.slice ao 0 cap) ∧ w = w' := by
  unfold maxLen at hm
  cases ao with
  | none =>
    obtain rfl := hn rfl
    go_enter Tryd.func62, Tryd.ntmps62
    go_wp2
    refine wp_loop_rounds 1 ?_
    rw [rounds_succ]
    go_wp2
    go_ret
    exact ⟨rfl, rfl⟩
  | some a =>
    clear hn
    go_enter Tryd.func62, Tryd.ntmps62
    go_wp2
    refine wp_loop_rounds 1 ?_
    rw [rounds_succ]
    go_wp2
    go_ret
    exact ⟨rfl, rfl⟩
theorem wtrim_any {v : Value} {xs : List Nat} {w : World} (h : Sl w .u64 v xs) :
    Calls Tryd.prog 62 #[v] w fun e w' => ∃ v', e = .returned v' ∧ Sl w .u64 v' (trimL xs) ∧ w = w' := by
  have h' := h
  obtain ⟨ao, cap, rfl, h1, h2, h3, h4, h5⟩ := h
  have hs : Sl w .u64 (.slice ao (tlen xs) cap) (trimL xs) := h'.take (tlen_le xs)
  by_cases hp : 0 < xs.length
  · obtain ⟨b, off, rfl, hlt, hc⟩ := h5 hp
    exact (wtrim_pos b off cap xs w h1 h2 hc).mono fun e w' ⟨he, hw⟩ => ⟨_, he, hs, hw⟩
  · have : xs = [] := List.eq_nil_of_length_eq_zero (by omega)
    subst this
    exact (wtrim_zero ao cap w h2 h4).mono fun e w' ⟨he, hw⟩ => ⟨_, he, hs, hw⟩

/-- the same, where the value is written out -/
theorem wtrim_eq {ao : Option Addr} {n cap : Nat} {xs : List Nat} {w : World} (h : Sl w .u64 (.slice ao n cap) xs) :
    Calls Tryd.prog 62 #[.slice ao n cap] w fun e w' => e = .returned (.slice ao (tlen xs) cap) ∧ w' = w := by
  obtain ⟨ao', cap', e, h1, h2, h3, h4, h5⟩ := h
  simp only [Value.slice.injEq] at e
  obtain ⟨rfl, rfl, rfl⟩ := e
  by_cases hp : 0 < xs.length
  · obtain ⟨b, off, rfl, hlt, hc⟩ := h5 hp
    exact (wtrim_pos b off cap xs w h1 h2 hc).mono fun e w' ⟨he, hw⟩ => ⟨he, hw.symm⟩
  · have : xs = [] := List.eq_nil_of_length_eq_zero (by omega)
    subst this
    exact (wtrim_zero ao cap w h2 h4).mono fun e w' ⟨he, hw⟩ => ⟨he, hw.symm⟩

theorem limbs_is (ao : Option Addr) (n c : Nat) (w : World) : Calls Tryd.prog 38 #[.slice ao n c] w fun e w' => e = .returned (.slice ao n c) ∧ w = w' := by
  go_enter Tryd.func38, Tryd.ntmps38
  go_wp2
  go_ret
  exact ⟨rfl, rfl⟩
theorem zero_is (ao : Option Addr) (n c : Nat) (w : World) : Calls Tryd.prog 36 #[.slice ao n c] w fun e w' => e = .returned (.bool ((n : Int) == 0)) ∧ w = w' := by
  go_enter Tryd.func36, Tryd.ntmps36
  go_wp2
  go_ret
  exact ⟨rfl, rfl⟩
theorem long_is (ao : Option Addr) (n c : Nat) (w : World) : Calls Tryd.prog 70 #[.slice ao n c] w fun e w' => e = .returned (.bool (decide ((4096 : Int) < (n : Int)))) ∧ w = w' := by
  go_enter Tryd.func70, Tryd.ntmps70
  go_wp2
  go_ret
  exact ⟨rfl, rfl⟩
/-- a number's value: its limbs and its sign -/
theorem signed_is (ao : Option Addr) (n c : Nat) (b : Bool) (w : World) : Calls Tryd.prog 55 #[.slice ao n c, .bool b] w fun e w' => e = .returned (.agg #[.slice ao n c, .bool (b && !((n : Int) == 0))]) ∧ Below w.heap.size w w' ∧ w'.heap.size = w.heap.size + 1 := by
  cases b
  · go_enter Tryd.func55, Tryd.ntmps55
    go_wp2
    refine bodyPost_ret (v := .agg #[.slice ao n c, .bool false]) ?_ rfl ⟨rfl, ((Below.refl _ _).alloc (Nat.le_refl _) _), by simp⟩
    simp [results, Tryd.results55, go_sem]
  · go_enter Tryd.func55, Tryd.ntmps55
    go_wp2_with fail
    refine (zero_is ao n c _).mono ?_
    rintro e w' ⟨rfl, rfl⟩
    go_wp2
    refine bodyPost_ret (v := .agg #[.slice ao n c, .bool (!((n : Int) == 0))]) ?_ rfl ⟨rfl, ((Below.refl _ _).alloc (Nat.le_refl _) _), by simp⟩
    simp [results, Tryd.results55, go_sem]
theorem tlen_zero_iff {xs : List Nat} : tlen xs = 0 ↔ val B64 xs = 0 := by
  rw [← length_trimL]; exact nil_iff
theorem sgn_top (n : Bool) (xs : List Nat) : (n && !(((tlen xs : Nat) : Int) == 0)) = sgn (sg n (val B64 xs)) := by
  by_cases h : tlen xs = 0
  · rw [tlen_zero_iff.1 h, sgn_sg0, h]; cases n <;> rfl
  · have hv : 0 < val B64 xs := Nat.pos_of_ne_zero (fun e => h (tlen_zero_iff.2 e))
    rw [sgn_sg hv]
    have : (((tlen xs : Nat) : Int) == 0) = false := by rw [beq_eq_false_iff_ne]; omega
    rw [this]; cases n <;> rfl
set_option maxRecDepth 100000 in
theorem read_is (n : Bool) (ao : Option Addr) (cap : Nat) (xs : List Nat) (w : World) (hs : Sl w .u64 (.slice ao xs.length cap) xs) : Calls Tryd.prog 35 #[.agg #[.bool n, .slice ao xs.length cap]] w fun e w' => e = .returned (.agg #[.slice ao (tlen xs) cap, .bool (sgn (sg n (val B64 xs)))]) ∧ Below w.heap.size w w' ∧ w'.heap.size = w.heap.size + 3 := by
  have T : Hid (∀ w1, Below w.heap.size w w1 → Calls Tryd.prog 62 #[.slice ao xs.length cap] w1 fun e w' => e = .returned (.slice ao (tlen xs) cap) ∧ w' = w1) := Lib.hid (fun w1 hb => wtrim_eq (hs.below hb))
  have E := Lib.hid (sgn_top n xs)
  clear hs
  go_enter Tryd.func35, Tryd.ntmps35
  go_wp2
  obtain ⟨W, eW, h1, h2, bel, hsz⟩ := alloc2 w (Obj.cells #[Value.bool n, Value.slice ao xs.length cap] 25) (Obj.cells #[Value.slice none 0 0, Value.bool false] 54)
  have HS : Hid (W.heap.size = w.heap.size + 2) := Lib.hid (by rw [← eW]; simp)
  rw [eW]
  obtain ⟨c0, c1, f0, f1, _⟩ := blk2 h1
  have H2 := Lib.hid h2
  clear eW h1 h2
  go_still_tail 5, (by kernel_rfl)
  still_call (T.out _ bel.drew)
  repeat still_step
  refine wpStill_nil ?_
  go_wp2_with fail
  refine (signed_is _ _ _ _ _).mono ?_
  rintro e w' ⟨rfl, hb, hz⟩
  have HZ := Lib.hid hz; clear hz
  have h2 := (hb.block _ hsz).trans H2.out
  obtain ⟨k0, k1, g0, g1, _⟩ := blk2 h2
  rw [E.out]
  go_wp2
  refine bodyPost_ret (v := .agg #[.slice ao (tlen xs) cap, .bool (sgn (sg n (val B64 xs)))]) ?_ rfl ⟨rfl, ?_, ?_⟩
  · simp [results, Tryd.results35, go_sem, *]
  · exact (((below_of bel.drew hb).setCell (by simp) _).setCell (by simp) _)
  · have e1 := HZ.out
    have e2 := HS.out
    have e3 : W.drew.heap.size = W.heap.size := rfl
    simp
    omega
/-- append(b, a...) of a list of limbs to a row of the call's own -/
theorem append_am {w : World} {ops : Array Oper} {rest : List Oper} {o : Oper} {a : Act} {Q : Exit → Act → World → Prop} (hgd : o.guard = none) (s x : Operand)
    (ho : o.op = .call { callee := .builtin .append, args := #[s, x], argTypes := #[52, 52] }) (base : Nat) (v u : Value) (xs ys : List Nat)
    (hs : a.eval s = v) (hx : a.eval x = u) (hown : w.ownsRow base 65 1 v xs.length (cellsOf .u64 xs)) (hu : Sl w .u64 u ys) (hlen : xs.length ≤ 16777216) (hbase : base ≤ w.heap.size)
    (h : ∀ v' w', w'.ownsRow base 65 1 v' (xs ++ ys).length (cellsOf .u64 (xs ++ ys)) → w.grownBy w' v.ownBlock → wpList Tryd.prog ops Q rest (a.put o.dst v') w') : wpList Tryd.prog ops Q (o :: rest) a w := by
  obtain ⟨i0, hi, hz0, hz1, hz2⟩ := info_parts info_u64
  have hul := hu.len
  obtain ⟨ao, cap, rfl, _, _, _, h4, h5⟩ := hu
  cases ao with
  | none =>
    obtain rfl := h4 rfl
    have h0 : ys = [] := by
      rcases Nat.eq_zero_or_pos ys.length with h0 | h0
      · exact List.eq_nil_of_length_eq_zero h0
      · obtain ⟨b, off, e, _⟩ := h5 h0
        cases e
    subst h0
    refine wpList_append_own_none hgd s x 52 ho base 65 i0 1 Tryd.underlying52 hi v _ _ hs hown hx ?_
    refine h v w ?_ (World.grownBy.refl _ _)
    rw [List.append_nil]; exact hown
  | some ad =>
    refine wpList_append_own w hgd s x 52 ho base 65 i0 _ 1 8 Tryd.underlying52 hi hz0 hz1 hz2 rfl (by decide) v _ _ hs hown ad ys.length cap (cellsOf .u64 ys) hx (by rw [length_cellsOf]; omega) ?_ (cells_one _ _)
      (by unfold maxLen; omega) (by omega) hbase ?_
    · intro j u hj
      have hjl : j < ys.length := by have := (List.getElem?_eq_some_iff.1 hj).1; rwa [length_cellsOf] at this
      rw [cellsOf_get _ _ _ hjl] at hj
      obtain ⟨b, off, e, _, hc⟩ := h5 (by omega)
      obtain rfl := Option.some.inj e
      rw [Addr.add_lit, hc j hjl, hj]
    · intro v' w' h2 h3 _
      refine h v' w' ?_ h3
      rw [cellsOf_append, List.length_append]
      exact h2

theorem own_start (w : World) (base : Nat) : w.ownsRow base 65 1 (.slice none 0 0) ([] : List Nat).length (cellsOf .u64 []) := World.ownsRow_nil _ _ _ _
set_option maxRecDepth 100000 in
theorem wfresh_any (v : Value) (xs : List Nat) (w : World) (hs : Sl w .u64 v xs) (hl : Lim B64 xs) (ht : Top xs) : Calls Tryd.prog 80 #[v] w fun e w' => ∃ v', e = .returned v' ∧ Ow w' w.heap.size v' (val B64 xs) ∧ w'.ownsRow w.heap.size 65 1 v' xs.length (cellsOf .u64 xs) ∧ Below w.heap.size w w' := by
  have HS := Lib.hid hs; have HL := Lib.hid hl; have HT := Lib.hid ht
  have hlen := hs.len
  obtain ⟨ao, cap, rfl⟩ := hs.shape
  clear hs hl ht
  go_enter Tryd.func80, Tryd.ntmps80
  go_wp2_with (refine append_am rfl _ _ rfl w.heap.size _ _ [] xs rfl rfl (own_start w _) HS.out (by simp) (Nat.le_refl _) ?_; intro v' w1 ho hg)
  rw [List.nil_append] at ho
  go_wp2
  go_ret
  exact ⟨_, rfl, ow_row ho hlen HL.out HT.out, ho, below_own (Below.refl _ _) (own_start w _) hg (Nat.le_refl _)⟩
end Go.Proofs.YtckmpnfadpnaeaaDoor
