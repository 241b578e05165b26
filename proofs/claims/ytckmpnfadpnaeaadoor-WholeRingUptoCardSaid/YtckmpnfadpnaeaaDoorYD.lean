/- tribunalref02: addD, subD, cmpD. -/
import Derived.Test.YtckmpnfadpnaeaaDoorYC
import Derived.Test.YtckmpnfadpnaeaaDoorMA
set_option linter.unusedVariables false
set_option linter.unusedSimpArgs false
namespace Go.Proofs.YtckmpnfadpnaeaaDoor
open Go.RowKit Mth

/-- digits of a number, zeros on top or not -/
def DNum (w : World) (v : Value) (n : Nat) : Prop := ∃ ys, Sl w .u16 v ys ∧ Lim B16 ys ∧ val B16 ys = n
theorem DNum.below {w w' : World} {v : Value} {n : Nat} (h : DNum w v n) (hb : Below w.heap.size w w') : DNum w' v n := by
  obtain ⟨ys, h1, h2⟩ := h; exact ⟨ys, h1.below hb, h2⟩

/-- append of one digit -/
theorem append_dig {w : World} {ops : Array Oper} {rest : List Oper} {o : Oper} {a : Act} {Q : Exit → Act → World → Prop} (hgd : o.guard = none) (s x : Operand)
    (ho : o.op = .call { callee := .builtin .append, args := #[s, x], argTypes := #[60, 60] }) (base : Nat) (v : Value) (xs : List Nat) (y : Nat) (d : Int) (ad : Addr) (hd : d = ((y : Nat) : Int))
    (hs : a.eval s = v) (hx : a.eval x = .slice (some ad) 1 1) (hown : w.ownsRow base 98 1 v xs.length (cellsOf .u16 xs)) (hc : w.cell? ad = some (.int .u16 d)) (hlen : xs.length ≤ 16777216) (hbase : base ≤ w.heap.size)
    (h : ∀ v' w', w'.ownsRow base 98 1 v' (xs ++ [y]).length (cellsOf .u16 (xs ++ [y])) → w.grownBy w' v.ownBlock → wpList Tryd.prog ops Q rest (a.put o.dst v') w') : wpList Tryd.prog ops Q (o :: rest) a w := by
  subst hd
  obtain ⟨i0, hi, hz0, hz1, hz2⟩ := info_parts info_u16
  refine wpList_append_own w hgd s x 60 ho base 98 i0 _ 1 2 Tryd.underlying60 hi hz0 hz1 hz2 rfl (by decide) v _ _ hs hown ad 1 1 [.int .u16 ((y : Nat) : Int)] hx rfl ?_ ?_
    (by unfold maxLen; omega) (by omega) hbase ?_
  · intro j u hj
    match j, hj with
    | 0, hj => simp at hj; subst hj; simpa [Addr.add] using hc
  · intro u hu
    simp at hu; subst hu; rfl
  · intro v' w' h2 h3 _
    refine h v' w' ?_ h3
    rw [cellsOf_append, List.length_append]
    exact h2

/-- what addD's loop holds -/
def AddDO (w wr : World) (xs ys : List Nat) (v c i : Value) : Prop := ∃ (k cc : Nat) (os : List Nat), k ≤ max xs.length ys.length + 1 ∧ (k = max xs.length ys.length + 1 → cc = 0) ∧ i = .int .i64 k ∧ c = .int .u32 (cc : Int) ∧ SumT xs ys os k cc ∧ wr.ownsRow w.heap.size 98 1 v os.length (cellsOf .u16 os) ∧ Below w.heap.size w wr

theorem sA (x y c : Nat) : IntKind.u16.wrap ((c : Int) + (x : Int) + (y : Int)) = ((ahS x y c : Nat) : Int) := by
  rw [show ((c : Int) + (x : Int) + (y : Int)) = ((x + y + c : Nat) : Int) by omega]
  simp [IntKind.wrap_u16, ahS]
theorem sB (x c : Nat) : IntKind.u16.wrap ((c : Int) + (x : Int)) = ((ahS x 0 c : Nat) : Int) := by simpa using sA x 0 c
theorem sC (y c : Nat) : IntKind.u16.wrap ((c : Int) + (y : Int)) = ((ahS 0 y c : Nat) : Int) := by simpa using sA 0 y c
theorem sD (c : Nat) : IntKind.u16.wrap (c : Int) = ((ahS 0 0 c : Nat) : Int) := by simpa using sA 0 0 c
theorem cA (x y c : Nat) : ((c : Int) + (x : Int) + (y : Int)) / 65536 = ((ahC x y c : Nat) : Int) := by unfold ahC; omega
theorem cB (x c : Nat) : ((c : Int) + (x : Int)) / 65536 = ((ahC x 0 c : Nat) : Int) := by unfold ahC; omega
theorem cC (y c : Nat) : ((c : Int) + (y : Int)) / 65536 = ((ahC 0 y c : Nat) : Int) := by unfold ahC; omega
theorem cD (c : Nat) : (c : Int) / 65536 = ((ahC 0 0 c : Nat) : Int) := by unfold ahC; omega

set_option maxHeartbeats 2000000 in
set_option maxRecDepth 100000 in
theorem addD_any (v1 v2 : Value) (xs ys : List Nat) (w : World) (s1 : Sl w .u16 v1 xs) (s2 : Sl w .u16 v2 ys) (l1 : Lim B16 xs) (l2 : Lim B16 ys) (hx : xs.length ≤ 16500000) (hy : ys.length ≤ 16500000) :
    Calls Tryd.prog 71 #[v1, v2] w fun e w' => ∃ v', e = .returned v' ∧ DNum w' v' (val B16 xs + val B16 ys) ∧ Below w.heap.size w w' := by
  obtain ⟨a1, c1, rfl⟩ := s1.shape
  obtain ⟨a2, c2, rfl⟩ := s2.shape
  have S1 := Lib.hid s1; have S2 := Lib.hid s2; have L1 := Lib.hid l1; have L2 := Lib.hid l2
  clear s1 s2 l1 l2
  go_enter Tryd.func71, Tryd.ntmps71
  go_wp2
  go_loopw [5, 6, 7] (fun v c i wr => AddDO w wr xs ys v c i) (fun _ _ i _ => max xs.length ys.length + 1 - (intOf i).toNat)
  case atStart => exact ⟨0, 0, [], Nat.zero_le _, fun _ => rfl, rfl, rfl, sumT_zero xs ys, World.ownsRow_nil _ _ _ _, Below.refl _ _⟩
  case round =>
    obtain ⟨k, c, os, hk, hkc, rfl, rfl, hT, hown, hbel⟩ := hrel
    have HO := Lib.hid hown; have HB := Lib.hid hbel
    have HM := Lib.hid (show max xs.length ys.length ≤ 16500000 by omega)
    by_cases hgo : k < xs.length ∨ k < ys.length ∨ 0 < c
    · have hkm : k ≤ max xs.length ys.length := by
        rcases hgo with h | h | h
        · omega
        · omega
        · by_cases e : k = max xs.length ys.length + 1
          · have := hkc e; omega
          · omega
      have HST := Lib.hid (sumT_step hT L1.out L2.out)
      have hx0 := L1.out k
      have hy0 := L2.out k
      have hc := hT.cle
      have hol := hT.len
      have HX : Hid (k < xs.length → ∃ b off, a1 = some ⟨b, off, none⟩ ∧ wr.cell? ⟨b, off + k, none⟩ = some (.int .u16 ((xs.getD k 0 : Nat) : Int))) := Lib.hid (fun h => by
        obtain ⟨b, off, cap, e, _, _, hlt, hc⟩ := (S1.out.below hbel).pos (by omega)
        simp only [Value.slice.injEq] at e
        exact ⟨b, off, e.1, hc k h⟩)
      have HY : Hid (k < ys.length → ∃ b off, a2 = some ⟨b, off, none⟩ ∧ wr.cell? ⟨b, off + k, none⟩ = some (.int .u16 ((ys.getD k 0 : Nat) : Int))) := Lib.hid (fun h => by
        obtain ⟨b, off, cap, e, _, _, hlt, hc⟩ := (S2.out.below hbel).pos (by omega)
        simp only [Value.slice.injEq] at e
        exact ⟨b, off, e.1, hc k h⟩)
      have hc1 : c1 ≤ 9223372036854775807 := by obtain ⟨_, _, e, _, h, _⟩ := S1.out; simp only [Value.slice.injEq] at e; unfold maxLen at h; omega
      have hc2 : c2 ≤ 9223372036854775807 := by obtain ⟨_, _, e, _, h, _⟩ := S2.out; simp only [Value.slice.injEq] at e; unfold maxLen at h; omega
      have hlast : k = max xs.length ys.length → ahC (xs.getD k 0) (ys.getD k 0) c = 0 := fun e => by
        rw [getD_ge xs k (by omega), getD_ge ys k (by omega)]; unfold ahC; omega
      have hzx : ¬ k < xs.length → xs.getD k 0 = 0 := fun h => getD_ge xs k (by omega)
      have hzy : ¬ k < ys.length → ys.getD k 0 = 0 := fun h => getD_ge ys k (by omega)
      generalize xs.getD k 0 = x at *
      generalize ys.getD k 0 = y at *
      have HOL := Lib.hid hol; have HLAST := Lib.hid hlast; have HKM := Lib.hid hkm
      have hx' : x ≤ 65535 := by unfold B16 at hx0; omega
      have hy' : y ≤ 65535 := by unfold B16 at hy0; omega
      have hk16 : k ≤ 16500000 := by omega
      clear hT hown hbel hx0 hy0 hol hlast hkc hk hkm
      by_cases h1 : k < xs.length
      · obtain ⟨b1, o1, rfl, q1⟩ := HX.out h1
        by_cases h2 : k < ys.length
        · obtain ⟨b2, o2, rfl, q2⟩ := HY.out h2
          clear hgo hzx hzy
          go_wp2_with (refine append_dig (o := ⟨some 50, _, _, _, _, _⟩) rfl _ _ rfl w.heap.size _ os (ahS x y c) _ ⟨wr.heap.size, 0, none⟩ (sA x y c) rfl rfl (HO.out.alloc _) (World.cell?_alloc_new _ _ _ _) (by have := HOL.out; omega) (by have := HB.out.size; simp; omega) ?_; intro v' w1 hown1 hg1)
          have HO1 := Lib.hid hown1
          have HB1 := Lib.hid (below_own (HB.out.alloc HB.out.size _) (HO.out.alloc _) hg1 (by have := HB.out.size; simp; omega))
          clear hown1 hg1
          go_wp2
          refine ⟨⟨k + 1, ahC x y c, _, by have := HKM.out; omega, fun e => HLAST.out (by omega), by go_num, by rw [cA x y c], HST.out, HO1.out, HB1.out⟩, by have := HKM.out; simp [intOf]; omega⟩
        · obtain rfl := hzy h2
          clear hgo hzx hzy
          go_wp2_with (refine append_dig (o := ⟨some 50, _, _, _, _, _⟩) rfl _ _ rfl w.heap.size _ os (ahS x 0 c) _ ⟨wr.heap.size, 0, none⟩ (sB x c) rfl rfl (HO.out.alloc _) (World.cell?_alloc_new _ _ _ _) (by have := HOL.out; omega) (by have := HB.out.size; simp; omega) ?_; intro v' w1 hown1 hg1)
          have HO1 := Lib.hid hown1
          have HB1 := Lib.hid (below_own (HB.out.alloc HB.out.size _) (HO.out.alloc _) hg1 (by have := HB.out.size; simp; omega))
          clear hown1 hg1
          go_wp2
          refine ⟨⟨k + 1, ahC x 0 c, _, by have := HKM.out; omega, fun e => HLAST.out (by omega), by go_num, by rw [cB x c], HST.out, HO1.out, HB1.out⟩, by have := HKM.out; simp [intOf]; omega⟩
      · obtain rfl := hzx h1
        by_cases h2 : k < ys.length
        · obtain ⟨b2, o2, rfl, q2⟩ := HY.out h2
          clear hgo hzx hzy
          go_wp2_with (refine append_dig (o := ⟨some 50, _, _, _, _, _⟩) rfl _ _ rfl w.heap.size _ os (ahS 0 y c) _ ⟨wr.heap.size, 0, none⟩ (sC y c) rfl rfl (HO.out.alloc _) (World.cell?_alloc_new _ _ _ _) (by have := HOL.out; omega) (by have := HB.out.size; simp; omega) ?_; intro v' w1 hown1 hg1)
          have HO1 := Lib.hid hown1
          have HB1 := Lib.hid (below_own (HB.out.alloc HB.out.size _) (HO.out.alloc _) hg1 (by have := HB.out.size; simp; omega))
          clear hown1 hg1
          go_wp2
          refine ⟨⟨k + 1, ahC 0 y c, _, by have := HKM.out; omega, fun e => HLAST.out (by omega), by go_num, by rw [cC y c], HST.out, HO1.out, HB1.out⟩, by have := HKM.out; simp [intOf]; omega⟩
        · obtain rfl := hzy h2
          have hc0 : 0 < c := by omega
          have HD : Hid ((c : Int) = ((ahS 0 0 c : Nat) : Int)) := Lib.hid (by unfold ahS; omega)
          have HC0 : Hid ((0 : Int) = ((ahC 0 0 c : Nat) : Int)) := Lib.hid (by unfold ahC; omega)
          clear hgo hzx hzy
          go_wp2_with (refine append_dig (o := ⟨some 50, _, _, _, _, _⟩) rfl _ _ rfl w.heap.size _ os (ahS 0 0 c) _ ⟨wr.heap.size, 0, none⟩ (by first | exact sD c | exact HD.out) rfl rfl (HO.out.alloc _) (World.cell?_alloc_new _ _ _ _) (by have := HOL.out; omega) (by have := HB.out.size; simp; omega) ?_; intro v' w1 hown1 hg1)
          have HO1 := Lib.hid hown1
          have HB1 := Lib.hid (below_own (HB.out.alloc HB.out.size _) (HO.out.alloc _) hg1 (by have := HB.out.size; simp; omega))
          clear hown1 hg1
          go_wp2
          refine ⟨⟨k + 1, ahC 0 0 c, _, by have := HKM.out; omega, fun e => HLAST.out (by omega), by go_num, by first | (rw [cD c]; done) | rw [← HC0.out], HST.out, HO1.out, HB1.out⟩, by have := HKM.out; simp [intOf]; omega⟩
    · obtain rfl : c = 0 := by omega
      have HE := Lib.hid (sumT_end hT (by omega) (by omega))
      have HS : Hid (DNum wr _ (val B16 xs + val B16 ys)) := Lib.hid ⟨_, sl_own hown (by have := hT.len; omega), hT.lim, HE.out⟩
      have h1 : ¬ k < xs.length := by omega
      have h2 : ¬ k < ys.length := by omega
      clear hT hown hbel hgo hk hkc
      go_wp2
      go_ret
      exact ⟨_, rfl, HS.out, HB.out⟩
end Go.Proofs.YtckmpnfadpnaeaaDoor
