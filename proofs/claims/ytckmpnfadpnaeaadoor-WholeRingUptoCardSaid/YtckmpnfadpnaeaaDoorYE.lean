/- tribunalref02: subD. -/
import Derived.Test.YtckmpnfadpnaeaaDoorYD
set_option linter.unusedVariables false
set_option linter.unusedSimpArgs false
namespace Go.Proofs.YtckmpnfadpnaeaaDoor
open Go.RowKit Mth

/-- what subD's loop holds -/
def SubDO (w wr : World) (xs ys : List Nat) (v c i : Value) : Prop := ∃ (k cc : Nat) (os : List Nat), k ≤ xs.length ∧ i = .int .i64 k ∧ c = .int .i32 (cc : Int) ∧ SubT xs ys os k cc ∧ wr.ownsRow w.heap.size 98 1 v os.length (cellsOf .u16 os) ∧ Below w.heap.size w wr
theorem sh_neg {x y c : Nat} (hx : x ≤ 65535) (hy : y ≤ 65535) (hc : c ≤ 1) (h : x < y + c) : ((shS x y c : Nat) : Int) = (x : Int) - c - y + 65536 ∧ shC x y c = 1 := by
  unfold shS shC; omega
theorem sh_pos {x y c : Nat} (hx : x ≤ 65535) (hy : y ≤ 65535) (hc : c ≤ 1) (h : ¬ x < y + c) : ((shS x y c : Nat) : Int) = (x : Int) - c - y ∧ shC x y c = 0 := by
  unfold shS shC; omega

set_option maxHeartbeats 2000000 in
set_option maxRecDepth 100000 in
theorem subD_any (v1 v2 : Value) (xs ys : List Nat) (w : World) (s1 : Sl w .u16 v1 xs) (s2 : Sl w .u16 v2 ys) (l1 : Lim B16 xs) (l2 : Lim B16 ys) (t2 : Top ys) (hle : val B16 ys ≤ val B16 xs) :
    Calls Tryd.prog 73 #[v1, v2] w fun e w' => ∃ v', e = .returned v' ∧ QNum w' v' (val B16 xs - val B16 ys) ∧ Below w.heap.size w w' := by
  have hxl := s1.len
  have HFIN : Hid (∀ os c, SubT xs ys os xs.length c → val B16 os = val B16 xs - val B16 ys) := Lib.hid (fun os c h => subT_end h l1 t2 hle)
  obtain ⟨a1, c1, rfl⟩ := s1.shape
  obtain ⟨a2, c2, rfl⟩ := s2.shape
  have S1 := Lib.hid s1; have S2 := Lib.hid s2; have L1 := Lib.hid l1; have L2 := Lib.hid l2
  clear s1 s2 l1 l2 t2 hle
  go_enter Tryd.func73, Tryd.ntmps73
  go_wp2
  go_loopw [5, 6, 7] (fun v c i wr => SubDO w wr xs ys v c i) (fun _ _ i _ => xs.length - (intOf i).toNat)
  case atStart => exact ⟨0, 0, [], Nat.zero_le _, rfl, rfl, subT_zero xs ys, World.ownsRow_nil _ _ _ _, Below.refl _ _⟩
  case round =>
    obtain ⟨k, c, os, hk, rfl, rfl, hT, hown, hbel⟩ := hrel
    have HO := Lib.hid hown; have HB := Lib.hid hbel
    by_cases h1 : k < xs.length
    · have HST := Lib.hid (subT_step hT L1.out L2.out)
      have hx0 := L1.out k
      have hy0 := L2.out k
      have hc := hT.cle
      have hol := hT.len
      obtain ⟨b1, o1, rfl, q1⟩ : ∃ b off, a1 = some ⟨b, off, none⟩ ∧ wr.cell? ⟨b, off + k, none⟩ = some (.int .u16 ((xs.getD k 0 : Nat) : Int)) := by
        obtain ⟨b, off, cap, e, _, _, hlt, hc⟩ := (S1.out.below hbel).pos (by omega)
        simp only [Value.slice.injEq] at e
        exact ⟨b, off, e.1, hc k h1⟩
      have HY : Hid (k < ys.length → ∃ b off, a2 = some ⟨b, off, none⟩ ∧ wr.cell? ⟨b, off + k, none⟩ = some (.int .u16 ((ys.getD k 0 : Nat) : Int))) := Lib.hid (fun h => by
        obtain ⟨b, off, cap, e, _, _, hlt, hc⟩ := (S2.out.below hbel).pos (by omega)
        simp only [Value.slice.injEq] at e
        exact ⟨b, off, e.1, hc k h⟩)
      have hc1 : c1 ≤ 9223372036854775807 := by obtain ⟨_, _, e, _, h, _⟩ := S1.out; simp only [Value.slice.injEq] at e; unfold maxLen at h; omega
      have hc2 : c2 ≤ 9223372036854775807 := by obtain ⟨_, _, e, _, h, _⟩ := S2.out; simp only [Value.slice.injEq] at e; unfold maxLen at h; omega
      have hzy : ¬ k < ys.length → ys.getD k 0 = 0 := fun h => getD_ge ys k (by omega)
      generalize xs.getD k 0 = x at *
      generalize ys.getD k 0 = y at *
      have HOL := Lib.hid hol
      have hx' : x ≤ 65535 := by unfold B16 at hx0; omega
      have hy' : y ≤ 65535 := by unfold B16 at hy0; omega
      have HN := Lib.hid (fun h : x < y + c => sh_neg hx' hy' hc h)
      have HP := Lib.hid (fun h : ¬ x < y + c => sh_pos hx' hy' hc h)
      clear hT hown hbel hx0 hy0 hol hk
      by_cases h2 : k < ys.length
      · obtain ⟨b2, o2, rfl, q2⟩ := HY.out h2
        clear hzy
        by_cases hn : x < y + c
        · have HE := Lib.hid (HN.out hn)
          go_wp2_with (refine append_dig (o := ⟨some 41, _, _, _, _, _⟩) rfl _ _ rfl w.heap.size _ os (shS x y c) _ ⟨wr.heap.size, 0, none⟩ (by first | (rw [HE.out.1]; done) | (rw [HE.out.1, IntKind.wrap_u16]; omega)) rfl rfl (HO.out.alloc _) (World.cell?_alloc_new _ _ _ _) (by have := HOL.out; omega) (by have := HB.out.size; simp; omega) ?_; intro v' w1 hown1 hg1)
          have HO1 := Lib.hid hown1
          have HB1 := Lib.hid (below_own (HB.out.alloc HB.out.size _) (HO.out.alloc _) hg1 (by have := HB.out.size; simp; omega))
          clear hown1 hg1
          go_wp2
          refine ⟨⟨k + 1, shC x y c, _, by omega, by go_num, by rw [HE.out.2]; rfl, HST.out, HO1.out, HB1.out⟩, by simp [intOf]; omega⟩
        · have HE := Lib.hid (HP.out hn)
          go_wp2_with (refine append_dig (o := ⟨some 41, _, _, _, _, _⟩) rfl _ _ rfl w.heap.size _ os (shS x y c) _ ⟨wr.heap.size, 0, none⟩ (by first | (rw [HE.out.1]; done) | (rw [HE.out.1, IntKind.wrap_u16]; omega)) rfl rfl (HO.out.alloc _) (World.cell?_alloc_new _ _ _ _) (by have := HOL.out; omega) (by have := HB.out.size; simp; omega) ?_; intro v' w1 hown1 hg1)
          have HO1 := Lib.hid hown1
          have HB1 := Lib.hid (below_own (HB.out.alloc HB.out.size _) (HO.out.alloc _) hg1 (by have := HB.out.size; simp; omega))
          clear hown1 hg1
          go_wp2
          refine ⟨⟨k + 1, shC x y c, _, by omega, by go_num, by rw [HE.out.2]; rfl, HST.out, HO1.out, HB1.out⟩, by simp [intOf]; omega⟩
      · obtain rfl := hzy h2
        clear hzy
        by_cases hn : x < c
        · have HE := Lib.hid (HN.out (by omega))
          go_wp2_with (refine append_dig (o := ⟨some 41, _, _, _, _, _⟩) rfl _ _ rfl w.heap.size _ os (shS x 0 c) _ ⟨wr.heap.size, 0, none⟩ (by first | (rw [HE.out.1]; omega) | (rw [HE.out.1, IntKind.wrap_u16]; omega)) rfl rfl (HO.out.alloc _) (World.cell?_alloc_new _ _ _ _) (by have := HOL.out; omega) (by have := HB.out.size; simp; omega) ?_; intro v' w1 hown1 hg1)
          have HO1 := Lib.hid hown1
          have HB1 := Lib.hid (below_own (HB.out.alloc HB.out.size _) (HO.out.alloc _) hg1 (by have := HB.out.size; simp; omega))
          clear hown1 hg1
          go_wp2
          refine ⟨⟨k + 1, shC x 0 c, _, by omega, by go_num, by rw [HE.out.2]; rfl, HST.out, HO1.out, HB1.out⟩, by simp [intOf]; omega⟩
        · have HE := Lib.hid (HP.out (by omega))
          go_wp2_with (refine append_dig (o := ⟨some 41, _, _, _, _, _⟩) rfl _ _ rfl w.heap.size _ os (shS x 0 c) _ ⟨wr.heap.size, 0, none⟩ (by first | (rw [HE.out.1]; omega) | (rw [HE.out.1, IntKind.wrap_u16]; omega)) rfl rfl (HO.out.alloc _) (World.cell?_alloc_new _ _ _ _) (by have := HOL.out; omega) (by have := HB.out.size; simp; omega) ?_; intro v' w1 hown1 hg1)
          have HO1 := Lib.hid hown1
          have HB1 := Lib.hid (below_own (HB.out.alloc HB.out.size _) (HO.out.alloc _) hg1 (by have := HB.out.size; simp; omega))
          clear hown1 hg1
          go_wp2
          refine ⟨⟨k + 1, shC x 0 c, _, by omega, by go_num, by rw [HE.out.2]; rfl, HST.out, HO1.out, HB1.out⟩, by simp [intOf]; omega⟩
    · obtain rfl : k = xs.length := by omega
      have HE := Lib.hid (HFIN.out os c hT)
      have HS : Hid (Sl wr .u16 _ os) := Lib.hid (sl_own hown (by have := hT.len; omega))
      have HL := Lib.hid hT.lim
      clear hT hown hbel hk
      go_wp2_with fail
      refine (qtrim_any HS.out).mono ?_
      rintro e w' ⟨v', rfl, hs', rfl⟩
      have HQ := Lib.hid (qnum_trim hs' HL.out)
      clear hs'
      go_wp2
      go_ret
      exact ⟨_, rfl, by rw [← HE.out]; exact HQ.out, HB.out⟩
end Go.Proofs.YtckmpnfadpnaeaaDoor
