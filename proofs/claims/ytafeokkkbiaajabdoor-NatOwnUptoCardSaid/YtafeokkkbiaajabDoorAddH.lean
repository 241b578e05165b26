/- tribunalref01: AddH, Add. -/
import Derived.Test.YtafeokkkbiaajabDoorRefB
import Derived.Test.YtafeokkkbiaajabDoorAddMath
namespace Go.Proofs.YtafeokkkbiaajabDoor
open Go.RowKit Mth

/-- what AddH's loop holds -/
def AddHO (w wr : World) (xs ys : List Nat) (v c i : Value) : Prop := ∃ (k cc : Nat) (os : List Nat), k ≤ max xs.length ys.length + 1 ∧ (k = max xs.length ys.length + 1 → cc = 0) ∧ i = .int .i64 k ∧ c = .int .u32 (cc : Int) ∧ SumT xs ys os k cc ∧ wr.ownsRow w.heap.size 62 1 v os.length (cellsOf .u32 os) ∧ Below w.heap.size w wr

set_option maxHeartbeats 2000000 in
set_option maxRecDepth 100000 in
theorem addH_sl (v1 v2 : Value) (xs ys : List Nat) (w : World) (s1 : Sl w .u32 v1 xs) (s2 : Sl w .u32 v2 ys) (l1 : Lim B16 xs) (l2 : Lim B16 ys) (hx : xs.length ≤ 16000000) (hy : ys.length ≤ 16000000) :
    Calls Tryd.prog 35 #[v1, v2] w fun e w' => ∃ v', e = .returned v' ∧ HNum w' v' (val B16 xs + val B16 ys) ∧ Below w.heap.size w w' := by
  obtain ⟨a1, c1, rfl⟩ := s1.shape
  obtain ⟨a2, c2, rfl⟩ := s2.shape
  have S1 := Lib.hid s1; have S2 := Lib.hid s2; have L1 := Lib.hid l1; have L2 := Lib.hid l2
  clear s1 s2 l1 l2
  go_enter Tryd.func35, Tryd.ntmps35
  go_wp2
  go_loopw [5, 6, 7] (fun v c i wr => AddHO w wr xs ys v c i) (fun _ _ i _ => max xs.length ys.length + 1 - (intOf i).toNat)
  case atStart => exact ⟨0, 0, [], Nat.zero_le _, fun _ => rfl, rfl, rfl, sumT_zero xs ys, World.ownsRow_nil _ _ _ _, Below.refl _ _⟩
  case round =>
    obtain ⟨k, c, os, hk, hkc, rfl, rfl, hT, hown, hbel⟩ := hrel
    have HO := Lib.hid hown; have HB := Lib.hid hbel
    have HM := Lib.hid (show max xs.length ys.length ≤ 16000000 by omega)
    by_cases hgo : k < xs.length ∨ k < ys.length ∨ 0 < c
    · have hkm : k ≤ max xs.length ys.length := by
        rcases hgo with h | h | h
        · omega
        · omega
        · by_cases e : k = max xs.length ys.length + 1
          · have := hkc e; omega
          · omega
      have HST := Lib.hid (sumT_step hT L1.out L2.out)
      have hx0 := L1.out k
      have hy0 := L2.out k
      have hc := hT.cle
      have hol := hT.len
      have HX := Lib.hid (limb_any _ xs k wr (S1.out.below hbel) (by omega))
      have HY := Lib.hid (limb_any _ ys k wr (S2.out.below hbel) (by omega))
      have hlast : k = max xs.length ys.length → ahC (xs.getD k 0) (ys.getD k 0) c = 0 := fun e => by
        rw [getD_ge xs k (by omega), getD_ge ys k (by omega)]; unfold ahC; omega
      generalize xs.getD k 0 = x at *
      generalize ys.getD k 0 = y at *
      have HOL := Lib.hid hol; have HLAST := Lib.hid hlast; have HKM := Lib.hid hkm
      have hx' : x ≤ 65535 := by unfold B16 at hx0; omega
      have hy' : y ≤ 65535 := by unfold B16 at hy0; omega
      have hand : bits BinOp.and IntKind.u32 ((x : Int) + (y : Int) + (c : Int)) 65535 = ((ahS x y c : Nat) : Int) := by
        have := and_hf (x + y + c)
        rw [Int.emod_eq_of_lt (by omega) (by omega)] at this
        rw [show ((x : Int) + (y : Int) + (c : Int)) = ((x + y + c : Nat) : Int) by omega, this]
        rfl
      have hcar : ((x : Int) + (y : Int) + (c : Int)) / 65536 = ((ahC x y c : Nat) : Int) := by unfold ahC; omega
      have hk16 : k ≤ 16000000 := by omega
      clear hT hown hbel hx0 hy0 hol hlast hkc hk hkm
      rcases (show k < xs.length ∨ (¬ k < xs.length ∧ k < ys.length) ∨ (¬ k < xs.length ∧ ¬ k < ys.length ∧ 0 < c) by omega) with h | ⟨h, h'⟩ | ⟨h, h', h''⟩ <;> (
        clear hgo
        go_wp2_with fail
        refine HX.out.mono ?_
        rintro e w' ⟨rfl, rfl⟩
        go_wp2_with fail
        refine HY.out.mono ?_
        rintro e w' ⟨rfl, rfl⟩
        go_wp2_with (refine append_half (o := ⟨some 38, _, _, _, _, _⟩) rfl _ _ rfl w.heap.size _ os (ahS x y c) ⟨wr.heap.size, 0, none⟩ rfl rfl (HO.out.alloc _) (World.cell?_alloc_new _ _ _ _) (by have := HOL.out; omega) (by have := HB.out.size; simp; omega) ?_; intro v' w1 hown1 hg1)
        have HO1 := Lib.hid hown1
        have HB1 := Lib.hid (below_own (HB.out.alloc HB.out.size _) (HO.out.alloc _) hg1 (by have := HB.out.size; simp; omega))
        clear hown1 hg1
        go_wp2
        go_roundw
        case rel => exact ⟨k + 1, ahC x y c, _, by have := HKM.out; omega, fun e => HLAST.out (by omega), by go_num, by first | rfl | (rw [← hcar]), HST.out, HO1.out, HB1.out⟩
        case measure => have := HKM.out; simp [intOf]; omega)
    · obtain rfl : c = 0 := by omega
      have HE := Lib.hid (sumT_end hT (by omega) (by omega))
      have HS : Hid (Sl wr .u32 _ os) := Lib.hid (sl_own hown (by have := hT.len; omega))
      have HLM := Lib.hid hT.lim
      have h1 : ¬ k < xs.length := by omega
      have h2 : ¬ k < ys.length := by omega
      clear hT hown hbel hgo hk hkc
      go_wp2_with fail
      refine (rtrim_any HS.out).mono ?_
      rintro e w' ⟨v', rfl, hs', rfl⟩
      have HN := Lib.hid (hnum_trim hs' HLM.out)
      clear hs'
      go_wp2
      go_ret
      exact ⟨_, rfl, by rw [← HE.out]; exact HN.out, HB.out⟩

theorem addH_any (v1 v2 : Value) (m n p : Nat) (w : World) (h1 : HNum w v1 m) (h2 : HNum w v2 n) (hm : m < B16 ^ p) (hn : n < B16 ^ p) (hp : p ≤ 16000000) :
    Calls Tryd.prog 35 #[v1, v2] w fun e w' => ∃ v', e = .returned v' ∧ HNum w' v' (m + n) ∧ Below w.heap.size w w' := by
  obtain ⟨xs, s1, l1, t1, rfl⟩ := h1
  obtain ⟨ys, s2, l2, t2, rfl⟩ := h2
  exact addH_sl v1 v2 xs ys w s1 s2 l1 l2 (Nat.le_trans (length_of_val B16_pos t1 p hm) hp) (Nat.le_trans (length_of_val B16_pos t2 p hn) hp)

/-- what R.Add's loop holds -/
def RAddO (w wr : World) (xss : List (List Nat)) (v i : Value) : Prop := ∃ k : Nat, k ≤ xss.length ∧ i = .int .i64 k ∧ HNum wr v (sumL (xss.take k)) ∧ Below w.heap.size w wr
set_option maxHeartbeats 2000000 in
set_option maxRecDepth 100000 in
theorem radd_any (v : Value) (xss : List (List Nat)) (w : World) (h : NatList w v xss) (hl : ∀ j, Lim B64 (xss.getD j [])) (hn : ∀ j, (xss.getD j []).length ≤ 4000000) :
    Calls Tryd.prog 15 #[v] w fun e w' => ∃ v', e = .returned (.tuple #[v', .int .i64 (addE xss)]) ∧ Num w' v' (addN xss) ∧ Below w.heap.size w w' := by
  have hlen := h.len
  have LG := Lib.hid (long_any v xss w h hl hn)
  obtain ⟨ao, cap, rfl, h1, h2, h3, h4, h5⟩ := h
  have H5 := Lib.hid h5; have HL := Lib.hid hl; have HN := Lib.hid hn
  unfold maxLen at h2
  clear h3 h4 h5 hl hn
  go_enter Tryd.func15, Tryd.ntmps15
  go_wp2_with fail
  refine LG.out.mono ?_
  rintro e w1 ⟨rfl, hb1⟩
  have B1 := Lib.hid hb1; clear hb1
  by_cases hlong : longB xss xss.length = true
  · have E := Lib.hid (add_long hlong)
    rw [hlong]
    clear hlong
    go_wp2
    go_ret2
    exact ⟨_, by rw [E.out.2]; rfl, by rw [E.out.1]; exact num_nil _, B1.out⟩
  · have hlf : longB xss xss.length = false := by simpa using hlong
    have E := Lib.hid (add_fine hlf)
    have NL := Lib.hid (not_long hlf (Nat.le_refl _))
    rw [hlf]
    clear hlong hlf
    go_wp2
    go_loopw [4, 5] (fun v i wr => RAddO w wr xss v i) (fun _ i _ => xss.length - (intOf i).toNat)
    case atStart => exact ⟨0, Nat.zero_le _, rfl, hnum_nil _, B1.out⟩
    case round =>
      obtain ⟨k, hk, rfl, hs, hbel⟩ := hrel
      have HB := Lib.hid hbel
      by_cases hlt : k < xss.length
      · obtain ⟨b, off, rfl, hblt, hc⟩ := H5.out (by omega)
        obtain ⟨u, hu, hsu⟩ := hc k hlt
        have hur : wr.cell? ⟨b, off + k, none⟩ = some u := (hbel.cell (p := ⟨b, off + k, none⟩) hblt).trans hu
        obtain ⟨a0, c0, rfl⟩ := hsu.shape
        have HF := Lib.hid (from_any _ _ wr (hsu.below hbel) (HL.out k) (HN.out k))
        have HSU := Lib.hid (sumL_take_succ hlt)
        have HB1 : Hid (sumL (xss.take k) < B16 ^ hugeP) := Lib.hid (Nat.lt_of_le_of_lt (sumL_le k (by omega) (fun j hj => Nat.le_of_lt (NL.out j (by omega)))) (pow_big k (by omega)))
        have HB2 : Hid (val B64 (xss.getD k []) < B16 ^ hugeP) := Lib.hid (Nat.lt_of_lt_of_le (NL.out k hlt) (by have := pow_big 1 (by omega); omega))
        have HS := Lib.hid hs
        clear hc hu hsu hs hbel
        generalize xss.getD k [] = xx at *
        generalize val B64 xx = n at *
        generalize sumL (xss.take k) = s at *
        go_wp2_with fail
        refine HF.out.mono ?_
        rintro e w2 ⟨v2, rfl, hn2, hb2⟩
        have HN2 := Lib.hid hn2; have HB2' := Lib.hid (below_step HB.out hb2); have HS2 := Lib.hid (HS.out.below hb2)
        clear hn2 hb2
        go_wp2_with fail
        refine (addH_any _ _ _ _ hugeP _ HS2.out HN2.out HB1.out HB2.out hugeP_le).mono ?_
        rintro e w3 ⟨v3, rfl, hn3, hb3⟩
        have HN3 := Lib.hid hn3; have HB3 := Lib.hid (below_step HB2'.out hb3)
        clear hn3 hb3
        go_wp2
        go_roundw
        case rel => exact ⟨k + 1, by omega, by go_num, by rw [HSU.out]; exact HN3.out, HB3.out⟩
        case measure => simp [intOf]; omega
      · have e : xss.take k = xss := List.take_of_length_le (by omega)
        rw [e] at hs
        have HS := Lib.hid hs
        clear hs hbel e
        go_wp2_with fail
        refine (result_any _ _ _ HS.out).mono ?_
        rintro e w6 ⟨v6, rfl, hn6, hb6⟩
        have B6 := Lib.hid (below_step HB.out hb6); have N6 := Lib.hid hn6; clear hn6 hb6
        go_wp2
        go_ret2
        exact ⟨_, by rw [E.out.2]; rfl, by rw [E.out.1]; exact N6.out, B6.out⟩
end Go.Proofs.YtafeokkkbiaajabDoor
