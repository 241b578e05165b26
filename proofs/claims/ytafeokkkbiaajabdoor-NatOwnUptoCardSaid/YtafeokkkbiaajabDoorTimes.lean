/- nat.times: the product of two numbers above 0. -/
import Derived.Test.YtafeokkkbiaajabDoorMul
namespace Go.Proofs.YtafeokkkbiaajabDoor
open Go.RowKit Mth

set_option maxHeartbeats 400000 in
set_option maxRecDepth 100000 in
theorem times_any (av bv : Value) (xs ys : List Nat) (w : World) (hx : Sl w .u64 av xs) (hy : Sl w .u64 bv ys) (lx : Lim B64 xs) (ly : Lim B64 ys) (tx : Top xs) (ty : Top ys) (px : 0 < xs.length) (py : 0 < ys.length) :
    Calls Tryd.prog 44 #[av, bv] w fun e w' => ∃ v', e = .returned (.tuple #[v', .int .i64 (cutE (val B64 xs * val B64 ys))]) ∧ Num w' v' (cutN (val B64 xs * val B64 ys)) ∧ Below w.heap.size w w' := by
  have hxl := hx.len
  have hyl := hy.len
  have HSY := Lib.hid hy
  obtain ⟨ab, aoff, acap, rfl, ha1, ha2, hablt, hac⟩ := hx.pos px
  obtain ⟨bb, boff, bcap, rfl, hb1, hb2, hbblt, hbc⟩ := hy.pos py
  clear hx hy hbc
  have HAC := Lib.hid hac; clear hac
  unfold maxLen at ha2 hb2
  by_cases hlong : 4096 < xs.length + ys.length - 1
  · have hL : Big ≤ val B64 xs * val B64 ys := times_long (m := maxL) tx ty px py hlong
    have E1 := Lib.hid (show cutE (val B64 xs * val B64 ys) = 5 from if_pos hL)
    have E2 := Lib.hid (show cutN (val B64 xs * val B64 ys) = 0 from if_pos hL)
    clear hL lx ly tx ty
    go_enter Tryd.func44, Tryd.ntmps44
    go_wp2
    go_ret2
    exact ⟨_, by rw [E1.out]; rfl, by rw [E2.out]; exact num_nil _, Below.refl _ _⟩
  · have HLX := Lib.hid lx; have HLY := Lib.hid ly
    clear lx ly tx ty
    go_enter Tryd.func44, Tryd.ntmps44
    go_wp2_with (at_make; refine make_nat rfl _ _ rfl _ _ (xs.length + ys.length) rfl rfl (by simp) (by simp) (by omega) ?_; intro w1 hrow hb1)
    have HROW := Lib.hid hrow; have HB1 := Lib.hid hb1
    clear hrow hb1
    go_loopw [24] (fun i wr => ∃ k : Nat, k ≤ xs.length ∧ i = .int .i64 k ∧ ∃ R, Row wr 36 .u64 w.heap.size R ∧ TimesI R xs ys k ∧ Below w.heap.size w wr)
      (fun i _ => xs.length - (intOf i).toNat)
    case atStart => exact ⟨0, Nat.zero_le _, rfl, _, HROW.out, times_zero xs ys, HB1.out⟩
    case round =>
      obtain ⟨k, hk, rfl, R, hR, hT, hbel⟩ := hrel
      by_cases hlt : k < xs.length
      · have hca : wr.cell? ⟨ab, aoff + k, none⟩ = some (.int .u64 ((xs.getD k 0 : Nat) : Int)) := (hbel.cell (p := ⟨ab, aoff + k, none⟩) hablt).trans (HAC.out k hlt)
        generalize hxk : xs.getD k 0 = x at hca
        have HXK := Lib.hid hxk; have HT := Lib.hid hT; have HR := Lib.hid hR; have HB := Lib.hid hbel
        clear hxk hT hR hbel
        have hxb : x < B64 := by rw [← HXK.out]; exact HLX.out k
        have HXB := Lib.hid hxb; clear hxb
        go_wp2_with fail
        simp only [Nat.add_sub_cancel_left]
        have hsy : Sl wr .u64 (.slice (some ⟨bb, boff, none⟩) ys.length bcap) ys := HSY.out.below HB.out
        refine (addTimes_any w.heap.size k (xs.length + ys.length - k) _ ys x _ _ HR.out HT.out.lim (by rw [HT.out.len]; omega) (by omega) (by unfold maxLen; omega) hsy HLY.out (by simp [inBlock]; omega) py HXB.out).mono ?_
        rintro e w' ⟨c, rfl, R', hR', hg', hA⟩
        clear hsy
        have hcs : w'.cell? ⟨w.heap.size, k + ys.length, none⟩ = some (.int .u64 ((R'.getD (k + ys.length) 0 : Nat) : Int)) := hR'.cell (by rw [hA.len, HT.out.len]; omega)
        have hfs : w'.frozen? ⟨w.heap.size, k + ys.length, none⟩ = false := hR'.free _
        generalize R'.getD (k + ys.length) 0 = old at hcs
        have HA := Lib.hid hA; have HR' := Lib.hid hR'; have HG' := Lib.hid hg'
        clear hA hR' hg'
        go_wp2
        go_roundw
        case rel =>
          have hset := HR'.out.set (k + ys.length) c
          have hA := HA.out
          rw [← HXK.out] at hA
          refine ⟨k + 1, by omega, by go_num, _, hset.1, times_step HT.out hlt hA, ?_⟩
          exact below_of_grown HB.out (grown_trans' HG'.out hset.2) (Nat.le_refl _) HB.out.size
        case measure => simp [intOf]; omega
      · have e : k = xs.length := by omega
        have hT' := hT
        rw [e] at hT'
        have HT := Lib.hid (times_end hT'); have HLIM := Lib.hid hT.lim; have HR := Lib.hid hR; have HB := Lib.hid hbel; have HLEN := Lib.hid hT.len
        clear hT hT' hR hbel e
        go_wp2_with fail
        have hs : Sl wr .u64 (.slice (some ⟨w.heap.size, 0, none⟩) (xs.length + ys.length) (xs.length + ys.length)) R := by
          have := HR.out.sl_all (by rw [HLEN.out]; omega)
          rwa [HLEN.out] at this
        refine (answer_any hs HLIM.out).mono ?_
        rintro e w' ⟨v', rfl, hN, rfl⟩
        have HN := Lib.hid hN
        clear hs hN
        go_wp2
        go_ret2
        have hN := HN.out
        rw [HT.out] at hN
        exact ⟨_, by rw [HT.out]; rfl, hN, HB.out⟩
end Go.Proofs.YtafeokkkbiaajabDoor
