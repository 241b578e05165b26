/- tribunalref01.To. -/
import Derived.Test.YtafeokkkbiaajabDoorHalf
import Derived.Test.YtafeokkkbiaajabDoorMul
import Derived.RegionTactic
import Derived.BigRegion
namespace Go.Proofs.YtafeokkkbiaajabDoor
open Go.RowKit Mth

theorem or_eq {e h s : Nat} (c : Nat) (hc : c = 2 ^ s) (he : e < c) (hh : h < 65536) (hs : s ≤ 48) : bits BinOp.or IntKind.u64 (e : Int) (IntKind.u64.wrap (IntKind.u64.wrap (h : Int) * (c : Int))) = ((e + c * h : Nat) : Int) := by
  have hc48 : c ≤ 2 ^ 48 := by rw [hc]; exact Nat.pow_le_pow_right (by omega) hs
  have h1 : h * c ≤ 65535 * 2 ^ 48 := Nat.mul_le_mul (by omega) hc48
  have e1 : IntKind.u64.wrap (h : Int) = (h : Int) := wrap_u64 h (by unfold B64; omega)
  have e2 : IntKind.u64.wrap ((h : Int) * (c : Int)) = ((h * c : Nat) : Int) := by
    rw [← Int.natCast_mul]
    exact wrap_u64 _ (by unfold B64; omega)
  rw [e1, e2, u64_or_nat _ _ (by omega) (by omega)]
  congr 1
  rw [Nat.or_comm, Nat.mul_comm h c, hc, ← Nat.two_pow_add_eq_or_of_lt (by rw [← hc]; exact he)]
  omega
theorem or_zero (h : Nat) (hh : h < 65536) : bits BinOp.or IntKind.u64 0 (IntKind.u64.wrap (IntKind.u64.wrap (h : Int))) = (h : Int) := by
  have := or_eq (e := 0) (h := h) (s := 0) 1 rfl (by omega) hh (by omega)
  simpa using this

theorem or1 (e h : Nat) (he : e < B16 ^ 1) (hh : h < 65536) : bits BinOp.or IntKind.u64 (e : Int) (IntKind.u64.wrap (IntKind.u64.wrap (h : Int) * 65536)) = ((e + B16 ^ 1 * h : Nat) : Int) :=
  or_eq (e := e) (h := h) (s := 16) 65536 rfl (by unfold B16 at he; exact he) hh (by omega)
theorem or2 (e h : Nat) (he : e < B16 ^ 2) (hh : h < 65536) : bits BinOp.or IntKind.u64 (e : Int) (IntKind.u64.wrap (IntKind.u64.wrap (h : Int) * 4294967296)) = ((e + B16 ^ 2 * h : Nat) : Int) :=
  or_eq (e := e) (h := h) (s := 32) 4294967296 rfl (by unfold B16 at he; exact he) hh (by omega)
theorem or3 (e h : Nat) (he : e < B16 ^ 3) (hh : h < 65536) : bits BinOp.or IntKind.u64 (e : Int) (IntKind.u64.wrap (IntKind.u64.wrap (h : Int) * 281474976710656)) = ((e + B16 ^ 3 * h : Nat) : Int) :=
  or_eq (e := e) (h := h) (s := 48) 281474976710656 rfl (by unfold B16 at he; exact he) hh (by omega)

/-- what To's loop holds -/
def ToO (w wr : World) (hs : List Nat) (v i : Value) : Prop := ∃ (k : Nat) (ys : List Nat), k ≤ hs.length ∧ i = .int .i64 k ∧ Packed hs ys k ∧ wr.ownsRow w.heap.size 36 1 v ys.length (cellsOf .u64 ys) ∧ Below w.heap.size w wr ∧
  (k = 0 ∧ v = .slice none 0 0 ∨ ∃ g cap, v = .slice (some ⟨g, 0, none⟩) ys.length cap ∧ ys.length ≤ cap ∧ cap ≤ maxLen)

set_option maxHeartbeats 2000000 in
set_option maxRecDepth 100000 in
theorem to_pos (hv : Value) (hs : List Nat) (w : World) (hsl : Sl w .u32 hv hs) (hl : Lim B16 hs) :
    Calls Tryd.prog 54 #[hv] w fun e w' => ∃ v', e = .returned v' ∧ Num w' v' (val B16 hs) ∧ Below w.heap.size w w' := by
  have HSL := Lib.hid hsl; have HL := Lib.hid hl
  clear hsl hl
  go_enter Tryd.func54, Tryd.ntmps54
  go_wp2_with fail
  refine (rtrim_any HSL.out).mono ?_
  rintro e w' ⟨v', rfl, hs', rfl⟩
  have HT := Lib.hid (hnum_trim hs' HL.out)
  have hlim := lim_trimL HL.out
  have htop := top_trimL hs
  have hv0 : val B16 (trimL hs) = val B16 hs := val_trimL _ _
  generalize trimL hs = ts at *
  have HTL := Lib.hid hlim; have HTT := Lib.hid htop; have HV := Lib.hid hv0
  clear hlim htop hv0
  have hs2 := hs'
  obtain ⟨ao, cap0, rfl, h1, h2, h3, h4, h5⟩ := hs2
  have H5 := Lib.hid h5; have HS' := Lib.hid hs'
  unfold maxLen at h2
  clear h4 h5 hs'
  go_wp2
  go_loopw [3, 4] (fun v i wr => ToO w wr ts v i) (fun _ i _ => ts.length - (intOf i).toNat)
  case atStart => exact ⟨0, [], Nat.zero_le _, rfl, packed_zero ts, World.ownsRow_nil _ _ _ _, Below.refl _ _, .inl ⟨rfl, rfl⟩⟩
  case round =>
    obtain ⟨k, ys, hk, rfl, hp, hown, hbel, hcase⟩ := hrel
    by_cases hlt : k < ts.length
    · obtain ⟨b, off, rfl, hblt, hc⟩ := H5.out (by omega)
      have hck : wr.cell? ⟨b, off + k, none⟩ = some (.int .u32 ((ts.getD k 0 : Nat) : Int)) := (hbel.cell (p := ⟨b, off + k, none⟩) hblt).trans (hc k hlt)
      generalize hx : ts.getD k 0 = x at hck
      have HX := Lib.hid hx
      obtain ⟨q, r, hkq, hr⟩ : ∃ q r, k = 4 * q + r ∧ r < 4 := ⟨k / 4, k % 4, by omega, by omega⟩
      have hq : (k : Int) / 4 = (q : Int) := by omega
      have hyl := hp.len
      have HP := Lib.hid hp; have HO := Lib.hid hown; have HB := Lib.hid hbel
      clear hc hx hp hown hbel
      by_cases hr0 : r = 0
      · subst hr0
        have hmod : (k : Int) % 4 = 0 := by omega
        have hyq : ys.length = q := by omega
        have HKQ := Lib.hid hkq; have HYQ := Lib.hid hyq; have HYL := Lib.hid hyl
        have hyb : ys.length ≤ 16777216 := by omega
        have hqb : q ≤ 16777216 := by omega
        clear hkq hyq hyl hcase
        go_wp2_with (refine append_nat_at (o := ⟨some 18, _, _, _, _, _⟩) rfl _ _ rfl w.heap.size _ ys 0 ⟨wr.heap.size, 0, none⟩ rfl rfl (HO.out.alloc _) (World.cell?_alloc_new _ _ _ _) hyb (by have := HB.out.size; simp; omega) ?_; intro g cap1 w1 hown1 hg1 hc1 hc2)
        have hcg : w1.cell? ⟨g, q, none⟩ = some (.int .u64 0) := by
          rw [hown1.cellAt q (by rw [List.length_append, HYQ.out]; simp), cellsOf_get _ _ _ (by rw [List.length_append, HYQ.out]; simp), getD_append_zero, getD_ge ys q (by rw [HYQ.out]; omega)]
          rfl
        have hfg : w1.frozen? ⟨g, q, none⟩ = false := hown1.frozenAt q
        have HB1 := Lib.hid (below_own (HB.out.alloc HB.out.size _) (HO.out.alloc _) hg1 (by have := HB.out.size; simp; omega))
        have hck1 : w1.cell? ⟨b, off + k, none⟩ = some (.int .u32 ((x : Nat) : Int)) := by
          rw [HB1.out.cell (p := ⟨b, off + k, none⟩) hblt, ← HB.out.cell (p := ⟨b, off + k, none⟩) hblt]; exact hck
        have hql : q < ys.length + 1 := by have := HYQ.out; omega
        have HO1 := Lib.hid hown1
        clear hown1 hg1 hck
        go_region
        go_wp2
        go_roundw
        case rel =>
          have hx16 : x < 65536 := by rw [← HX.out]; exact HTL.out k
          rw [or_zero x hx16]
          have hst := HO1.out.stored q (.int .u64 ((x : Nat) : Int))
          rw [cellsOf_set] at hst
          have hpk := packed_new HP.out hlt (by have := HKQ.out; omega)
          rw [HX.out] at hpk
          have hls : ((ys ++ [0]).set q x).length = ys.length + 1 := by simp
          refine ⟨k + 1, _, by omega, by go_num, hpk, ?_, ?_, .inr ⟨g, cap1, ?_, by rw [hls]; simpa using hc1, hc2⟩⟩
          · rw [hls]
            have := hst.1.drew
            simpa using this
          · exact (below_own HB1.out HO1.out hst.2 HB1.out.size).drew
          · rw [hls]
        case measure => simp [intOf]; omega
      · have hmod : (k : Int) % 4 = (r : Int) := by omega
        have hyq : ys.length = q + 1 := by omega
        obtain ⟨g, cap1, rfl, hc1, hc2⟩ : ∃ g cap, u3 = .slice (some ⟨g, 0, none⟩) ys.length cap ∧ ys.length ≤ cap ∧ cap ≤ maxLen := by
          rcases hcase with ⟨h0, _⟩ | h0
          · omega
          · exact h0
        clear hcase
        have HKQ := Lib.hid hkq; have HYQ := Lib.hid hyq; have HYL := Lib.hid hyl
        have hyb : ys.length ≤ 16777216 := by omega
        have hqb : q ≤ 16777216 := by omega
        have hcg : wr.cell? ⟨g, q, none⟩ = some (.int .u64 ((ys.getD q 0 : Nat) : Int)) := by
          rw [HO.out.cellAt q (by omega), cellsOf_get _ _ _ (by omega)]
        have hfg : wr.frozen? ⟨g, q, none⟩ = false := HO.out.frozenAt q
        have hgl := grp_lt HTL.out hkq hr hk
        rw [← HP.out.eq] at hgl
        generalize he : ys.getD q 0 = y at *
        have HE := Lib.hid he; have HGL := Lib.hid hgl
        have hql : q < ys.length := by omega
        have hd : ((r : Int) == 0) = false := by simp; omega
        clear hkq hyq hyl he hgl
        unfold maxLen at hc2
        have : r = 1 ∨ r = 2 ∨ r = 3 := by omega
        rcases this with rfl | rfl | rfl
        · go_wp2
          go_region
          go_wp2
          go_roundw
          case rel =>
            have hx16 : x < 65536 := by rw [← HX.out]; exact HTL.out k
            rw [or1 y x HGL.out hx16]
            have hst := HO.out.stored q (.int .u64 ((y + B16 ^ 1 * x : Nat) : Int))
            rw [cellsOf_set] at hst
            have hpk := packed_old HP.out hlt HKQ.out (by omega) (by omega)
            rw [HX.out, HE.out] at hpk
            have hls : (ys.set q (y + B16 ^ 1 * x)).length = ys.length := by simp
            refine ⟨k + 1, _, by omega, by go_num, hpk, ?_, ?_, .inr ⟨g, cap1, ?_, by rw [hls]; exact hc1, by unfold maxLen; exact hc2⟩⟩
            · rw [hls]
              exact hst.1.drew
            · exact (below_own HB.out HO.out hst.2 HB.out.size).drew
            · rw [hls]
          case measure => simp [intOf]; omega
        · go_wp2
          go_region
          go_wp2
          go_roundw
          case rel =>
            have hx16 : x < 65536 := by rw [← HX.out]; exact HTL.out k
            rw [or2 y x HGL.out hx16]
            have hst := HO.out.stored q (.int .u64 ((y + B16 ^ 2 * x : Nat) : Int))
            rw [cellsOf_set] at hst
            have hpk := packed_old HP.out hlt HKQ.out (by omega) (by omega)
            rw [HX.out, HE.out] at hpk
            have hls : (ys.set q (y + B16 ^ 2 * x)).length = ys.length := by simp
            refine ⟨k + 1, _, by omega, by go_num, hpk, ?_, ?_, .inr ⟨g, cap1, ?_, by rw [hls]; exact hc1, by unfold maxLen; exact hc2⟩⟩
            · rw [hls]
              exact hst.1.drew
            · exact (below_own HB.out HO.out hst.2 HB.out.size).drew
            · rw [hls]
          case measure => simp [intOf]; omega
        · go_wp2
          go_region
          go_wp2
          go_roundw
          case rel =>
            have hx16 : x < 65536 := by rw [← HX.out]; exact HTL.out k
            rw [or3 y x HGL.out hx16]
            have hst := HO.out.stored q (.int .u64 ((y + B16 ^ 3 * x : Nat) : Int))
            rw [cellsOf_set] at hst
            have hpk := packed_old HP.out hlt HKQ.out (by omega) (by omega)
            rw [HX.out, HE.out] at hpk
            have hls : (ys.set q (y + B16 ^ 3 * x)).length = ys.length := by simp
            refine ⟨k + 1, _, by omega, by go_num, hpk, ?_, ?_, .inr ⟨g, cap1, ?_, by rw [hls]; exact hc1, by unfold maxLen; exact hc2⟩⟩
            · rw [hls]
              exact hst.1.drew
            · exact (below_own HB.out HO.out hst.2 HB.out.size).drew
            · rw [hls]
          case measure => simp [intOf]; omega
    · have hkl : k = ts.length := by omega
      rw [hkl] at hp
      have hys : ys.length ≤ 16777216 := by have := hp.len; omega
      have HN : Hid (Num wr _ (val B16 hs)) := Lib.hid ⟨ys, sl_own hown hys, packed_lim hp HTL.out, packed_top hp HTT.out, by rw [packed_end hp, HV.out]⟩
      have HB := Lib.hid hbel
      clear hp hown hbel hcase hkl hys
      go_wp2
      go_ret
      exact ⟨_, rfl, HN.out, HB.out⟩
end Go.Proofs.YtafeokkkbiaajabDoor
