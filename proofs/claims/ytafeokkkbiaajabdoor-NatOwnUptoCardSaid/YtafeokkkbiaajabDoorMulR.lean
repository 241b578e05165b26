/- tribunalref01.Mul, NatMuls. -/
import Derived.Test.YtafeokkkbiaajabDoorMulH
import Derived.Test.YtafeokkkbiaajabDoorAddMath
import Derived.Test.YtafeokkkbiaajabDoorAlive
namespace Go.Proofs.YtafeokkkbiaajabDoor
open Go.RowKit Mth

theorem prodL_take_succ {xss : List (List Nat)} {n : Nat} (h : n < xss.length) : prodL (xss.take (n + 1)) = prodL (xss.take n) * val B64 (xss.getD n []) := by
  rw [List.take_succ_eq_append_getElem h, prodL_append]
  simp [prodL, List.getD_eq_getElem?_getD, h]
theorem mul_long {xss : List (List Nat)} (h : longB xss xss.length = true) : mulN xss = 0 ∧ mulE xss = 5 :=
  ⟨if_pos ((longB_iff xss).1 h), if_pos ((longB_iff xss).1 h)⟩
theorem mul_fine {xss : List (List Nat)} (h : longB xss xss.length = false) : mulN xss = cutN (prodL xss) ∧ mulE xss = cutE (prodL xss) := by
  have h' : ¬ longL xss xss.length := fun h2 => by rw [(longB_iff xss).2 h2] at h; cases h
  exact ⟨if_neg h', if_neg h'⟩
theorem cut_zero : cutN 0 = 0 ∧ cutE 0 = 0 := cut_small (by have := one_lt_big; omega)
theorem prodL_zero_at {xss : List (List Nat)} {k : Nat} (hk : k < xss.length) (h : val B64 (xss.getD k []) = 0) : prodL xss = 0 := by
  refine prodL_zero (x := xss.getD k []) ?_ h
  rw [List.getD_eq_getElem?_getD, List.getElem?_eq_getElem hk]
  exact List.getElem_mem hk
theorem prodL_ge {xss : List (List Nat)} {k : Nat} (_hk : k < xss.length) (h : ∀ j, j < xss.length → 0 < val B64 (xss.getD j [])) (hb : Big ≤ prodL (xss.take (k + 1))) : Big ≤ prodL xss := by
  rw [prodL_split xss (k + 1)]
  refine big_mul_left hb (prodL_pos fun x hx => ?_)
  obtain ⟨j, hj, e⟩ := getDL_mem (List.mem_of_mem_drop hx)
  rw [← e]; exact h j hj
theorem hnum_len {w : World} {v : Value} {n : Nat} (h : HNum w v n) : ∃ ao len cap, v = .slice ao len cap ∧ (len = 0 ↔ n = 0) := by
  obtain ⟨ys, s, l, t, rfl⟩ := h
  obtain ⟨ao, cap, rfl⟩ := s.shape
  refine ⟨ao, ys.length, cap, rfl, fun h => ?_, fun h => ?_⟩
  · rw [List.eq_nil_of_length_eq_zero h]; rfl
  · have := length_of_val B16_pos t 0 (by rw [h]; simp)
    omega
theorem hnum_one (w : World) (x : Nat) (h0 : x ≠ 0) (hx : x < B16) : HNum (w.alloc (Obj.cells #[Value.int .u32 ((x : Nat) : Int)] 62)) (.slice (some ⟨w.heap.size, 0, none⟩) 1 1) x := by
  have hrow : Row (w.alloc (Obj.cells #[Value.int .u32 ((x : Nat) : Int)] 62)) 62 .u32 w.heap.size [x] := heap_alloc_new w _
  have hsl := hrow.sl_all (by simp)
  refine ⟨[x], hsl, lim_cons.2 ⟨hx, lim_nil (by have := B16_pos; omega)⟩, ?_, by simp [val]⟩
  simp [Top, tlen, h0]

/-- what the loops of R.Mul hold -/
def RMulA (w wr : World) (xss : List (List Nat)) (i : Value) : Prop := ∃ k : Nat, k ≤ xss.length ∧ i = .int .i64 k ∧ (∀ j, j < k → 0 < val B64 (xss.getD j [])) ∧ Below w.heap.size w wr
def RMulB (w wr : World) (xss : List (List Nat)) (v i : Value) : Prop := ∃ k : Nat, k ≤ xss.length ∧ i = .int .i64 k ∧ HNum wr v (prodL (xss.take k)) ∧ prodL (xss.take k) < Big ∧ Below w.heap.size w wr
set_option maxHeartbeats 2000000 in
set_option maxRecDepth 100000 in
theorem rmul_any (v : Value) (xss : List (List Nat)) (w : World) (h : NatList w v xss) (hl : ∀ j, Lim B64 (xss.getD j [])) (hn : ∀ j, (xss.getD j []).length ≤ 4000000) :
    Calls Tryd.prog 16 #[v] w fun e w' => ∃ v', e = .returned (.tuple #[v', .int .i64 (mulE xss)]) ∧ Num w' v' (mulN xss) ∧ Below w.heap.size w w' := by
  have hlen := h.len
  have LG := Lib.hid (long_any v xss w h hl hn)
  obtain ⟨ao, cap, rfl, h1, h2, h3, h4, h5⟩ := h
  have H5 := Lib.hid h5; have HL := Lib.hid hl; have HN := Lib.hid hn
  unfold maxLen at h2
  clear h3 h4 h5 hl hn
  go_enter Tryd.func16, Tryd.ntmps16
  go_wp2_with fail
  refine LG.out.mono ?_
  rintro e w1 ⟨rfl, hb1⟩
  have B1 := Lib.hid hb1; clear hb1
  by_cases hlong : longB xss xss.length = true
  · have E := Lib.hid (mul_long hlong)
    rw [hlong]
    clear hlong
    go_wp2
    go_ret2
    exact ⟨_, by rw [E.out.2]; rfl, by rw [E.out.1]; exact num_nil _, B1.out⟩
  · have hlf : longB xss xss.length = false := by simpa using hlong
    have E := Lib.hid (mul_fine hlf)
    have NL := Lib.hid (not_long hlf (Nat.le_refl _))
    rw [hlf]
    clear hlong hlf
    go_wp2
    go_loopw [4] (fun i wr => RMulA w wr xss i) (fun i _ => xss.length - (intOf i).toNat)
    case atStart => exact ⟨0, Nat.zero_le _, rfl, fun j hj => by omega, B1.out⟩
    case round =>
      obtain ⟨k, hk, rfl, hs, hbel⟩ := hrel
      have HB := Lib.hid hbel; have HP := Lib.hid hs
      by_cases hlt : k < xss.length
      · obtain ⟨b, off, rfl, hblt, hc⟩ := H5.out (by omega)
        obtain ⟨u, hu, hsu⟩ := hc k hlt
        have hur : wr.cell? ⟨b, off + k, none⟩ = some u := (hbel.cell (p := ⟨b, off + k, none⟩) hblt).trans hu
        obtain ⟨a0, c0, rfl⟩ := hsu.shape
        have HF := Lib.hid (from_any _ _ wr (hsu.below hbel) (HL.out k) (HN.out k))
        have HZ : Hid (val B64 (xss.getD k []) = 0 → prodL xss = 0) := Lib.hid (prodL_zero_at hlt)
        have HP1 : Hid (val B64 (xss.getD k []) ≠ 0 → ∀ j, j < k + 1 → 0 < val B64 (xss.getD j [])) := Lib.hid fun h j hj => by
          rcases Nat.lt_or_ge j k with h1 | h1
          · exact hs j h1
          · rw [show j = k by omega]; omega
        clear hc hu hsu hs hbel
        generalize xss.getD k [] = xx at *
        generalize val B64 xx = n at *
        go_wp2_with fail
        refine HF.out.mono ?_
        rintro e w2 ⟨v2, rfl, hn2, hb2⟩
        obtain ⟨a2, len2, c2, rfl, hz2⟩ := hnum_len hn2
        have HB2 := Lib.hid (below_step HB.out hb2)
        clear hn2 hb2
        by_cases h0 : n = 0
        · have hl2 : ((len2 : Int) == 0) = true := len_eq (hz2.2 h0)
          have E2 := Lib.hid (HZ.out h0)
          clear hz2 h0
          go_wp2
          go_ret2
          refine ⟨_, by rw [E.out.2, E2.out, cut_zero.2]; rfl, by rw [E.out.1, E2.out, cut_zero.1]; exact num_nil _, HB2.out⟩
        · have hl2 : ((len2 : Int) == 0) = false := len_ne (fun h => h0 (hz2.1 h))
          have HP2 := Lib.hid (HP1.out h0)
          clear hz2 h0
          go_wp2
          go_roundw
          case rel => exact ⟨k + 1, by omega, by go_num, HP2.out, HB2.out⟩
          case measure => simp [intOf]; omega
      · have HALL : Hid (∀ j, j < xss.length → 0 < val B64 (xss.getD j [])) := Lib.hid fun j hj => hs j (by omega)
        clear hs hbel
        obtain ⟨wo, rfl⟩ : ∃ wo : World, wo = wr := ⟨_, rfl⟩
        go_wp2
        go_loopw [5, 6] (fun v i wr => RMulB w wr xss v i) (fun _ i _ => xss.length - (intOf i).toNat)
        case atStart => exact ⟨0, Nat.zero_le _, rfl, by simpa [prodL] using hnum_one wo 1 (by omega) B16_pos, by simpa [prodL] using one_lt_big, HB.out.alloc HB.out.size _⟩
        case round =>
          obtain ⟨k2, hk2, rfl, hs, hsm, hbel⟩ := hrel
          have HB2 := Lib.hid hbel
          by_cases hlt2 : k2 < xss.length
          · obtain ⟨b, off, rfl, hblt, hc⟩ := H5.out (by omega)
            obtain ⟨u, hu, hsu⟩ := hc k2 hlt2
            have hur : wr.cell? ⟨b, off + k2, none⟩ = some u := (hbel.cell (p := ⟨b, off + k2, none⟩) hblt).trans hu
            obtain ⟨a0, c0, rfl⟩ := hsu.shape
            have HF := Lib.hid (from_any _ _ wr (hsu.below hbel) (HL.out k2) (HN.out k2))
            have HSU := Lib.hid (prodL_take_succ hlt2)
            have HGE := Lib.hid (fun h => prodL_ge hlt2 HALL.out h)
            have HB1 : Hid (prodL (xss.take k2) < B16 ^ (4 * maxL)) := Lib.hid (by rw [b16_big]; exact hsm)
            have HB2' : Hid (val B64 (xss.getD k2 []) < B16 ^ (4 * maxL)) := Lib.hid (by rw [b16_big]; exact NL.out k2 hlt2)
            have HS := Lib.hid hs
            clear hc hu hsu hs hbel hsm
            rw [HSU.out] at HGE
            generalize xss.getD k2 [] = xx at *
            generalize val B64 xx = n at *
            generalize prodL (xss.take k2) = s at *
            go_wp2_with fail
            refine HF.out.mono ?_
            rintro e w2 ⟨v2, rfl, hn2, hb2⟩
            have HN2 := Lib.hid hn2; have HB3 := Lib.hid (below_step HB2.out hb2); have HS2 := Lib.hid (HS.out.below hb2)
            clear hn2 hb2
            go_wp2_with fail
            refine (mulH_any _ _ _ _ _ _ _ HS2.out HN2.out HB1.out HB2'.out (by unfold maxL; omega)).mono ?_
            rintro e w3 ⟨v3, rfl, hn3, hb3⟩
            have HN3 := Lib.hid hn3; have HB4 := Lib.hid (below_step HB3.out hb3)
            clear hn3 hb3
            by_cases hbig : Big ≤ s * n
            · have hd : decide (Big ≤ s * n) = true := decide_eq_true hbig
              have E2 := Lib.hid (cut_big (HGE.out hbig))
              clear hbig
              generalize s * n = sn at *
              go_wp2_with fail
              refine (hlong_any _ _ _ HN3.out).mono ?_
              rintro e w4 ⟨rfl, rfl⟩
              go_wp2
              go_ret2
              exact ⟨_, by rw [E.out.2, E2.out.2]; rfl, by rw [E.out.1, E2.out.1]; exact num_nil _, HB4.out⟩
            · have hd : decide (Big ≤ s * n) = false := decide_eq_false hbig
              have HNB := Lib.hid hbig
              clear hbig
              generalize s * n = sn at *
              go_wp2_with fail
              refine (hlong_any _ _ _ HN3.out).mono ?_
              rintro e w4 ⟨rfl, rfl⟩
              go_wp2
              go_roundw
              case rel => exact ⟨k2 + 1, by omega, by go_num, by rw [HSU.out]; exact HN3.out, by rw [HSU.out]; exact Nat.lt_of_not_le HNB.out, HB4.out⟩
              case measure => simp [intOf]; omega
          · have e : xss.take k2 = xss := List.take_of_length_le (by omega)
            rw [e] at hs
            have HS := Lib.hid hs
            clear hs hbel e hsm
            go_wp2_with fail
            refine (result_any _ _ _ HS.out).mono ?_
            rintro e w6 ⟨v6, rfl, hn6, hb6⟩
            have B6 := Lib.hid (below_step HB2.out hb6); have N6 := Lib.hid hn6; clear hn6 hb6
            go_wp2
            go_ret2
            exact ⟨_, by rw [E.out.2]; rfl, by rw [E.out.1]; exact N6.out, B6.out⟩

end Go.Proofs.YtafeokkkbiaajabDoor
