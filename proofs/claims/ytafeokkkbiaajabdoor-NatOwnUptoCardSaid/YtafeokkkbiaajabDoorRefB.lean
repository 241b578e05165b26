/- tribunalref01: limb, Long, long, result, SubH, AddH. -/
import Derived.Test.YtafeokkkbiaajabDoorCmp
import Derived.Test.YtafeokkkbiaajabDoorArithMath
namespace Go.Proofs.YtafeokkkbiaajabDoor
open Go.RowKit Mth

theorem limb_any (v : Value) (hs : List Nat) (k : Nat) (w : World) (h : Sl w .u32 v hs) (hk : k ≤ 16777216) :
    Calls Tryd.prog 52 #[v, .int .i64 ((k : Nat) : Int)] w fun e w' => e = .returned (.int .u32 ((hs.getD k 0 : Nat) : Int)) ∧ w = w' := by
  obtain ⟨ao, cap, rfl, h1, h2, h3, h4, h5⟩ := h
  unfold maxLen at h2
  by_cases hlt : k < hs.length
  · obtain ⟨b, off, rfl, hb, hc⟩ := h5 (by omega)
    have hck := hc k hlt
    generalize hs.getD k 0 = x at *
    clear hc h4 h5
    go_enter Tryd.func52, Tryd.ntmps52
    go_wp2
    go_ret
    exact ⟨rfl, rfl⟩
  · have E := Lib.hid (getD_ge hs k (by omega))
    clear h4 h5
    go_enter Tryd.func52, Tryd.ntmps52
    go_wp2
    go_ret
    exact ⟨by rw [E.out]; rfl, rfl⟩
theorem hlong_any (v : Value) (n : Nat) (w : World) (h : HNum w v n) :
    Calls Tryd.prog 39 #[v] w fun e w' => e = .returned (.bool (decide (Big ≤ n))) ∧ w = w' := by
  obtain ⟨hs, s, l, t, rfl⟩ := h
  have E := Lib.hid (hlong_iff l t)
  obtain ⟨ao, cap, rfl, h1, h2, h3, h4, h5⟩ := s
  clear h4 h5 l t
  unfold maxLen at h2
  go_enter Tryd.func39, Tryd.ntmps39
  go_wp2
  go_ret
  refine ⟨ret_bool ?_, rfl⟩
  rw [decide_eq_decide, ← E.out]
  omega
theorem result_any (v : Value) (n : Nat) (w : World) (h : HNum w v n) :
    Calls Tryd.prog 37 #[v] w fun e w' => ∃ v', e = .returned (.tuple #[v', .int .i64 (cutE n)]) ∧ Num w' v' (cutN n) ∧ Below w.heap.size w w' := by
  have HH := Lib.hid h; clear h
  by_cases hb : Big ≤ n
  · have hd : decide (Big ≤ n) = true := decide_eq_true hb
    have C := Lib.hid (cut_big hb)
    clear hb
    go_enter Tryd.func37, Tryd.ntmps37
    go_wp2_with fail
    refine (hlong_any _ _ _ HH.out).mono ?_
    rintro e w' ⟨rfl, rfl⟩
    go_wp2
    go_ret2
    exact ⟨_, by rw [C.out.2]; rfl, by rw [C.out.1]; exact num_nil _, Below.refl _ _⟩
  · have hd : decide (Big ≤ n) = false := decide_eq_false hb
    have C := Lib.hid (cut_small (Nat.lt_of_not_le hb))
    clear hb
    go_enter Tryd.func37, Tryd.ntmps37
    go_wp2_with fail
    refine (hlong_any _ _ _ HH.out).mono ?_
    rintro e w' ⟨rfl, rfl⟩
    go_wp2_with fail
    refine (to_num _ _ _ HH.out).mono ?_
    rintro e w1 ⟨v1, rfl, hn1, hb1⟩
    have HN := Lib.hid hn1; have HB := Lib.hid hb1
    clear hn1 hb1
    go_wp2
    go_ret2
    exact ⟨_, by rw [C.out.2]; rfl, by rw [C.out.1]; exact HN.out, HB.out⟩

/-- what the loop of long holds -/
def LongO (w wr : World) (xss : List (List Nat)) (i : Value) : Prop := ∃ k : Nat, k ≤ xss.length ∧ i = .int .i64 k ∧ longB xss k = false ∧ Below w.heap.size w wr
set_option maxHeartbeats 1000000 in
set_option maxRecDepth 100000 in
theorem long_any (v : Value) (xss : List (List Nat)) (w : World) (h : NatList w v xss) (hl : ∀ j, Lim B64 (xss.getD j [])) (hn : ∀ j, (xss.getD j []).length ≤ 4000000) :
    Calls Tryd.prog 34 #[v] w fun e w' => e = .returned (.bool (longB xss xss.length)) ∧ Below w.heap.size w w' := by
  have hlen := h.len
  have HH := Lib.hid h
  obtain ⟨ao, cap, rfl, h1, h2, h3, h4, h5⟩ := h
  have H5 := Lib.hid h5; have HL := Lib.hid hl; have HN := Lib.hid hn
  unfold maxLen at h2
  clear h3 h4 h5 hl hn
  go_enter Tryd.func34, Tryd.ntmps34
  go_wp2
  go_loopw [3] (fun i wr => LongO w wr xss i) (fun i _ => xss.length - (intOf i).toNat)
  case atStart => exact ⟨0, Nat.zero_le _, rfl, rfl, Below.refl _ _⟩
  case round =>
    obtain ⟨k, hk, rfl, hnl, hbel⟩ := hrel
    have HB := Lib.hid hbel; have HNL := Lib.hid hnl
    by_cases hlt : k < xss.length
    · obtain ⟨b, off, rfl, hblt, hc⟩ := H5.out (by omega)
      obtain ⟨u, hu, hsu⟩ := hc k hlt
      have hur : wr.cell? ⟨b, off + k, none⟩ = some u := (hbel.cell (p := ⟨b, off + k, none⟩) hblt).trans hu
      obtain ⟨a0, c0, rfl⟩ := hsu.shape
      have HF := Lib.hid (from_any _ _ wr (hsu.below hbel) (HL.out k) (HN.out k))
      have HS := Lib.hid (longB_succ hlt)
      have HT : Hid (longB xss (k + 1) = true → longB xss xss.length = true) := Lib.hid fun h => by
        rw [longB_iff]
        unfold longB at h
        rw [List.any_eq_true] at h
        obtain ⟨x, hx, hx2⟩ := h
        obtain ⟨j, hj, rfl⟩ := getDL_mem (List.mem_of_mem_take hx)
        exact ⟨j, hj, of_decide_eq_true hx2⟩
      clear hc hu hsu hnl hbel
      generalize xss.getD k [] = xx at *
      generalize val B64 xx = n at *
      go_wp2_with fail
      refine HF.out.mono ?_
      rintro e w1 ⟨v1, rfl, hn1, hb1⟩
      have HN1 := Lib.hid hn1; have HB1 := Lib.hid (below_step HB.out hb1)
      clear hn1 hb1
      by_cases hbig : Big ≤ n
      · have hd : decide (Big ≤ n) = true := decide_eq_true hbig
        have E : Hid (longB xss xss.length = true) := Lib.hid (HT.out (by rw [HS.out, hd]; simp))
        clear hbig
        go_wp2_with fail
        refine (hlong_any _ _ _ HN1.out).mono ?_
        rintro e w2 ⟨rfl, rfl⟩
        go_wp2
        go_ret
        exact ⟨by rw [E.out]; rfl, HB1.out⟩
      · have hd : decide (Big ≤ n) = false := decide_eq_false hbig
        have E : Hid (longB xss (k + 1) = false) := Lib.hid (by rw [HS.out, hd, HNL.out]; rfl)
        clear hbig
        go_wp2_with fail
        refine (hlong_any _ _ _ HN1.out).mono ?_
        rintro e w2 ⟨rfl, rfl⟩
        go_wp2
        go_roundw
        case rel => exact ⟨k + 1, by omega, by go_num, E.out, HB1.out⟩
        case measure => simp [intOf]; omega
    · have E : Hid (longB xss xss.length = false) := Lib.hid (by rw [← hnl]; congr 1; omega)
      clear hnl hbel
      go_wp2
      go_ret
      exact ⟨by rw [E.out]; rfl, HB.out⟩

/-- what SubH's loop holds -/
def SubO (w wr : World) (xs ys : List Nat) (v c i : Value) : Prop := ∃ (k cc : Nat) (os : List Nat), k ≤ xs.length ∧ i = .int .i64 k ∧ c = .int .u32 (cc : Int) ∧ SubT xs ys os k cc ∧ wr.ownsRow w.heap.size 62 1 v os.length (cellsOf .u32 os) ∧ Below w.heap.size w wr

end Go.Proofs.YtafeokkkbiaajabDoor
