/- Digits: nat.digit, tribunalref01.digit; nat.timesLimb. -/
import Derived.Test.YtafeokkkbiaajaaDoorRShift
import Derived.Test.YtafeokkkbiaajaaDoorAlive
import Derived.Lib.OthersKept
namespace Go.Proofs.YtafeokkkbiaajaaDoor
open Go.RowKit Mth

/-- what a letter counts; 99 for what is no digit -/
def dgv (c : Nat) : Nat := if 48 ≤ c ∧ c ≤ 57 then c - 48 else if 97 ≤ c ∧ c ≤ 102 then c - 97 + 10 else if 65 ≤ c ∧ c ≤ 70 then c - 65 + 10 else 99
/-- the answers of nat.digit and of tribunalref01.digit -/
def dgA (c : Nat) : Int := if dgv c = 99 then 9223372036854775807 else (dgv c : Int)
def dgB (c : Nat) : Int := if dgv c = 99 then -1 else (dgv c : Int)
theorem dgv_le (c : Nat) : dgv c = 99 ∨ dgv c ≤ 15 := by unfold dgv; split <;> (try split) <;> (try split) <;> omega
theorem dgv_high {c : Nat} (h : 128 ≤ c) : dgv c = 99 := by unfold dgv; rw [if_neg (by omega), if_neg (by omega), if_neg (by omega)]
set_option maxRecDepth 100000 in
theorem digit_any (c : Nat) (hc : c ≤ 2147483647) (w : World) : Calls Tryd.prog 79 #[.int .i32 ((c : Nat) : Int)] w fun e w' => e = .returned (.int .i64 (dgA c)) ∧ w = w' := by
  by_cases h1 : 48 ≤ c ∧ c ≤ 57
  · have E : Hid (dgA c = (c : Int) - 48) := Lib.hid (by unfold dgA dgv; rw [if_pos h1, if_neg (by omega)]; omega)
    obtain ⟨h2, h3⟩ := h1
    go_enter Tryd.func79, Tryd.ntmps79
    go_wp2
    go_ret
    exact ⟨by rw [E.out]; rfl, rfl⟩
  · by_cases h2 : 97 ≤ c ∧ c ≤ 102
    · have E : Hid (dgA c = (c : Int) - 97 + 10) := Lib.hid (by unfold dgA dgv; rw [if_neg h1, if_pos h2, if_neg (by omega)]; omega)
      obtain ⟨h3, h4⟩ := h2
      have hn1 : 57 < c := by omega
      clear h1
      go_enter Tryd.func79, Tryd.ntmps79
      go_wp2
      go_ret
      exact ⟨by rw [E.out]; rfl, rfl⟩
    · by_cases h3 : 65 ≤ c ∧ c ≤ 70
      · have E : Hid (dgA c = (c : Int) - 65 + 10) := Lib.hid (by unfold dgA dgv; rw [if_neg h1, if_neg h2, if_pos h3, if_neg (by omega)]; omega)
        obtain ⟨h4, h5⟩ := h3
        have hn1 : 57 < c := by omega
        have hn2 : c < 97 := by omega
        clear h1 h2
        go_enter Tryd.func79, Tryd.ntmps79
        go_wp2
        go_ret
        exact ⟨by rw [E.out]; rfl, rfl⟩
      · have E : Hid (dgA c = 9223372036854775807) := Lib.hid (by unfold dgA dgv; rw [if_neg h1, if_neg h2, if_neg h3, if_pos rfl])
        rcases (show c < 48 ∨ (57 < c ∧ c < 65) ∨ (70 < c ∧ c < 97) ∨ 102 < c by omega) with h | ⟨h, h'⟩ | ⟨h, h'⟩ | h <;> (
          clear h1 h2 h3
          go_enter Tryd.func79, Tryd.ntmps79
          go_wp2
          go_ret
          exact ⟨by rw [E.out]; rfl, rfl⟩)
set_option maxRecDepth 100000 in
theorem rdigit_any (c : Nat) (hc : c ≤ 255) (w : World) : Calls Tryd.prog 80 #[.int .u8 ((c : Nat) : Int)] w fun e w' => e = .returned (.int .i64 (dgB c)) ∧ w = w' := by
  by_cases h1 : 48 ≤ c ∧ c ≤ 57
  · have E : Hid (dgB c = (c : Int) - 48) := Lib.hid (by unfold dgB dgv; rw [if_pos h1, if_neg (by omega)]; omega)
    obtain ⟨h2, h3⟩ := h1
    go_enter Tryd.func80, Tryd.ntmps80
    go_wp2
    go_ret
    exact ⟨by rw [E.out]; rfl, rfl⟩
  · by_cases h2 : 97 ≤ c ∧ c ≤ 102
    · have E : Hid (dgB c = (c : Int) - 97 + 10) := Lib.hid (by unfold dgB dgv; rw [if_neg h1, if_pos h2, if_neg (by omega)]; omega)
      obtain ⟨h3, h4⟩ := h2
      have hn1 : 57 < c := by omega
      clear h1
      go_enter Tryd.func80, Tryd.ntmps80
      go_wp2
      go_ret
      exact ⟨by rw [E.out]; rfl, rfl⟩
    · by_cases h3 : 65 ≤ c ∧ c ≤ 70
      · have E : Hid (dgB c = (c : Int) - 65 + 10) := Lib.hid (by unfold dgB dgv; rw [if_neg h1, if_neg h2, if_pos h3, if_neg (by omega)]; omega)
        obtain ⟨h4, h5⟩ := h3
        have hn1 : 57 < c := by omega
        have hn2 : c < 97 := by omega
        clear h1 h2
        go_enter Tryd.func80, Tryd.ntmps80
        go_wp2
        go_ret
        exact ⟨by rw [E.out]; rfl, rfl⟩
      · have E : Hid (dgB c = -1) := Lib.hid (by unfold dgB dgv; rw [if_neg h1, if_neg h2, if_neg h3, if_pos rfl])
        rcases (show c < 48 ∨ (57 < c ∧ c < 65) ∨ (70 < c ∧ c < 97) ∨ 102 < c by omega) with h | ⟨h, h'⟩ | ⟨h, h'⟩ | h <;> (
          clear h1 h2 h3
          go_enter Tryd.func80, Tryd.ntmps80
          go_wp2
          go_ret
          exact ⟨by rw [E.out]; rfl, rfl⟩)

/-- after k rounds of timesLimb -/
structure TlT (xs ys : List Nat) (x p k c : Nat) : Prop where
  len : ys.length = xs.length
  rest : ∀ j, k ≤ j → ys.getD j 0 = xs.getD j 0
  lim : Lim B64 ys
  clt : c < B64
  eq : val B64 (ys.take k) + B64 ^ k * c = x * val B64 (xs.take k) + p
theorem tlT_zero {xs : List Nat} {p : Nat} (x : Nat) (h : Lim B64 xs) (hp : p < B64) : TlT xs xs x p 0 p := ⟨rfl, fun _ _ => rfl, h, hp, by simp [val]⟩
theorem tlT_step {xs ys : List Nat} {x p k c : Nat} (h : TlT xs ys x p k c) (_lx : Lim B64 xs) (hx : x < B64) (hk : k < xs.length) :
    TlT xs (ys.set k (pLo x (ys.getD k 0) c)) x p (k + 1) (pHi x (ys.getD k 0) c) := by
  have hl := h.len
  have e0 := h.rest k (Nat.le_refl _)
  refine ⟨by rw [List.length_set, hl], fun j hj => by rw [getD_set' _ _ _ _ (by omega), if_neg (by omega)]; exact h.rest j (by omega), lim_set h.lim (pLo_lt _ _ _) _, pHi_lt hx (h.lim k) h.clt, ?_⟩
  rw [val_take_succ' B64 xs k, val_take_succ B64 _ k (by rw [List.length_set]; omega), getD_set' _ _ _ _ (by omega), if_pos rfl]
  have e1 : (ys.set k (pLo x (ys.getD k 0) c)).take k = ys.take k :=
    take_congr (by rw [List.length_set]; omega) (by omega) (fun j hj => by rw [getD_set' _ _ _ _ (by omega), if_neg (by omega)])
  rw [e1, ← e0]
  have e := p_eq x (ys.getD k 0) c
  generalize ys.getD k 0 = y at *
  have e4 := h.eq
  have e5 : B64 ^ k * pLo x y c + B64 ^ k * (B64 * pHi x y c) = B64 ^ k * (x * y) + B64 ^ k * c := by
    rw [← Nat.mul_add, e, Nat.mul_add]
  have e6 : x * (B64 ^ k * y) = B64 ^ k * (x * y) := Nat.mul_left_comm _ _ _
  rw [Nat.pow_succ, Nat.mul_assoc, Nat.mul_add, e6]
  omega
/-- the end, nothing carried -/
theorem tlT_end0 {xs ys : List Nat} {x p : Nat} (h : TlT xs ys x p xs.length 0) : val B64 ys = x * val B64 xs + p := by
  have := h.eq
  rw [List.take_length, ← h.len, List.take_length] at this
  omega
/-- with a carry -/
theorem tlT_end {xs ys : List Nat} {x p c : Nat} (h : TlT xs ys x p xs.length c) : val B64 (ys ++ [c]) = x * val B64 xs + p := by
  have := h.eq
  rw [List.take_length, ← h.len, List.take_length] at this
  rw [val_snoc]; exact this
theorem top_of_val {xs : List Nat} (h : Lim B64 xs) (hv : xs.length = 0 ∨ B64 ^ (xs.length - 1) ≤ val B64 xs) : Top xs := by
  unfold Top
  have h1 := tlen_le xs
  rcases Nat.lt_or_ge (tlen xs) xs.length with h2 | h2
  · exfalso
    have h3 := val_lt (lim_trimL h)
    rw [val_trimL, length_trimL] at h3
    have h4 : B64 ^ tlen xs ≤ B64 ^ (xs.length - 1) := Nat.pow_le_pow_right (by have := B64_pos; omega) (by omega)
    rcases hv with hv | hv
    · omega
    · omega
  · omega
theorem tlT_top0 {xs ys : List Nat} {x p : Nat} (h : TlT xs ys x p xs.length 0) (hx : 0 < x) (t : Top xs) : Top ys := by
  refine top_of_val h.lim ?_
  rw [h.len]
  rcases Nat.eq_zero_or_pos xs.length with h0 | h0
  · exact .inl h0
  · right
    rw [tlT_end0 h]
    have h1 := val_ge_top (B := B64) t h0
    have h2 : 1 * val B64 xs ≤ x * val B64 xs := Nat.mul_le_mul_right _ hx
    omega
theorem top_snoc {ys : List Nat} {c : Nat} (hc : c ≠ 0) : Top (ys ++ [c]) := top_append (zs := ys) (by simp [Top, tlen, hc]) (by simp)

/-- what timesLimb's loop holds -/
def TlO (w wr : World) (base : Nat) (v : Value) (xs : List Nat) (x p : Nat) (c i : Value) : Prop := ∃ (k cc : Nat) (ys : List Nat), k ≤ xs.length ∧ i = .int .i64 k ∧ c = .int .u64 (cc : Int) ∧ TlT xs ys x p k cc ∧ wr.ownsRow base 24 1 v xs.length (cellsOf .u64 ys) ∧ w.grownBy wr v.ownBlock
set_option maxHeartbeats 2000000 in
set_option maxRecDepth 100000 in
theorem timesLimb_any (base : Nat) (v : Value) (xs : List Nat) (x p : Nat) (w : World) (hown : w.ownsRow base 24 1 v xs.length (cellsOf .u64 xs)) (lx : Lim B64 xs) (tx : Top xs) (hx : x < B64) (hx0 : 0 < x) (hp : p < B64) (hl : xs.length ≤ 16000000) (hb : base ≤ w.heap.size) :
    Calls Tryd.prog 78 #[v, .int .u64 ((x : Nat) : Int), .int .u64 ((p : Nat) : Int)] w fun e w' => ∃ v' ys, e = .returned v' ∧ w'.ownsRow base 24 1 v' ys.length (cellsOf .u64 ys) ∧ w.grownBy w' v.ownBlock ∧ Lim B64 ys ∧ Top ys ∧ val B64 ys = x * val B64 xs + p ∧ ys.length ≤ xs.length + 1 := by
  have HO := Lib.hid hown; have LX := Lib.hid lx; have TX := Lib.hid tx; have HX := Lib.hid hx; have HP := Lib.hid hp; have HX0 := Lib.hid hx0
  have hshape : ∃ ao cap, v = .slice ao xs.length cap ∧ xs.length ≤ cap ∧ cap ≤ maxLen ∧ (0 < xs.length → ∃ g, ao = some ⟨g, 0, none⟩) := by
    rcases hown.2 with ⟨rfl, h0⟩ | ⟨g, cap, cur, rfl, _, _, h1, h2, _⟩
    · exact ⟨none, 0, by rw [h0], by omega, by unfold maxLen; omega, fun h => by omega⟩
    · exact ⟨some ⟨g, 0, none⟩, cap, rfl, h1, h2, fun _ => ⟨g, rfl⟩⟩
  obtain ⟨ao, cap, rfl, hc1, hc2, hao⟩ := hshape
  have HAO := Lib.hid hao
  unfold maxLen at hc2
  clear hown lx tx hp hao hx0
  go_enter Tryd.func78, Tryd.ntmps78
  go_wp2
  go_loopw [7, 13] (fun c i wr => TlO w wr base (.slice ao xs.length cap) xs x p c i) (fun _ i _ => xs.length - (intOf i).toNat)
  case atStart => exact ⟨0, p, xs, Nat.zero_le _, rfl, rfl, tlT_zero x LX.out HP.out, HO.out, World.grownBy.refl _ _⟩
  case round =>
    obtain ⟨k, c, ys, hk, rfl, rfl, hT, hown, hgr⟩ := hrel
    have HT := Lib.hid hT; have HO1 := Lib.hid hown; have HG := Lib.hid hgr
    by_cases hlt : k < xs.length
    · obtain ⟨g, rfl⟩ := HAO.out (by omega)
      have hkl : k < ys.length := by rw [hT.len]; exact hlt
      have hck : wr.cell? ⟨g, k, none⟩ = some (.int .u64 ((ys.getD k 0 : Nat) : Int)) := by
        rw [hown.cellAt k (by omega), cellsOf_get _ _ _ hkl]
      have hfk : wr.frozen? ⟨g, k, none⟩ = false := hown.frozenAt k
      have HST := Lib.hid (tlT_step hT LX.out HX.out hlt)
      have hy := hT.lim k
      have hcl := hT.clt
      generalize ys.getD k 0 = y at *
      have HY := Lib.hid hy; have HC := Lib.hid hcl
      clear hT hown hgr hkl hy hcl hx
      go_wp2_with fail
      refine (mulAdd_any x y c HX.out HY.out HC.out _).mono ?_
      rintro e w' ⟨rfl, rfl⟩
      go_wp2
      go_roundw
      case rel =>
        have hst := HO1.out.stored k (.int .u64 ((pLo x y c : Nat) : Int))
        rw [cellsOf_set] at hst
        exact ⟨k + 1, pHi x y c, _, by omega, by go_num, rfl, HST.out, hst.1, grown_trans' HG.out hst.2⟩
      case measure => simp [intOf]; omega
    · obtain rfl : k = xs.length := by omega
      have hle : ys.length = xs.length := hT.len
      have hown2 : wr.ownsRow base 24 1 (.slice ao xs.length cap) ys.length (cellsOf .u64 ys) := by rw [hle]; exact hown
      have HOW := Lib.hid hown2; have HLE := Lib.hid hle
      have hyl : ys.length ≤ 16000000 := by omega
      have hbw : base ≤ wr.heap.size := Nat.le_trans hb hgr.size
      clear hgr hown hown2 hle
      by_cases hc0 : c = 0
      · subst hc0
        have HV := Lib.hid (tlT_end0 hT); have HTT := Lib.hid (tlT_top0 hT HX0.out TX.out); have HLM := Lib.hid hT.lim
        clear hT
        go_wp2
        go_ret
        exact ⟨_, ys, rfl, HOW.out, HG.out, HLM.out, HTT.out, HV.out, by rw [HLE.out]; omega⟩
      · have hd : ((c : Int) != 0) = true := by rw [bne_iff_ne]; omega
        have HV := Lib.hid (tlT_end hT); have HTT := Lib.hid (top_snoc (ys := ys) hc0); have HLM := Lib.hid (lim_snoc hT.lim hT.clt)
        clear hT hc0
        go_wp2_with (refine append_nat (o := ⟨some 34, _, _, _, _, _⟩) rfl _ _ rfl base _ ys c ⟨wr.heap.size, 0, none⟩ rfl rfl (HOW.out.alloc _) (World.cell?_alloc_new _ _ _ _) (by omega) (by simp; omega) ?_; intro v' w5 hown5 hg5)
        have HO5 := Lib.hid hown5
        have HG5 : Hid (w.grownBy w5 (Value.slice ao xs.length cap).ownBlock) := Lib.hid (grown_trans' HG.out (grown_trans' (grown_of_below ((Below.refl _ _).alloc (Nat.le_refl _) _) _) hg5))
        clear hown5 hg5
        go_wp2
        go_ret
        exact ⟨_, _, rfl, HO5.out, HG5.out, HLM.out, HTT.out, HV.out, by rw [List.length_append, HLE.out]; simp⟩
end Go.Proofs.YtafeokkkbiaajaaDoor
