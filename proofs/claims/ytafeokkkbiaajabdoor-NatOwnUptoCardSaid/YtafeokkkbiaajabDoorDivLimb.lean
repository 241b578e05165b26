/- nat: divideByLimb, restByLimb. -/
import Derived.Test.YtafeokkkbiaajabDoorDiv64
import Derived.Test.YtafeokkkbiaajabDoorRShift
namespace Go.Proofs.YtafeokkkbiaajabDoor
open Go.RowKit Mth

/-- one digit of a quotient by a limb, and what is left -/
def dgQ (r x d : Nat) : Nat := (r * B64 + x) / d
def dgR (r x d : Nat) : Nat := (r * B64 + x) % d
theorem dgQ_lt {r x d : Nat} (hr : r < d) (hx : x < B64) : dgQ r x d < B64 := by
  unfold dgQ
  rw [Nat.div_lt_iff_lt_mul (by omega)]
  have : (r + 1) * B64 ≤ d * B64 := Nat.mul_le_mul_right _ hr
  rw [Nat.add_mul, Nat.one_mul] at this
  rw [Nat.mul_comm B64]
  omega
theorem dgR_lt {r x d : Nat} (hr : r < d) : dgR r x d < d := Nat.mod_lt _ (by omega)
theorem dg_eq (r x d : Nat) : dgQ r x d * d + dgR r x d = r * B64 + x := by
  unfold dgQ dgR
  rw [Nat.mul_comm]; exact Nat.div_add_mod _ _
/-- after the limbs from k to n have been divided -/
structure DbT (R R' : List Nat) (n d k r : Nat) : Prop where
  len : R'.length = R.length
  rest : ∀ j, j < k ∨ n ≤ j → R'.getD j 0 = R.getD j 0
  lim : Lim B64 R'
  rlt : r < d
  eq : val B64 ((R.take n).drop k) = val B64 ((R'.take n).drop k) * d + r
theorem dbT_zero {R : List Nat} {n d : Nat} (h : Lim B64 R) (hn : n ≤ R.length) (hd : 0 < d) : DbT R R n d n 0 := by
  refine ⟨rfl, fun _ _ => rfl, h, hd, ?_⟩
  rw [List.drop_of_length_le (by rw [List.length_take]; omega)]
  simp [val]
theorem dbT_step {R R' : List Nat} {n d k r : Nat} (h : DbT R R' n d (k + 1) r) (hk : k < n) (hn : n ≤ R.length) :
    DbT R (R'.set k (dgQ r (R'.getD k 0) d)) n d k (dgR r (R'.getD k 0) d) := by
  have hl := h.len
  have hr := h.rlt
  have e0 := h.rest k (by omega)
  refine ⟨by rw [List.length_set, hl], fun j hj => by rw [getD_set' _ _ _ _ (by omega), if_neg (by omega)]; exact h.rest j (by omega), lim_set h.lim (dgQ_lt hr (h.lim k)) _, dgR_lt hr, ?_⟩
  have e1 := val_drop B64 (R.take n) k (by rw [List.length_take]; omega)
  have e2 := val_drop B64 ((R'.set k (dgQ r (R'.getD k 0) d)).take n) k (by rw [List.length_take, List.length_set]; omega)
  have e3 : ((R'.set k (dgQ r (R'.getD k 0) d)).take n).getD k 0 = dgQ r (R'.getD k 0) d := by
    rw [getD_take, if_pos hk, getD_set' _ _ _ _ (by omega), if_pos rfl]
  have e4 : ((R'.set k (dgQ r (R'.getD k 0) d)).take n).drop (k + 1) = (R'.take n).drop (k + 1) := by
    apply list_congr
    · simp
    · intro j hj
      simp only [List.length_drop, List.length_take, List.length_set] at hj
      rw [getD_drop, getD_drop, getD_take, getD_take]
      split
      · rw [getD_set' _ _ _ _ (by omega), if_neg (by omega)]
      · rfl
  have e5 : (R.take n).getD k 0 = R'.getD k 0 := by rw [getD_take, if_pos hk, e0]
  rw [e1, e2, e3, e4, e5, h.eq]
  have e6 := dg_eq r (R'.getD k 0) d
  generalize R'.getD k 0 = x at *
  generalize val B64 ((R'.take n).drop (k + 1)) = Q at *
  rw [Nat.add_mul, Nat.mul_add, ← Nat.mul_assoc]
  have e7 : B64 * r = r * B64 := Nat.mul_comm _ _
  omega
theorem dbT_end {R R' : List Nat} {n d r : Nat} (h : DbT R R' n d 0 r) : val B64 (R'.take n) = val B64 (R.take n) / d ∧ r = val B64 (R.take n) % d := by
  have e := h.eq
  simp only [List.drop_zero] at e
  have hr := h.rlt
  rw [e]
  have e1 : val B64 (R'.take n) * d + r = r + d * val B64 (R'.take n) := by rw [Nat.mul_comm]; omega
  rw [e1, Nat.add_mul_div_left _ _ (by omega), Nat.div_eq_of_lt hr, Nat.add_mul_mod_self_left, Nat.mod_eq_of_lt hr]
  exact ⟨by omega, rfl⟩

/-- what divideByLimb's loop holds -/
def DbO (w wr : World) (g : Nat) (R : List Nat) (n d : Nat) (r i : Value) : Prop := ∃ (k rr : Nat) (R' : List Nat), k ≤ n ∧ i = .int .i64 ((k : Int) - 1) ∧ r = .int .u64 (rr : Int) ∧ DbT R R' n d k rr ∧ Row wr 36 .u64 g R' ∧ w.grownBy wr (some g)
set_option maxHeartbeats 2000000 in
set_option maxRecDepth 100000 in
theorem divideByLimb_any (g n cap d : Nat) (R : List Nat) (w : World) (hR : Row w 36 .u64 g R) (lR : Lim B64 R) (hn : n ≤ R.length) (_hcap : n ≤ cap) (_hm : cap ≤ maxLen) (hd : 0 < d) (hdb : d < B64) (hRl : R.length ≤ 16777217) :
    Calls Tryd.prog 45 #[.slice (some ⟨g, 0, none⟩) n cap, .int .u64 ((d : Nat) : Int)] w fun e w' => ∃ r R', e = .returned (.int .u64 ((r : Nat) : Int)) ∧ Row w' 36 .u64 g R' ∧ w.grownBy w' (some g) ∧ DbT R R' n d 0 r := by
  have HR := Lib.hid hR; have LR := Lib.hid lR; have HD := Lib.hid hd; have HDB := Lib.hid hdb
  unfold maxLen at _hm
  clear hR lR hdb
  go_enter Tryd.func45, Tryd.ntmps45
  go_wp2
  go_loopw [5, 6] (fun r i wr => DbO w wr g R n d r i) (fun _ i _ => (intOf i + 1).toNat)
  case atStart => exact ⟨n, 0, R, Nat.le_refl _, rfl, rfl, dbT_zero LR.out hn HD.out, HR.out, World.grownBy.refl _ _⟩
  case round =>
    obtain ⟨k0, r, R', hk, rfl, rfl, hT, hrow, hgr⟩ := hrel
    have HT := Lib.hid hT; have HROW := Lib.hid hrow; have HG := Lib.hid hgr
    by_cases hlt : 0 < k0
    · obtain ⟨k, rfl⟩ : ∃ k, k0 = k + 1 := ⟨k0 - 1, by omega⟩
      have hkn : k < n := by omega
      have hcr : wr.cell? ⟨g, k, none⟩ = some (.int .u64 ((R'.getD k 0 : Nat) : Int)) := hrow.cell (by rw [hT.len]; omega)
      have HST := Lib.hid (dbT_step hT hkn hn)
      have hxb := hT.lim k
      have hrl := hT.rlt
      have DV := fun w => div64_any r (R'.getD k 0) d hrl hxb HDB.out w
      have hlen : k < R'.length := by rw [hT.len]; omega
      have HLEN := Lib.hid hlen
      generalize hx : R'.getD k 0 = x at *
      have he : ((k + 1 : Nat) : Int) - 1 = (k : Int) := by omega
      clear hT hrow hgr hxb hrl hx hlen
      rw [he]
      have hk16 : k ≤ 16777217 := by omega
      go_wp2_with fail
      refine (DV _).mono ?_
      rintro e w3 ⟨rfl, hb3⟩
      have ROW3 := HROW.out.below hb3
      have hcr3 : w3.cell? ⟨g, k, none⟩ = some (.int .u64 ((R'.getD k 0 : Nat) : Int)) := ROW3.cell HLEN.out
      have hfr3 : w3.frozen? ⟨g, k, none⟩ = false := ROW3.free _
      generalize R'.getD k 0 = x2 at hcr3
      have R3 := Lib.hid ROW3; have HG3 := Lib.hid (grown_trans' HG.out (grown_of_below hb3 (some g)))
      clear ROW3 hb3
      go_wp2
      go_roundw
      case rel =>
        have hset := R3.out.set k (dgQ r x d)
        exact ⟨k, dgR r x d, _, by omega, by go_num, rfl, HST.out, hset.1, grown_trans' HG3.out hset.2⟩
      case measure => simp [intOf]
    · obtain rfl : k0 = 0 := by omega
      clear hT hrow hgr
      go_wp2
      go_ret
      exact ⟨_, _, rfl, HROW.out, HG.out, HT.out⟩

/-- what restByLimb's loop holds -/
def RbO (w wr : World) (xs : List Nat) (d : Nat) (r i : Value) : Prop := ∃ k rr : Nat, k ≤ xs.length ∧ i = .int .i64 ((k : Int) - 1) ∧ r = .int .u64 (rr : Int) ∧ rr = val B64 (xs.drop k) % d ∧ Below w.heap.size w wr
set_option maxHeartbeats 2000000 in
set_option maxRecDepth 100000 in
theorem restByLimb_any (v : Value) (xs : List Nat) (d : Nat) (w : World) (h : Sl w .u64 v xs) (lx : Lim B64 xs) (hd : 0 < d) (hdb : d < B64) :
    Calls Tryd.prog 33 #[v, .int .u64 ((d : Nat) : Int)] w fun e w' => e = .returned (.int .u64 ((val B64 xs % d : Nat) : Int)) ∧ Below w.heap.size w w' := by
  have hlen := h.len
  obtain ⟨ao, cap, rfl, h1, h2, h3, h4, h5⟩ := h
  have H5 := Lib.hid h5; have LX := Lib.hid lx; have HD := Lib.hid hd; have HDB := Lib.hid hdb
  unfold maxLen at h2
  clear h3 h4 h5 lx hdb
  go_enter Tryd.func33, Tryd.ntmps33
  go_wp2
  go_loopw [5, 6] (fun r i wr => RbO w wr xs d r i) (fun _ i _ => (intOf i + 1).toNat)
  case atStart => exact ⟨xs.length, 0, Nat.le_refl _, rfl, rfl, by rw [List.drop_of_length_le (Nat.le_refl _)]; simp [val], Below.refl _ _⟩
  case round =>
    obtain ⟨k0, r, hk, rfl, rfl, hr, hbel⟩ := hrel
    have HB := Lib.hid hbel; have HRR := Lib.hid hr
    by_cases hlt : 0 < k0
    · obtain ⟨k, rfl⟩ : ∃ k, k0 = k + 1 := ⟨k0 - 1, by omega⟩
      have hkn : k < xs.length := by omega
      obtain ⟨b, off, rfl, hblt, hc⟩ := H5.out (by omega)
      have hcr : wr.cell? ⟨b, off + k, none⟩ = some (.int .u64 ((xs.getD k 0 : Nat) : Int)) := (hbel.cell (p := ⟨b, off + k, none⟩) hblt).trans (hc k hkn)
      have hrl : r < d := by rw [hr]; exact Nat.mod_lt _ HD.out
      have DV := fun w => div64_any r (xs.getD k 0) d hrl (LX.out k) HDB.out w
      have EN : Hid ((r * B64 + xs.getD k 0) % d = val B64 (xs.drop k) % d) := Lib.hid (by
        rw [val_drop B64 xs k hkn, hr]
        generalize val B64 (xs.drop (k + 1)) = V
        rw [Nat.mul_comm B64 V, Nat.add_comm (xs.getD k 0), Nat.add_mod, Nat.mul_mod, Nat.mod_mod, ← Nat.mul_mod, ← Nat.add_mod])
      generalize xs.getD k 0 = x at *
      have he : ((k + 1 : Nat) : Int) - 1 = (k : Int) := by omega
      have hk16 : k ≤ 16777217 := by omega
      clear hc hbel hrl hr
      rw [he]
      go_wp2_with fail
      refine (DV _).mono ?_
      rintro e w3 ⟨rfl, hb3⟩
      have HB3 := Lib.hid (below_step HB.out hb3)
      clear hb3
      go_wp2
      go_roundw
      case rel => exact ⟨k, _, by omega, by go_num, rfl, EN.out, HB3.out⟩
      case measure => simp [intOf]
    · obtain rfl : k0 = 0 := by omega
      clear hbel hr
      go_wp2
      go_ret
      exact ⟨by rw [HRR.out]; rfl, HB.out⟩
end Go.Proofs.YtafeokkkbiaajabDoor
