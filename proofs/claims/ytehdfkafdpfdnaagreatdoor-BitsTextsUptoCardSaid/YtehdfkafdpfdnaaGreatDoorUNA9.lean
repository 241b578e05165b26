/- 9RA 9RB 9RC. -/
import Derived.Test.YtehdfkafdpfdnaaGreatDoorUN2
import Derived.Test.YtehdfkafdpfdnaaGreatDoorUFA
import Derived.Test.YtehdfkafdpfdnaaGreatDoorUY2
import Derived.Test.YtehdfkafdpfdnaaGreatDoorUN4
import Derived.Test.YtehdfkafdpfdnaaGreatDoorUNC9
import Derived.IntWalk
set_option linter.unusedVariables false
set_option linter.unusedSimpArgs false
/- tribunalref09: Right, bit. -/
namespace Go.Proofs.YtehdfkafdpfdnaaGreatDoor
open Go.RowKit Mth

theorem bit_end9 (x r : Nat) (hx : x < B64) : (bits BinOp.and IntKind.u64 ((x : Int) / 2 ^ r) 1 == 1) = decide (x / 2 ^ r % 2 = 1) := bit_end x r hx
theorem bitN_last {a : Nat} (h : 0 < bl a) : bitN a (bl a - 1) = true := by
  have h0 : a ≠ 0 := fun e => by rw [e, bl_zero] at h; omega
  obtain ⟨m, e, h1, h2⟩ := bl_spec h0
  rw [show bl a - 1 = m by omega]
  unfold bitN
  rw [Nat.pow_succ] at h2
  have h3 : a / 2 ^ m = 1 := Nat.div_eq_of_lt_le (by omega) (by omega)
  rw [h3]; rfl
theorem bitN_high {n i : Nat} (h : bl n ≤ i) : bitN n i = false := by
  unfold bitN
  rw [Nat.div_eq_of_lt (Nat.lt_of_lt_of_le (lt_bl n) (Nat.pow_le_pow_right (by omega) h))]
  rfl
theorem bitN_some {n wd : Nat} (h : wd < bl n) : ∃ j, wd ≤ j ∧ j < bl n ∧ bitN n j = true ∧ ∀ i, wd ≤ i → i < j → bitN n i = false := by
  have ht : bitN n (bl n - 1) = true := bitN_last (by omega)
  have key : ∀ d, ∀ j, j + d = bl n - 1 → wd ≤ j → ∃ j', j ≤ j' ∧ j' < bl n ∧ bitN n j' = true ∧ ∀ i, j ≤ i → i < j' → bitN n i = false := by
    intro d
    induction d with
    | zero => intro j hj _; exact ⟨j, Nat.le_refl _, by omega, by rw [show j = bl n - 1 by omega]; exact ht, fun i h1 h2 => absurd h2 (by omega)⟩
    | succ d ih =>
      intro j hj hw
      cases hb : bitN n j
      · obtain ⟨j', h1, h2, h3, h4⟩ := ih (j + 1) (by omega) (by omega)
        refine ⟨j', by omega, h2, h3, fun i h5 h6 => ?_⟩
        by_cases e : i = j
        · rw [e]; exact hb
        · exact h4 i (by omega) h6
      · exact ⟨j, Nat.le_refl _, by omega, hb, fun i h1 h2 => absurd h2 (by omega)⟩
  obtain ⟨j, h1, h2, h3, h4⟩ := key (bl n - 1 - wd) wd (by omega) (Nat.le_refl _)
  exact ⟨j, h1, h2, h3, h4⟩
set_option maxHeartbeats 4000000 in
set_option maxRecDepth 100000 in
theorem rright_no (x : Int) (hx : isW x = false) (u : Value) (xs : List Nat) (w : World) (hs : Sl w .u64 u xs) : Calls Tryz.prog 16 #[.agg #[.int .i64 x, u]] w fun e w' => e = .returned (.bool false) ∧ Below w.heap.size w w' := by
  obtain ⟨ao, cap, rfl⟩ := hs.shape
  obtain ⟨W, eW, gW, bW, hWs⟩ := alloc1n w (Obj.cells #[.int .i64 x, .slice ao xs.length cap] 25)
  have BW := Lib.hid bW
  obtain ⟨c0, c1, f0, f1, _⟩ := blk2 gW
  have hc : x < 1 ∨ (1 ≤ x ∧ 4096 < x) := by
    unfold isW at hx
    simp only [Bool.and_eq_false_iff, decide_eq_false_iff_not] at hx
    omega
  clear hs gW bW hx
  rcases hc with hc | ⟨hc, hc'⟩
  all_goals
    go_enter Tryz.func16, Tryz.ntmps16
    go_wp2_with fail
    try rw [eW]
    go_wp2
    go_ret
    exact ⟨rfl, BW.out⟩
set_option maxHeartbeats 4000000 in
set_option maxRecDepth 100000 in
theorem rright_loop (wd : Nat) (h1 : 1 ≤ wd) (h2 : wd ≤ 4096) (u : Value) (xs : List Nat) (w : World) (hs : Sl w .u64 u xs) (hl : Lim B64 xs) (b : Bool) (j : Nat) (hj : wd ≤ j) (hb : (b = true ∧ 64 * xs.length ≤ j) ∨ (b = false ∧ j < 64 * xs.length ∧ bitN (val B64 xs) j = true)) (hz : ∀ i, wd ≤ i → i < j → bitN (val B64 xs) i = false) :
    Calls Tryz.prog 16 #[.agg #[.int .i64 (wd : Int), u]] w fun e w' => e = .returned (.bool b) ∧ Below w.heap.size w w' := by
  have hlen := hs.len
  obtain ⟨ao, cap, rfl, k1, k2, k3, k4, k5⟩ := hs
  obtain ⟨W, eW, gW, bW, hWs⟩ := alloc1n w (Obj.cells #[.int .i64 (wd : Int), .slice ao xs.length cap] 25)
  have BW := Lib.hid bW
  have K5 := Lib.hid k5
  have HL := Lib.hid hl; have HZ := Lib.hid hz; have HB := Lib.hid hb
  obtain ⟨c0, c1, f0, f1, _⟩ := blk2 gW
  unfold maxLen at k2
  clear gW bW k4 k5 hl hz hb
  go_enter Tryz.func16, Tryz.ntmps16
  go_wp2_with fail
  try rw [eW]
  go_loop [3] (fun i => ∃ k : Nat, wd ≤ k ∧ k ≤ j ∧ (k = wd ∨ k ≤ 64 * xs.length) ∧ i = .int .i64 (k : Int)) (fun i => 64 * xs.length - (intOf i).toNat)
  case atStart => exact ⟨wd, Nat.le_refl _, hj, Or.inl rfl, rfl⟩
  case round =>
    obtain ⟨k, hk1, hk2, hk3, rfl⟩ := hrel
    obtain ⟨q, r, hqr, hr⟩ : ∃ q r, k = 64 * q + r ∧ r < 64 := ⟨k / 64, k % 64, by omega, by omega⟩
    have hq64 : (k : Int) / 64 = (q : Int) := by omega
    have hr64 : (k : Int) % 64 = (r : Int) := by omega
    have hqb : (q : Int) ≤ 9223372036854775807 := by omega
    by_cases hlt : k < 64 * xs.length
    · have hql : q < xs.length := by omega
      obtain ⟨bb, off, rfl, hbb, hc⟩ := K5.out (by omega)
      have hcq := (BW.out.cell (p := ⟨bb, off + q, none⟩) hbb).trans (hc q hql)
      have hx := HL.out q
      have hbit : bitN (val B64 xs) k = decide (xs.getD q 0 / 2 ^ r % 2 = 1) := by rw [hqr]; exact bit_limb HL.out hr hql
      have he := bit_end9 (xs.getD q 0) r hx
      rw [← hbit] at he
      by_cases hkj : k < j
      · rw [HZ.out k hk1 hkj] at he
        generalize xs.getD q 0 = xq at *
        have HX := Lib.hid hx
        clear hc hx hbit hqr
        go_wp2_with fail
        go_round
        case rel => exact ⟨k + 1, by omega, by omega, Or.inr (by omega), by go_num⟩
        case measure => (simp [intOf]; try omega)
      · obtain rfl : k = j := by omega
        rcases HB.out with ⟨-, h⟩ | ⟨hbf, h, hbt⟩
        · omega
        · subst hbf
          rw [hbt] at he
          generalize xs.getD q 0 = xq at *
          have HX := Lib.hid hx
          clear hc hx hbit hqr hbt
          go_wp2
          go_ret
          exact ⟨rfl, BW.out⟩
    · rcases HB.out with ⟨hbt, h⟩ | ⟨hbf, h, hbt⟩
      · subst hbt
        have hlt' : ¬ (k : Int) < 64 * (xs.length : Int) := by omega
        go_wp2
        go_ret
        exact ⟨rfl, BW.out⟩
      · exfalso; omega
theorem rright_any (x : Int) (u : Value) (xs : List Nat) (w : World) (hs : Sl w .u64 u xs) (hl : Lim B64 xs) : Calls Tryz.prog 16 #[.agg #[.int .i64 x, u]] w fun e w' => e = .returned (.bool (rightF x (val B64 xs))) ∧ Below w.heap.size w w' := by
  unfold rightF
  cases hx : isW x
  · exact rright_no x hx u xs w hs
  · have h : 1 ≤ x ∧ x ≤ 4096 := by unfold isW at hx; simpa using hx
    obtain ⟨wd, rfl⟩ := Int.eq_ofNat_of_zero_le (show 0 ≤ x by omega)
    rw [Bool.true_and]
    by_cases hb : bl (val B64 xs) ≤ wd
    · rw [decide_eq_true (by omega)]
      exact rright_loop wd (by omega) (by omega) u xs w hs hl true (max wd (64 * xs.length)) (by omega) (Or.inl ⟨rfl, by omega⟩) (fun i h1 _ => bitN_high (by omega))
    · obtain ⟨j, h1, h2, h3, h4⟩ := bitN_some (n := val B64 xs) (wd := wd) (by omega)
      have h5 : j < 64 * xs.length := by
        rcases Nat.lt_or_ge j (64 * xs.length) with h | h
        · exact h
        · rw [bit_far hl h] at h3; cases h3
      rw [decide_eq_false (by omega)]
      exact rright_loop wd (by omega) (by omega) u xs w hs hl false j h1 (Or.inr ⟨rfl, h5, h3⟩) h4
end Go.Proofs.YtehdfkafdpfdnaaGreatDoor

/- tribunalref09: bit, U, Power. -/
namespace Go.Proofs.YtehdfkafdpfdnaaGreatDoor
open Go.RowKit Mth

theorem results_zt {fn : Func} {tmps : Array Value} {w : World} {g : Nat} {x0 x1 : Value} {t : Nat} (h : fn.results = #[.cell t 77]) (h1 : tmps.getD t undef = .pointer (some ⟨g, 0, none⟩)) (hb : w.heap[g]? = some (.cells #[x0, x1] 77 (0, 0))) :
    (results fn tmps).run Tryz.prog w = .ok (.agg #[x0, x1]) w := by
  obtain ⟨c0, c1, _⟩ := blk2 hb
  rw [Array.getD_eq_getD_getElem?] at h1
  simp [results, h, h1, go_sem, c0, c1]
set_option maxHeartbeats 4000000 in
set_option maxRecDepth 100000 in
theorem rbit9_any (x : Int) (u : Value) (xs : List Nat) (n : Nat) (hn : n ≤ 16777216) (w : World) (h : Sl w .u64 u xs) (hl : Lim B64 xs) :
    Calls Tryz.prog 18 #[.agg #[.int .i64 x, u], .int .i64 (n : Int)] w fun e w' => e = .returned (.bool (bitN (val B64 xs) n)) ∧ Below w.heap.size w w' := by
  have hlen := h.len
  obtain ⟨q, r, hqr, hr⟩ : ∃ q r, n = 64 * q + r ∧ r < 64 := ⟨n / 64, n % 64, by omega, by omega⟩
  have hq64 : (n : Int) / 64 = (q : Int) := by omega
  have hr64 : (n : Int) % 64 = (r : Int) := by omega
  obtain ⟨ao, cap, rfl, k1, k2, k3, k4, k5⟩ := h
  obtain ⟨W, eW, gW, bW, hWs⟩ := alloc1n w (Obj.cells #[.int .i64 x, .slice ao xs.length cap] 25)
  have BW := Lib.hid bW
  obtain ⟨c0, c1, f0, f1, _⟩ := blk2 gW
  have hqb : (q : Int) ≤ 9223372036854775807 := by omega
  unfold maxLen at k2
  by_cases hfar : xs.length ≤ q
  · have E : Hid (bitN (val B64 xs) n = false) := Lib.hid (bit_far hl (by omega))
    have hd2 : ¬ (q : Int) < (xs.length : Int) := by omega
    clear k4 k5 hl hqr gW bW
    go_enter Tryz.func18, Tryz.ntmps18
    go_wp2_with fail
    try rw [eW]
    go_wp2
    go_ret
    exact ⟨by rw [E.out]; rfl, BW.out⟩
  · obtain ⟨b, off, rfl, hb, hc⟩ := k5 (by omega)
    have E : Hid (bitN (val B64 xs) n = decide (xs.getD q 0 / 2 ^ r % 2 = 1)) := Lib.hid (by rw [hqr, bit_limb hl hr (by omega)])
    have hcq := (bW.cell (p := ⟨b, off + q, none⟩) hb).trans (hc q (by omega))
    have hx := hl q
    generalize xs.getD q 0 = xq at *
    have HX := Lib.hid hx
    have hql : q < xs.length := by omega
    clear k4 k5 hl hc hx hqr hfar gW bW
    go_enter Tryz.func18, Tryz.ntmps18
    go_wp2_with fail
    try rw [eW]
    go_wp2
    go_ret
    refine ⟨?_, BW.out⟩
    rw [E.out]
    exact ret_bool (bit_end9 xq r HX.out)
/-- the reference's number, told of in the world before and behind -/
def ResZ9 (w w' : World) (e : Ending) (z : Int) : Prop := ∃ n a k c, e = .returned (.agg #[.bool n, .slice a k c]) ∧ ZV w' (.agg #[.bool n, .slice a k c]) z ∧ Below w.heap.size w w'
theorem from9 (v : Value) (z : Int) (w : World) (h : IntV w v z) : Calls Tryz.prog 40 #[v] w fun e w' => ResZ9 w w' e z := (from_any2 v z w h).mono fun e w' ⟨v', he, hz, hb⟩ => by
  obtain ⟨n, a, k, c, rfl⟩ := hz.shape
  exact ⟨n, a, k, c, he, hz, hb⟩
end Go.Proofs.YtehdfkafdpfdnaaGreatDoor

/- tribunalref09: S, Mod, From, Of (gen9rc.py). -/
namespace Go.Proofs.YtehdfkafdpfdnaaGreatDoor
open Go.RowKit Mth

/-- limbs in normal form, by the parts of their slice -/
def SlN (w : World) (a : Option Addr) (k c n : Nat) : Prop := ∃ xs, xs.length = k ∧ Sl w .u64 (.slice a k c) xs ∧ Lim B64 xs ∧ Top xs ∧ val B64 xs = n
theorem SlN.below {w w' : World} {k c n : Nat} {a : Option Addr} (h : SlN w a k c n) (hb : Below w.heap.size w w') : SlN w' a k c n := by
  obtain ⟨xs, h0, h1, h2⟩ := h; exact ⟨xs, h0, h1.below hb, h2⟩
theorem SlN.far {w : World} {k c n : Nat} {a : Option Addr} {y0 y1 : Value} {R : Nat} {T : TypeId} {x : Int} {u : Value} (h : SlN w a k c n) (hR : w.heap[R]? = some (.cells #[.int .i64 x, u] T (0, 0))) (hu : ∀ z, u ≠ .int .u64 z) : SlN ((w.setCell ⟨R, 0, none⟩ y0).setCell ⟨R, 1, none⟩ y1) a k c n := by
  obtain ⟨xs, rfl, h1, h2⟩ := h
  have hne : ∀ b off cap, (Value.slice a xs.length c) = .slice (some ⟨b, off, none⟩) xs.length cap → 0 < xs.length → b ≠ R := fun b off cap e hp => by rw [e] at h1; exact h1.neI hp hR hu
  exact ⟨xs, rfl, (h1.set_far hne).set_far hne, h2⟩
theorem BvK.n {w : World} {wd k c n : Nat} {a : Option Addr} (h : BvK w wd a k c n) : SlN w a k c n := by
  obtain ⟨xs, h0, h1, h2, h3, h4, -⟩ := h; exact ⟨xs, h0, h1, h2, h3, h4⟩
theorem slN_nil (w : World) : SlN w none 0 0 0 := ⟨[], rfl, sl_nil w _, lim_nil (by have := B64_pos; omega), rfl, rfl⟩
end Go.Proofs.YtehdfkafdpfdnaaGreatDoor
