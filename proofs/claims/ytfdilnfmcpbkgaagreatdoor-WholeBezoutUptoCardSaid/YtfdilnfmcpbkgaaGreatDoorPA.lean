/- Dig IsDig Parse. -/
import Derived.Test.YtfdilnfmcpbkgaaGreatDoorRF
import Derived.Lib.OthersKept
set_option linter.unusedVariables false
set_option linter.unusedSimpArgs false
/- Digits: nat.digit, tribunalref01.digit; nat.timesLimb. -/
namespace Go.Proofs.YtfdilnfmcpbkgaaGreatDoor
open Go.RowKit Mth

/-- what a letter counts; 99 for what is no digit -/
def dgv (c : Nat) : Nat := if 48 ≤ c ∧ c ≤ 57 then c - 48 else if 97 ≤ c ∧ c ≤ 102 then c - 97 + 10 else if 65 ≤ c ∧ c ≤ 70 then c - 65 + 10 else 99
/-- the answers of nat.digit and of tribunalref01.digit -/
def dgA (c : Nat) : Int := if dgv c = 99 then 9223372036854775807 else (dgv c : Int)
def dgB (c : Nat) : Int := if dgv c = 99 then -1 else (dgv c : Int)
theorem dgv_le (c : Nat) : dgv c = 99 ∨ dgv c ≤ 15 := by unfold dgv; split <;> (try split) <;> (try split) <;> omega
theorem dgv_high {c : Nat} (h : 128 ≤ c) : dgv c = 99 := by unfold dgv; rw [if_neg (by omega), if_neg (by omega), if_neg (by omega)]
/-- after k rounds of timesLimb -/
structure TlT (xs ys : List Nat) (x p k c : Nat) : Prop where
  len : ys.length = xs.length
  rest : ∀ j, k ≤ j → ys.getD j 0 = xs.getD j 0
  lim : Lim B64 ys
  clt : c < B64
  eq : val B64 (ys.take k) + B64 ^ k * c = x * val B64 (xs.take k) + p
theorem tlT_zero {xs : List Nat} {p : Nat} (x : Nat) (h : Lim B64 xs) (hp : p < B64) : TlT xs xs x p 0 p := ⟨rfl, fun _ _ => rfl, h, hp, by simp [val]⟩
theorem tlT_step {xs ys : List Nat} {x p k c : Nat} (h : TlT xs ys x p k c) (_lx : Lim B64 xs) (hx : x < B64) (hk : k < xs.length) :
    TlT xs (ys.set k (pLo x (ys.getD k 0) c)) x p (k + 1) (pHi x (ys.getD k 0) c) := by
  have hl := h.len
  have e0 := h.rest k (Nat.le_refl _)
  refine ⟨by rw [List.length_set, hl], fun j hj => by rw [getD_set' _ _ _ _ (by omega), if_neg (by omega)]; exact h.rest j (by omega), lim_set h.lim (pLo_lt _ _ _) _, pHi_lt hx (h.lim k) h.clt, ?_⟩
  rw [val_take_succ' B64 xs k, val_take_succ B64 _ k (by rw [List.length_set]; omega), getD_set' _ _ _ _ (by omega), if_pos rfl]
  have e1 : (ys.set k (pLo x (ys.getD k 0) c)).take k = ys.take k :=
    take_congr (by rw [List.length_set]; omega) (by omega) (fun j hj => by rw [getD_set' _ _ _ _ (by omega), if_neg (by omega)])
  rw [e1, ← e0]
  have e := p_eq x (ys.getD k 0) c
  generalize ys.getD k 0 = y at *
  have e4 := h.eq
  have e5 : B64 ^ k * pLo x y c + B64 ^ k * (B64 * pHi x y c) = B64 ^ k * (x * y) + B64 ^ k * c := by
    rw [← Nat.mul_add, e, Nat.mul_add]
  have e6 : x * (B64 ^ k * y) = B64 ^ k * (x * y) := Nat.mul_left_comm _ _ _
  rw [Nat.pow_succ, Nat.mul_assoc, Nat.mul_add, e6]
  omega
/-- the end, nothing carried -/
theorem tlT_end0 {xs ys : List Nat} {x p : Nat} (h : TlT xs ys x p xs.length 0) : val B64 ys = x * val B64 xs + p := by
  have := h.eq
  rw [List.take_length, ← h.len, List.take_length] at this
  omega
/-- with a carry -/
theorem tlT_end {xs ys : List Nat} {x p c : Nat} (h : TlT xs ys x p xs.length c) : val B64 (ys ++ [c]) = x * val B64 xs + p := by
  have := h.eq
  rw [List.take_length, ← h.len, List.take_length] at this
  rw [val_snoc]; exact this
theorem top_of_val {xs : List Nat} (h : Lim B64 xs) (hv : xs.length = 0 ∨ B64 ^ (xs.length - 1) ≤ val B64 xs) : Top xs := by
  unfold Top
  have h1 := tlen_le xs
  rcases Nat.lt_or_ge (tlen xs) xs.length with h2 | h2
  · exfalso
    have h3 := val_lt (lim_trimL h)
    rw [val_trimL, length_trimL] at h3
    have h4 : B64 ^ tlen xs ≤ B64 ^ (xs.length - 1) := Nat.pow_le_pow_right (by have := B64_pos; omega) (by omega)
    rcases hv with hv | hv
    · omega
    · omega
  · omega
theorem tlT_top0 {xs ys : List Nat} {x p : Nat} (h : TlT xs ys x p xs.length 0) (hx : 0 < x) (t : Top xs) : Top ys := by
  refine top_of_val h.lim ?_
  rw [h.len]
  rcases Nat.eq_zero_or_pos xs.length with h0 | h0
  · exact .inl h0
  · right
    rw [tlT_end0 h]
    have h1 := val_ge_top (B := B64) t h0
    have h2 : 1 * val B64 xs ≤ x * val B64 xs := Nat.mul_le_mul_right _ hx
    omega
theorem top_snoc {ys : List Nat} {c : Nat} (hc : c ≠ 0) : Top (ys ++ [c]) := top_append (zs := ys) (by simp [Top, tlen, hc]) (by simp)

/-- what timesLimb's loop holds -/
def TlO (w wr : World) (base : Nat) (v : Value) (xs : List Nat) (x p : Nat) (c i : Value) : Prop := ∃ (k cc : Nat) (ys : List Nat), k ≤ xs.length ∧ i = .int .i64 k ∧ c = .int .u64 (cc : Int) ∧ TlT xs ys x p k cc ∧ wr.ownsRow base 44 1 v xs.length (cellsOf .u64 ys) ∧ w.grownBy wr v.ownBlock
end Go.Proofs.YtfdilnfmcpbkgaaGreatDoor

/- nat.isDigits, isBase; tribunalref01.based. -/
namespace Go.Proofs.YtfdilnfmcpbkgaaGreatDoor
open Go.RowKit Mth

/-- the byte at i -/
def bt (s : ByteArray) (i : Nat) : Nat := if h : i < s.size then (s[i]'h).toNat else 0
theorem bt_at {s : ByteArray} {i : Nat} (h : i < s.size) : (s[i]'h).toNat = bt s i := by unfold bt; rw [dif_pos h]
theorem bt_lt (s : ByteArray) (i : Nat) : bt s i ≤ 255 := by
  unfold bt
  split
  · have := (s[i]'(by assumption)).toNat_lt; omega
  · omega
/-- the letter that a range over s sees there -/
theorem rune_dgv {s : ByteArray} {i : Nat} (h : i < s.size) : dgv (Utf8.decode s i).1 = dgv (bt s i) ∧ (Utf8.decode s i).1 ≤ 2147483647 ∧ (dgv (bt s i) < 99 → (Utf8.decode s i).2 = 1) := by
  by_cases ha : (s[i]'h).toNat < 128
  · rw [decode_ascii s i h ha, bt_at h]
    refine ⟨rfl, ?_, fun _ => rfl⟩
    have := bt_lt s i
    show bt s i ≤ 2147483647
    omega
  · have hh := decode_high s i h (by omega)
    have hb : dgv (bt s i) = 99 := dgv_high (by rw [← bt_at h]; omega)
    exact ⟨by rw [hb, dgv_high hh.1], decode_le s i, fun h9 => by omega⟩
/-- is s a row of digits of the base -/
def okD (s : ByteArray) (b : Nat) : Prop := s.size ≠ 0 ∧ ∀ i, i < s.size → dgv (bt s i) < b
theorem size_zero {s : ByteArray} (h : s.size = 0) : s = ⟨#[]⟩ := by
  obtain ⟨d⟩ := s
  have : d = #[] := Array.eq_empty_of_size_eq_zero h
  rw [this]
theorem not_empty {s : ByteArray} (h : ¬ s.size = 0) : s.toList.isEmpty = false := by
  rw [ByteArray.toList_eq, List.isEmpty_eq_false_iff]
  intro e
  apply h
  show s.data.size = 0
  rw [← Array.length_toList, e]; rfl
def IsDigO (w wr : World) (s : ByteArray) (b : Nat) : Prop := ∃ pos : Nat, pos ≤ s.size ∧ wr = w.iter s pos ∧ ∀ i, i < pos → dgv (bt s i) < b
theorem below_iter (w : World) (s : ByteArray) (pos : Nat) : Below w.heap.size w (w.iter s pos) := (Below.refl _ _).alloc (Nat.le_refl _) _

set_option maxRecDepth 100000 in
theorem isBase_any (b : Int) (r : Bool) (hr : r = true ↔ b = 2 ∨ b = 10 ∨ b = 16) (hb : -9223372036854775808 ≤ b ∧ b ≤ 9223372036854775807) (w : World) :
    Calls Tryz.prog 77 #[.int .i64 b] w fun e w' => e = .returned (.bool r) ∧ w = w' := by
  obtain ⟨b1, b2⟩ := hb
  rcases (show b = 2 ∨ b = 10 ∨ b = 16 ∨ (¬ b = 2 ∧ ¬ b = 10 ∧ ¬ b = 16) by omega) with rfl | rfl | rfl | ⟨h1, h2, h3⟩
  · have E : Hid (r = true) := Lib.hid (hr.2 (.inl rfl))
    clear hr
    go_enter Tryz.func77, Tryz.ntmps77
    go_wp2
    go_ret
    exact ⟨by rw [E.out]; rfl, rfl⟩
  · have E : Hid (r = true) := Lib.hid (hr.2 (.inr (.inl rfl)))
    clear hr
    go_enter Tryz.func77, Tryz.ntmps77
    go_wp2
    go_ret
    exact ⟨by rw [E.out]; rfl, rfl⟩
  · have E : Hid (r = true) := Lib.hid (hr.2 (.inr (.inr rfl)))
    clear hr
    go_enter Tryz.func77, Tryz.ntmps77
    go_wp2
    go_ret
    exact ⟨by rw [E.out]; rfl, rfl⟩
  · have E : Hid (r = false) := Lib.hid (by rw [← Bool.not_eq_true, hr]; omega)
    have d1 : (b == 2) = false := beq_eq_false_iff_ne.2 h1
    have d2 : (b == 10) = false := beq_eq_false_iff_ne.2 h2
    have d3 : (b == 16) = false := beq_eq_false_iff_ne.2 h3
    clear hr h1 h2 h3
    go_enter Tryz.func77, Tryz.ntmps77
    go_wp2
    go_ret
    exact ⟨by rw [E.out]; rfl, rfl⟩
end Go.Proofs.YtfdilnfmcpbkgaaGreatDoor

/- nat.Parse. -/
namespace Go.Proofs.YtfdilnfmcpbkgaaGreatDoor
open Go.RowKit Mth

/-- the value of the first k digits -/
def pv (s : ByteArray) (b : Nat) : Nat → Nat
  | 0 => 0
  | k + 1 => pv s b k * b + dgv (bt s k)
theorem pv_mono {s : ByteArray} {b : Nat} (hb : 1 ≤ b) (k n : Nat) : pv s b k ≤ pv s b (k + n) := by
  induction n with
  | zero => exact Nat.le_refl _
  | succ n ih =>
    have h1 : pv s b (k + n) * 1 ≤ pv s b (k + n) * b := Nat.mul_le_mul_left _ hb
    have h2 : pv s b (k + (n + 1)) = pv s b (k + n) * b + dgv (bt s (k + n)) := rfl
    omega
/-- is b a base -/
def isB (b : Int) : Prop := b = 2 ∨ b = 10 ∨ b = 16
/-- what Parse answers -/
structure ParIs (s : ByteArray) (b : Int) (N : Nat) (ER : Int) : Prop where
  bad : ¬ isB b → N = 0 ∧ ER = 12
  dig : ∀ n : Nat, b = (n : Int) → isB b → ¬ okD s n → N = 0 ∧ ER = 13
  fine : ∀ n : Nat, b = (n : Int) → isB b → okD s n → N = cutN (pv s n s.size) ∧ ER = cutE (pv s n s.size)
theorem par_ex (s : ByteArray) (b : Int) : ∃ N ER, ParIs s b N ER := by
  by_cases h : isB b
  · obtain ⟨n, rfl⟩ : ∃ n : Nat, b = (n : Int) := ⟨b.toNat, by unfold isB at h; omega⟩
    by_cases h2 : okD s n
    · exact ⟨_, _, fun h3 => absurd h h3, fun m e _ h3 => absurd (by rwa [Int.ofNat.inj e] at h2) h3, fun m e _ _ => by rw [← Int.ofNat.inj e]; exact ⟨rfl, rfl⟩⟩
    · exact ⟨0, 13, fun h3 => absurd h h3, fun _ _ _ _ => ⟨rfl, rfl⟩, fun m e _ h3 => absurd (by rwa [← Int.ofNat.inj e] at h3) h2⟩
  · exact ⟨0, 12, fun _ => ⟨rfl, rfl⟩, fun _ _ h3 => absurd h3 h, fun _ _ h3 => absurd h3 h⟩

theorem own_iterAt {w : World} {base e n m g : Nat} {v : Value} {xs : List Value} (h : w.ownsRow base e n v m xs) (s : ByteArray) (pos : Nat) (hg : g < base) : (w.iterAt g s pos).ownsRow base e n v m xs := by
  obtain ⟨h1, h2⟩ := h
  refine ⟨h1, ?_⟩
  rcases h2 with h2 | ⟨g', cap, cur, a1, a2, a3, a4⟩
  · exact .inl h2
  · refine .inr ⟨g', cap, cur, a1, a2, ?_, a4⟩
    rw [Lib.iterAt_other _ _ _ _ _ (by omega)]; exact a3
/-- what Parse's loop holds: the iterator lies in block g -/
def ParO (w wr : World) (g : Nat) (s : ByteArray) (b : Nat) (v sc ch : Value) : Prop := ∃ (k : Nat) (xs : List Nat) (c h : Nat), k ≤ s.size ∧ wr.heap[g]? = some (.stringIter s k) ∧ wr.ownsRow (g + 1) 44 1 v xs.length (cellsOf .u64 xs) ∧ Lim B64 xs ∧ Top xs ∧ val B64 xs < Big ∧
  sc = .int .u64 (c : Int) ∧ ch = .int .u64 (h : Int) ∧ h < c ∧ c < B64 ∧ val B64 xs * c + h = pv s b k ∧ Below w.heap.size w wr
def isizeOf (wr : World) (g : Nat) (s : ByteArray) : Nat := s.size - wr.iterPos g
theorem par_step {X c h b d P : Nat} (e : X * c + h = P) (hd : d < b) (hh : h < c) : X * (c * b) + (h * b + d) = P * b + d ∧ h * b + d < c * b := by
  refine ⟨?_, ?_⟩
  · rw [← e, Nat.add_mul, Nat.mul_assoc]; omega
  · have : (h + 1) * b ≤ c * b := Nat.mul_le_mul_right _ hh
    rw [Nat.add_mul, Nat.one_mul] at this
    omega
theorem top_len {xs : List Nat} (t : Top xs) (h : val B64 xs < Big) : xs.length ≤ 4096 := by
  have := length_of_val (B := B64) (by have := B64_pos; omega) t maxL h
  unfold maxL at this; exact this

theorem isize_at {w : World} {g k : Nat} {s : ByteArray} (h : w.heap[g]? = some (.stringIter s k)) : isizeOf w g s = s.size - k := by
  unfold isizeOf World.iterPos; rw [h]
theorem own_base {w : World} {base base' e n m : Nat} {v : Value} {xs : List Value} (h : w.ownsRow base e n v m xs) (hb : base' ≤ base) : w.ownsRow base' e n v m xs := by
  obtain ⟨h1, h2⟩ := h
  refine ⟨h1, ?_⟩
  rcases h2 with h2 | ⟨g', cap, cur, a1, a2, a4⟩
  · exact .inl h2
  · exact .inr ⟨g', cap, cur, a1, by omega, a4⟩

end Go.Proofs.YtfdilnfmcpbkgaaGreatDoor
