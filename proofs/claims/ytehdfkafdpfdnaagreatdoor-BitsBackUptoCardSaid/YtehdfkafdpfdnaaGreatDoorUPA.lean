/- Dig IsDig Parse. -/
import Derived.Test.YtehdfkafdpfdnaaGreatDoorURF
import Derived.Lib.OthersKept
set_option linter.unusedVariables false
set_option linter.unusedSimpArgs false
/- Digits: nat.digit, tribunalref01.digit; nat.timesLimb. -/
namespace Go.Proofs.YtehdfkafdpfdnaaGreatDoor
open Go.RowKit Mth

/-- what a letter counts; 99 for what is no digit -/
def dgv (c : Nat) : Nat := if 48 ≤ c ∧ c ≤ 57 then c - 48 else if 97 ≤ c ∧ c ≤ 102 then c - 97 + 10 else if 65 ≤ c ∧ c ≤ 70 then c - 65 + 10 else 99
/-- the answers of nat.digit and of tribunalref01.digit -/
def dgA (c : Nat) : Int := if dgv c = 99 then 9223372036854775807 else (dgv c : Int)
theorem dgv_high {c : Nat} (h : 128 ≤ c) : dgv c = 99 := by unfold dgv; rw [if_neg (by omega), if_neg (by omega), if_neg (by omega)]
set_option maxRecDepth 100000 in
theorem digit_any (c : Nat) (hc : c ≤ 2147483647) (w : World) : Calls Tryz.prog 86 #[.int .i32 ((c : Nat) : Int)] w fun e w' => e = .returned (.int .i64 (dgA c)) ∧ w = w' := by
  by_cases h1 : 48 ≤ c ∧ c ≤ 57
  · have E : Hid (dgA c = (c : Int) - 48) := Lib.hid (by unfold dgA dgv; rw [if_pos h1, if_neg (by omega)]; omega)
    obtain ⟨h2, h3⟩ := h1
    go_enter Tryz.func86, Tryz.ntmps86
    go_wp2
    go_ret
    exact ⟨by rw [E.out]; rfl, rfl⟩
  · by_cases h2 : 97 ≤ c ∧ c ≤ 102
    · have E : Hid (dgA c = (c : Int) - 97 + 10) := Lib.hid (by unfold dgA dgv; rw [if_neg h1, if_pos h2, if_neg (by omega)]; omega)
      obtain ⟨h3, h4⟩ := h2
      have hn1 : 57 < c := by omega
      clear h1
      go_enter Tryz.func86, Tryz.ntmps86
      go_wp2
      go_ret
      exact ⟨by rw [E.out]; rfl, rfl⟩
    · by_cases h3 : 65 ≤ c ∧ c ≤ 70
      · have E : Hid (dgA c = (c : Int) - 65 + 10) := Lib.hid (by unfold dgA dgv; rw [if_neg h1, if_neg h2, if_pos h3, if_neg (by omega)]; omega)
        obtain ⟨h4, h5⟩ := h3
        have hn1 : 57 < c := by omega
        have hn2 : c < 97 := by omega
        clear h1 h2
        go_enter Tryz.func86, Tryz.ntmps86
        go_wp2
        go_ret
        exact ⟨by rw [E.out]; rfl, rfl⟩
      · have E : Hid (dgA c = 9223372036854775807) := Lib.hid (by unfold dgA dgv; rw [if_neg h1, if_neg h2, if_neg h3, if_pos rfl])
        rcases (show c < 48 ∨ (57 < c ∧ c < 65) ∨ (70 < c ∧ c < 97) ∨ 102 < c by omega) with h | ⟨h, h'⟩ | ⟨h, h'⟩ | h <;> (
          clear h1 h2 h3
          go_enter Tryz.func86, Tryz.ntmps86
          go_wp2
          go_ret
          exact ⟨by rw [E.out]; rfl, rfl⟩)
/-- after k rounds of timesLimb -/
structure TlT (xs ys : List Nat) (x p k c : Nat) : Prop where
  len : ys.length = xs.length
  rest : ∀ j, k ≤ j → ys.getD j 0 = xs.getD j 0
  lim : Lim B64 ys
  clt : c < B64
  eq : val B64 (ys.take k) + B64 ^ k * c = x * val B64 (xs.take k) + p
theorem tlT_zero {xs : List Nat} {p : Nat} (x : Nat) (h : Lim B64 xs) (hp : p < B64) : TlT xs xs x p 0 p := ⟨rfl, fun _ _ => rfl, h, hp, by simp [val]⟩
theorem tlT_step {xs ys : List Nat} {x p k c : Nat} (h : TlT xs ys x p k c) (_lx : Lim B64 xs) (hx : x < B64) (hk : k < xs.length) :
    TlT xs (ys.set k (pLo x (ys.getD k 0) c)) x p (k + 1) (pHi x (ys.getD k 0) c) := by
  have hl := h.len
  have e0 := h.rest k (Nat.le_refl _)
  refine ⟨by rw [List.length_set, hl], fun j hj => by rw [getD_set' _ _ _ _ (by omega), if_neg (by omega)]; exact h.rest j (by omega), lim_set h.lim (pLo_lt _ _ _) _, pHi_lt hx (h.lim k) h.clt, ?_⟩
  rw [val_take_succ' B64 xs k, val_take_succ B64 _ k (by rw [List.length_set]; omega), getD_set' _ _ _ _ (by omega), if_pos rfl]
  have e1 : (ys.set k (pLo x (ys.getD k 0) c)).take k = ys.take k :=
    take_congr (by rw [List.length_set]; omega) (by omega) (fun j hj => by rw [getD_set' _ _ _ _ (by omega), if_neg (by omega)])
  rw [e1, ← e0]
  have e := p_eq x (ys.getD k 0) c
  generalize ys.getD k 0 = y at *
  have e4 := h.eq
  have e5 : B64 ^ k * pLo x y c + B64 ^ k * (B64 * pHi x y c) = B64 ^ k * (x * y) + B64 ^ k * c := by
    rw [← Nat.mul_add, e, Nat.mul_add]
  have e6 : x * (B64 ^ k * y) = B64 ^ k * (x * y) := Nat.mul_left_comm _ _ _
  rw [Nat.pow_succ, Nat.mul_assoc, Nat.mul_add, e6]
  omega
/-- the end, nothing carried -/
theorem tlT_end0 {xs ys : List Nat} {x p : Nat} (h : TlT xs ys x p xs.length 0) : val B64 ys = x * val B64 xs + p := by
  have := h.eq
  rw [List.take_length, ← h.len, List.take_length] at this
  omega
/-- with a carry -/
theorem tlT_end {xs ys : List Nat} {x p c : Nat} (h : TlT xs ys x p xs.length c) : val B64 (ys ++ [c]) = x * val B64 xs + p := by
  have := h.eq
  rw [List.take_length, ← h.len, List.take_length] at this
  rw [val_snoc]; exact this
theorem top_of_val {xs : List Nat} (h : Lim B64 xs) (hv : xs.length = 0 ∨ B64 ^ (xs.length - 1) ≤ val B64 xs) : Top xs := by
  unfold Top
  have h1 := tlen_le xs
  rcases Nat.lt_or_ge (tlen xs) xs.length with h2 | h2
  · exfalso
    have h3 := val_lt (lim_trimL h)
    rw [val_trimL, length_trimL] at h3
    have h4 : B64 ^ tlen xs ≤ B64 ^ (xs.length - 1) := Nat.pow_le_pow_right (by have := B64_pos; omega) (by omega)
    rcases hv with hv | hv
    · omega
    · omega
  · omega
theorem tlT_top0 {xs ys : List Nat} {x p : Nat} (h : TlT xs ys x p xs.length 0) (hx : 0 < x) (t : Top xs) : Top ys := by
  refine top_of_val h.lim ?_
  rw [h.len]
  rcases Nat.eq_zero_or_pos xs.length with h0 | h0
  · exact .inl h0
  · right
    rw [tlT_end0 h]
    have h1 := val_ge_top (B := B64) t h0
    have h2 : 1 * val B64 xs ≤ x * val B64 xs := Nat.mul_le_mul_right _ hx
    omega
theorem top_snoc {ys : List Nat} {c : Nat} (hc : c ≠ 0) : Top (ys ++ [c]) := top_append (zs := ys) (by simp [Top, tlen, hc]) (by simp)

/-- what timesLimb's loop holds -/
def TlO (w wr : World) (base : Nat) (v : Value) (xs : List Nat) (x p : Nat) (c i : Value) : Prop := ∃ (k cc : Nat) (ys : List Nat), k ≤ xs.length ∧ i = .int .i64 k ∧ c = .int .u64 (cc : Int) ∧ TlT xs ys x p k cc ∧ wr.ownsRow base 55 1 v xs.length (cellsOf .u64 ys) ∧ w.grownBy wr v.ownBlock
set_option maxHeartbeats 2000000 in
set_option maxRecDepth 100000 in
theorem timesLimb_any (base : Nat) (v : Value) (xs : List Nat) (x p : Nat) (w : World) (hown : w.ownsRow base 55 1 v xs.length (cellsOf .u64 xs)) (lx : Lim B64 xs) (tx : Top xs) (hx : x < B64) (hx0 : 0 < x) (hp : p < B64) (hl : xs.length ≤ 16000000) (hb : base ≤ w.heap.size) :
    Calls Tryz.prog 85 #[v, .int .u64 ((x : Nat) : Int), .int .u64 ((p : Nat) : Int)] w fun e w' => ∃ v' ys, e = .returned v' ∧ w'.ownsRow base 55 1 v' ys.length (cellsOf .u64 ys) ∧ w.grownBy w' v.ownBlock ∧ Lim B64 ys ∧ Top ys ∧ val B64 ys = x * val B64 xs + p ∧ ys.length ≤ xs.length + 1 := by
  have HO := Lib.hid hown; have LX := Lib.hid lx; have TX := Lib.hid tx; have HX := Lib.hid hx; have HP := Lib.hid hp; have HX0 := Lib.hid hx0
  have hshape : ∃ ao cap, v = .slice ao xs.length cap ∧ xs.length ≤ cap ∧ cap ≤ maxLen ∧ (0 < xs.length → ∃ g, ao = some ⟨g, 0, none⟩) := by
    rcases hown.2 with ⟨rfl, h0⟩ | ⟨g, cap, cur, rfl, _, _, h1, h2, _⟩
    · exact ⟨none, 0, by rw [h0], by omega, by unfold maxLen; omega, fun h => by omega⟩
    · exact ⟨some ⟨g, 0, none⟩, cap, rfl, h1, h2, fun _ => ⟨g, rfl⟩⟩
  obtain ⟨ao, cap, rfl, hc1, hc2, hao⟩ := hshape
  have HAO := Lib.hid hao
  unfold maxLen at hc2
  clear hown lx tx hp hao hx0
  go_enter Tryz.func85, Tryz.ntmps85
  go_wp2
  go_loopw [7, 13] (fun c i wr => TlO w wr base (.slice ao xs.length cap) xs x p c i) (fun _ i _ => xs.length - (intOf i).toNat)
  case atStart => exact ⟨0, p, xs, Nat.zero_le _, rfl, rfl, tlT_zero x LX.out HP.out, HO.out, World.grownBy.refl _ _⟩
  case round =>
    obtain ⟨k, c, ys, hk, rfl, rfl, hT, hown, hgr⟩ := hrel
    have HT := Lib.hid hT; have HO1 := Lib.hid hown; have HG := Lib.hid hgr
    by_cases hlt : k < xs.length
    · obtain ⟨g, rfl⟩ := HAO.out (by omega)
      have hkl : k < ys.length := by rw [hT.len]; exact hlt
      have hck : wr.cell? ⟨g, k, none⟩ = some (.int .u64 ((ys.getD k 0 : Nat) : Int)) := by
        rw [hown.cellAt k (by omega), cellsOf_get _ _ _ hkl]
      have hfk : wr.frozen? ⟨g, k, none⟩ = false := hown.frozenAt k
      have HST := Lib.hid (tlT_step hT LX.out HX.out hlt)
      have hy := hT.lim k
      have hcl := hT.clt
      generalize ys.getD k 0 = y at *
      have HY := Lib.hid hy; have HC := Lib.hid hcl
      clear hT hown hgr hkl hy hcl hx
      go_wp2_with fail
      refine (mulAdd_any x y c HX.out HY.out HC.out _).mono ?_
      rintro e w' ⟨rfl, rfl⟩
      go_wp2
      go_roundw
      case rel =>
        have hst := HO1.out.stored k (.int .u64 ((pLo x y c : Nat) : Int))
        rw [cellsOf_set] at hst
        exact ⟨k + 1, pHi x y c, _, by omega, by go_num, rfl, HST.out, hst.1, grown_trans' HG.out hst.2⟩
      case measure => simp [intOf]; omega
    · obtain rfl : k = xs.length := by omega
      have hle : ys.length = xs.length := hT.len
      have hown2 : wr.ownsRow base 55 1 (.slice ao xs.length cap) ys.length (cellsOf .u64 ys) := by rw [hle]; exact hown
      have HOW := Lib.hid hown2; have HLE := Lib.hid hle
      have hyl : ys.length ≤ 16000000 := by omega
      have hbw : base ≤ wr.heap.size := Nat.le_trans hb hgr.size
      clear hgr hown hown2 hle
      by_cases hc0 : c = 0
      · subst hc0
        have HV := Lib.hid (tlT_end0 hT); have HTT := Lib.hid (tlT_top0 hT HX0.out TX.out); have HLM := Lib.hid hT.lim
        clear hT
        go_wp2
        go_ret
        exact ⟨_, ys, rfl, HOW.out, HG.out, HLM.out, HTT.out, HV.out, by rw [HLE.out]; omega⟩
      · have hd : ((c : Int) != 0) = true := by rw [bne_iff_ne]; omega
        have HV := Lib.hid (tlT_end hT); have HTT := Lib.hid (top_snoc (ys := ys) hc0); have HLM := Lib.hid (lim_snoc hT.lim hT.clt)
        clear hT hc0
        go_wp2_with (refine append_nat (o := ⟨some 34, _, _, _, _, _⟩) rfl _ _ rfl base _ ys c ⟨wr.heap.size, 0, none⟩ rfl rfl (HOW.out.alloc _) (World.cell?_alloc_new _ _ _ _) (by omega) (by simp; omega) ?_; intro v' w5 hown5 hg5)
        have HO5 := Lib.hid hown5
        have HG5 : Hid (w.grownBy w5 (Value.slice ao xs.length cap).ownBlock) := Lib.hid (grown_trans' HG.out (grown_trans' (grown_of_below ((Below.refl _ _).alloc (Nat.le_refl _) _) _) hg5))
        clear hown5 hg5
        go_wp2
        go_ret
        exact ⟨_, _, rfl, HO5.out, HG5.out, HLM.out, HTT.out, HV.out, by rw [List.length_append, HLE.out]; simp⟩
end Go.Proofs.YtehdfkafdpfdnaaGreatDoor

/- nat.isDigits, isBase; tribunalref01.based. -/
namespace Go.Proofs.YtehdfkafdpfdnaaGreatDoor
open Go.RowKit Mth

/-- the byte at i -/
def bt (s : ByteArray) (i : Nat) : Nat := if h : i < s.size then (s[i]'h).toNat else 0
theorem bt_at {s : ByteArray} {i : Nat} (h : i < s.size) : (s[i]'h).toNat = bt s i := by unfold bt; rw [dif_pos h]
theorem bt_lt (s : ByteArray) (i : Nat) : bt s i ≤ 255 := by
  unfold bt
  split
  · have := (s[i]'(by assumption)).toNat_lt; omega
  · omega
/-- the letter that a range over s sees there -/
theorem rune_dgv {s : ByteArray} {i : Nat} (h : i < s.size) : dgv (Utf8.decode s i).1 = dgv (bt s i) ∧ (Utf8.decode s i).1 ≤ 2147483647 ∧ (dgv (bt s i) < 99 → (Utf8.decode s i).2 = 1) := by
  by_cases ha : (s[i]'h).toNat < 128
  · rw [decode_ascii s i h ha, bt_at h]
    refine ⟨rfl, ?_, fun _ => rfl⟩
    have := bt_lt s i
    show bt s i ≤ 2147483647
    omega
  · have hh := decode_high s i h (by omega)
    have hb : dgv (bt s i) = 99 := dgv_high (by rw [← bt_at h]; omega)
    exact ⟨by rw [hb, dgv_high hh.1], decode_le s i, fun h9 => by omega⟩
/-- is s a row of digits of the base -/
def okD (s : ByteArray) (b : Nat) : Prop := s.size ≠ 0 ∧ ∀ i, i < s.size → dgv (bt s i) < b
theorem size_zero {s : ByteArray} (h : s.size = 0) : s = ⟨#[]⟩ := by
  obtain ⟨d⟩ := s
  have : d = #[] := Array.eq_empty_of_size_eq_zero h
  rw [this]
theorem not_empty {s : ByteArray} (h : ¬ s.size = 0) : s.toList.isEmpty = false := by
  rw [ByteArray.toList_eq, List.isEmpty_eq_false_iff]
  intro e
  apply h
  show s.data.size = 0
  rw [← Array.length_toList, e]; rfl
def IsDigO (w wr : World) (s : ByteArray) (b : Nat) : Prop := ∃ pos : Nat, pos ≤ s.size ∧ wr = w.iter s pos ∧ ∀ i, i < pos → dgv (bt s i) < b
theorem below_iter (w : World) (s : ByteArray) (pos : Nat) : Below w.heap.size w (w.iter s pos) := (Below.refl _ _).alloc (Nat.le_refl _) _

set_option maxHeartbeats 1000000 in
set_option maxRecDepth 100000 in
theorem isDigits_any (s : ByteArray) (b : Nat) (hb : b ≤ 16) (r : Bool) (hr : r = true ↔ okD s b) (w : World) :
    Calls Tryz.prog 84 #[.string s, .int .i64 ((b : Nat) : Int)] w fun e w' => e = .returned (.bool r) ∧ Below w.heap.size w w' := by
  have HR := Lib.hid hr
  clear hr
  go_enter Tryz.func84, Tryz.ntmps84
  go_wp2
  go_loopw [6] (fun _ wr => IsDigO w wr s b) (fun _ wr => s.size - wr.iterPos w.heap.size)
  case atStart => exact ⟨0, Nat.zero_le _, rfl, fun i hi => by omega⟩
  case round =>
    obtain ⟨pos, hpos, rfl, hv⟩ := hrel
    have HV := Lib.hid hv
    by_cases hp : pos < s.size
    · have hnx : ∀ ty, (Instr.next (.pointer (some ⟨w.heap.size, 0, none⟩)) true ty).run Tryz.prog (w.iter s pos) = _ := fun ty => run_next_any w s pos ty hp
      obtain ⟨h1, h2, h3⟩ := rune_dgv hp
      generalize (Utf8.decode s pos).1 = rn at *
      generalize (Utf8.decode s pos).2 = wd at *
      by_cases hok : dgv (bt s pos) < b
      · have hd : decide ((b : Int) ≤ dgA rn) = false := decide_eq_false (by unfold dgA; rw [h1]; split <;> omega)
        have hw : wd = 1 := h3 (by omega)
        subst hw
        have HN : Hid (∀ i, i < pos + 1 → dgv (bt s i) < b) := Lib.hid fun i hi => by
          rcases Nat.lt_or_ge i pos with h | h
          · exact hv i h
          · rw [show i = pos by omega]; exact hok
        have HD := fun w => digit_any rn h2 w
        clear hv h1 h3 hok
        go_wp2_with fail
        refine (HD _).mono ?_
        rintro e w' ⟨rfl, rfl⟩
        go_wp2
        go_roundw
        case rel => exact ⟨pos + 1, by omega, rfl, HN.out⟩
        case measure => simp; omega
      · have hd : decide ((b : Int) ≤ dgA rn) = true := decide_eq_true (by unfold dgA; rw [h1]; split <;> omega)
        have E : Hid (r = false) := Lib.hid (by
          rw [← Bool.not_eq_true, HR.out]
          exact fun h => hok (h.2 pos hp))
        have HD := fun w => digit_any rn h2 w
        clear hv h1 h3 hok
        go_wp2_with fail
        refine (HD _).mono ?_
        rintro e w' ⟨rfl, rfl⟩
        go_wp2
        go_ret
        exact ⟨by rw [E.out]; rfl, below_iter _ _ _⟩
    · have hnx : ∀ ty, (Instr.next (.pointer (some ⟨w.heap.size, 0, none⟩)) true ty).run Tryz.prog (w.iter s pos) = _ := fun ty => run_next_end w s pos ty hp
      have HA : Hid (∀ i, i < s.size → dgv (bt s i) < b) := Lib.hid fun i hi => hv i (by omega)
      clear hv
      by_cases h0 : s.size = 0
      · obtain rfl := size_zero h0
        have E : Hid (r = false) := Lib.hid (by
          rw [← Bool.not_eq_true, HR.out]
          exact fun h => h.1 rfl)
        go_wp2
        go_ret
        exact ⟨by rw [E.out]; rfl, below_iter _ _ _⟩
      · have E : Hid (r = true) := Lib.hid (HR.out.2 ⟨h0, HA.out⟩)
        have hne := not_empty h0
        go_wp2
        go_ret
        exact ⟨by rw [E.out]; rfl, below_iter _ _ _⟩

set_option maxRecDepth 100000 in
theorem isBase_any (b : Int) (r : Bool) (hr : r = true ↔ b = 2 ∨ b = 10 ∨ b = 16) (hb : -9223372036854775808 ≤ b ∧ b ≤ 9223372036854775807) (w : World) :
    Calls Tryz.prog 31 #[.int .i64 b] w fun e w' => e = .returned (.bool r) ∧ w = w' := by
  obtain ⟨b1, b2⟩ := hb
  rcases (show b = 2 ∨ b = 10 ∨ b = 16 ∨ (¬ b = 2 ∧ ¬ b = 10 ∧ ¬ b = 16) by omega) with rfl | rfl | rfl | ⟨h1, h2, h3⟩
  · have E : Hid (r = true) := Lib.hid (hr.2 (.inl rfl))
    clear hr
    go_enter Tryz.func31, Tryz.ntmps31
    go_wp2
    go_ret
    exact ⟨by rw [E.out]; rfl, rfl⟩
  · have E : Hid (r = true) := Lib.hid (hr.2 (.inr (.inl rfl)))
    clear hr
    go_enter Tryz.func31, Tryz.ntmps31
    go_wp2
    go_ret
    exact ⟨by rw [E.out]; rfl, rfl⟩
  · have E : Hid (r = true) := Lib.hid (hr.2 (.inr (.inr rfl)))
    clear hr
    go_enter Tryz.func31, Tryz.ntmps31
    go_wp2
    go_ret
    exact ⟨by rw [E.out]; rfl, rfl⟩
  · have E : Hid (r = false) := Lib.hid (by rw [← Bool.not_eq_true, hr]; omega)
    have d1 : (b == 2) = false := beq_eq_false_iff_ne.2 h1
    have d2 : (b == 10) = false := beq_eq_false_iff_ne.2 h2
    have d3 : (b == 16) = false := beq_eq_false_iff_ne.2 h3
    clear hr h1 h2 h3
    go_enter Tryz.func31, Tryz.ntmps31
    go_wp2
    go_ret
    exact ⟨by rw [E.out]; rfl, rfl⟩
end Go.Proofs.YtehdfkafdpfdnaaGreatDoor

/- nat.Parse. -/
namespace Go.Proofs.YtehdfkafdpfdnaaGreatDoor
open Go.RowKit Mth

/-- the value of the first k digits -/
def pv (s : ByteArray) (b : Nat) : Nat → Nat
  | 0 => 0
  | k + 1 => pv s b k * b + dgv (bt s k)
theorem pv_mono {s : ByteArray} {b : Nat} (hb : 1 ≤ b) (k n : Nat) : pv s b k ≤ pv s b (k + n) := by
  induction n with
  | zero => exact Nat.le_refl _
  | succ n ih =>
    have h1 : pv s b (k + n) * 1 ≤ pv s b (k + n) * b := Nat.mul_le_mul_left _ hb
    have h2 : pv s b (k + (n + 1)) = pv s b (k + n) * b + dgv (bt s (k + n)) := rfl
    omega
/-- is b a base -/
def isB (b : Int) : Prop := b = 2 ∨ b = 10 ∨ b = 16
/-- what Parse answers -/
structure ParIs (s : ByteArray) (b : Int) (N : Nat) (ER : Int) : Prop where
  bad : ¬ isB b → N = 0 ∧ ER = 12
  dig : ∀ n : Nat, b = (n : Int) → isB b → ¬ okD s n → N = 0 ∧ ER = 13
  fine : ∀ n : Nat, b = (n : Int) → isB b → okD s n → N = cutN (pv s n s.size) ∧ ER = cutE (pv s n s.size)
theorem own_iterAt {w : World} {base e n m g : Nat} {v : Value} {xs : List Value} (h : w.ownsRow base e n v m xs) (s : ByteArray) (pos : Nat) (hg : g < base) : (w.iterAt g s pos).ownsRow base e n v m xs := by
  obtain ⟨h1, h2⟩ := h
  refine ⟨h1, ?_⟩
  rcases h2 with h2 | ⟨g', cap, cur, a1, a2, a3, a4⟩
  · exact .inl h2
  · refine .inr ⟨g', cap, cur, a1, a2, ?_, a4⟩
    rw [Lib.iterAt_other _ _ _ _ _ (by omega)]; exact a3
/-- what Parse's loop holds: the iterator lies in block g -/
def ParO (w wr : World) (g : Nat) (s : ByteArray) (b : Nat) (v sc ch : Value) : Prop := ∃ (k : Nat) (xs : List Nat) (c h : Nat), k ≤ s.size ∧ wr.heap[g]? = some (.stringIter s k) ∧ wr.ownsRow (g + 1) 55 1 v xs.length (cellsOf .u64 xs) ∧ Lim B64 xs ∧ Top xs ∧ val B64 xs < Big ∧
  sc = .int .u64 (c : Int) ∧ ch = .int .u64 (h : Int) ∧ h < c ∧ c < B64 ∧ val B64 xs * c + h = pv s b k ∧ Below w.heap.size w wr
def isizeOf (wr : World) (g : Nat) (s : ByteArray) : Nat := s.size - wr.iterPos g
theorem par_step {X c h b d P : Nat} (e : X * c + h = P) (hd : d < b) (hh : h < c) : X * (c * b) + (h * b + d) = P * b + d ∧ h * b + d < c * b := by
  refine ⟨?_, ?_⟩
  · rw [← e, Nat.add_mul, Nat.mul_assoc]; omega
  · have : (h + 1) * b ≤ c * b := Nat.mul_le_mul_right _ hh
    rw [Nat.add_mul, Nat.one_mul] at this
    omega
theorem top_len {xs : List Nat} (t : Top xs) (h : val B64 xs < Big) : xs.length ≤ 4096 := by
  have := length_of_val (B := B64) (by have := B64_pos; omega) t maxL h
  unfold maxL at this; exact this

theorem isize_at {w : World} {g k : Nat} {s : ByteArray} (h : w.heap[g]? = some (.stringIter s k)) : isizeOf w g s = s.size - k := by
  unfold isizeOf World.iterPos; rw [h]
theorem own_base {w : World} {base base' e n m : Nat} {v : Value} {xs : List Value} (h : w.ownsRow base e n v m xs) (hb : base' ≤ base) : w.ownsRow base' e n v m xs := by
  obtain ⟨h1, h2⟩ := h
  refine ⟨h1, ?_⟩
  rcases h2 with h2 | ⟨g', cap, cur, a1, a2, a4⟩
  · exact .inl h2
  · exact .inr ⟨g', cap, cur, a1, by omega, a4⟩

set_option maxHeartbeats 4000000 in
set_option maxRecDepth 100000 in
theorem parse_any (s : ByteArray) (b : Int) (N : Nat) (ER : Int) (w : World) (hs : s.size ≤ 1048576) (HK : ParIs s b N ER) (hb : -9223372036854775808 ≤ b ∧ b ≤ 9223372036854775807) :
    Calls Tryz.prog 51 #[.string s, .int .i64 b] w fun e w' => ∃ v', e = .returned (.tuple #[v', .int .i64 ER]) ∧ Num w' v' N ∧ Below w.heap.size w w' := by
  have HB := Lib.hid hb
  by_cases hB : isB b
  · obtain ⟨b, rfl⟩ : ∃ n : Nat, b = (n : Int) := ⟨b.toNat, by unfold isB at hB; omega⟩
    have hb2 : 2 ≤ b := by unfold isB at hB; omega
    have hb16 : b ≤ 16 := by unfold isB at hB; omega
    have IB := Lib.hid (isBase_any (b : Int) true (by simpa [isB] using hB) hb w)
    by_cases hD : okD s b
    · have E := Lib.hid (HK.fine b rfl hB hD)
      have ID := Lib.hid (isDigits_any s b hb16 true (by simp [hD]) w)
      have hdv := hD.2
      have HDV := Lib.hid hdv
      have hs0 : 0 < s.size := by have := hD.1; omega
      clear HK hB hD hdv hb
      go_enter Tryz.func51, Tryz.ntmps51
      go_wp2_with fail
      refine IB.out.mono ?_
      rintro e w' ⟨rfl, rfl⟩
      go_wp2_with fail
      refine ID.out.mono ?_
      rintro e w1 ⟨rfl, hb1⟩
      have B1 := Lib.hid hb1
      clear hb1
      have hq0 : (18446744073709551615 : Int) / (b : Int) = ((18446744073709551615 / b : Nat) : Int) := by rw [Int.natCast_ediv]; rfl
      obtain ⟨q, hq⟩ : ∃ q, q = 18446744073709551615 / b := ⟨_, rfl⟩
      have hqle : ∀ c, c ≤ q → c * b ≤ 18446744073709551615 := fun c hc => by rw [hq] at hc; exact Nat.le_trans (Nat.mul_le_mul_right _ hc) (Nat.div_mul_le_self _ _)
      have hq1 : 1 ≤ q := by rw [hq]; exact (Nat.one_le_div_iff (by omega)).2 (by omega)
      rw [← hq] at hq0
      have HQ := Lib.hid hqle
      have hbw : IntKind.u64.wrap (b : Int) = (b : Int) := wrap_u64 b (by unfold B64; omega)
      have hbne : ((b : Int) == 0) = false := beq_eq_false_iff_ne.2 (by omega)
      clear hq hqle
      have hit : (w1.iter s 0).heap[w1.heap.size]? = some (.stringIter s 0) := World.iter_heap w1 s 0
      have HIT := Lib.hid hit; clear hit
      obtain ⟨g, hg⟩ : ∃ g, g = w1.heap.size := ⟨_, rfl⟩
      have HG := Lib.hid hg
      have HGW : Hid (w.heap.size ≤ g) := Lib.hid (by rw [hg]; exact B1.out.size)
      clear hg
      go_wp2
      rw [← HG.out]
      go_loopw [6, 7, 8] (fun v sc ch wr => ParO w wr g s b v sc ch) (fun _ _ _ wr => isizeOf wr g s)
      case atStart => exact ⟨0, [], 1, 0, by omega, by rw [HG.out]; exact HIT.out, World.ownsRow_nil _ _ _ _, lim_nil (by have := B64_pos; omega), rfl, by show 0 < Big; have := one_lt_big; omega, rfl, rfl, by omega, by have := B64_pos; omega, by simp [val, pv], (B1.out.trans ((below_iter w1 s 0).mono B1.out.size))⟩
      case round =>
        obtain ⟨k, xs, c, h, hk, hit, hown, lx, tx, hxb, rfl, rfl, hhc, hcb, he, hbel⟩ := hrel
        have HOWN := Lib.hid hown; have LX := Lib.hid lx; have TX := Lib.hid tx; have XB := Lib.hid hxb; have HE := Lib.hid he; have HBL := Lib.hid hbel; have HIT0 := Lib.hid hit
        have hxl := top_len tx hxb
        have hgl : g < wr.heap.size := (Array.getElem?_eq_some_iff.1 hit).1
        by_cases hp : k < s.size
        · have hnx : ∀ ty, (Instr.next (.pointer (some ⟨g, 0, none⟩)) true ty).run Tryz.prog wr = _ := fun ty => Lib.run_next_any_at wr g s k ty hit hp
          obtain ⟨h1, h2, h3⟩ := rune_dgv hp
          have hdv := HDV.out k hp
          generalize (Utf8.decode s k).1 = rn at *
          generalize (Utf8.decode s k).2 = wd at *
          have hw : wd = 1 := h3 (by omega)
          subst hw
          have hdg : dgA rn = ((dgv (bt s k) : Nat) : Int) := by unfold dgA; rw [h1, if_neg (by omega)]
          have HD0 := fun w => digit_any rn h2 w
          rw [hdg] at HD0
          have PVS : Hid (pv s b (k + 1) = pv s b k * b + dgv (bt s k)) := Lib.hid rfl
          generalize dgv (bt s k) = d at *
          have HD := HD0
          have HDLT := Lib.hid hdv
          have IT1 : Hid ((wr.iterAt g s (k + 1)).heap[g]? = some (.stringIter s (k + 1))) := Lib.hid (Lib.iterAt_heap wr g s k (k + 1) hit)
          have OW1 := Lib.hid (own_iterAt hown s (k + 1) (Nat.lt_succ_self g))
          have BW1 := Lib.hid (Lib.below_iterAt hbel HGW.out s (k + 1))
          have SZ1 : Hid ((wr.iterAt g s (k + 1)).heap.size = wr.heap.size) := Lib.hid (Lib.iterAt_size wr g s (k + 1))
          have HHC := Lib.hid hhc; have HCB := Lib.hid hcb
          have hdv15 : d ≤ 15 := by omega
          clear HD0 hdg h1 h3 hown lx tx hxb he hbel hit hdv
          have hcb' : c ≤ 18446744073709551615 := by unfold B64 at hcb; omega
          clear hcb
          by_cases hcq : q < c
          · have hd : decide ((q : Int) < (c : Int)) = true := decide_eq_true (by omega)
            have TL := Lib.hid (timesLimb_any (g + 1) _ xs c h (wr.iterAt g s (k + 1)) OW1.out LX.out TX.out HCB.out (by omega) (Nat.lt_trans HHC.out HCB.out) (by omega) (by rw [SZ1.out]; omega))
            go_wp2_with fail
            refine TL.out.mono ?_
            rintro e w3 ⟨v3, ys, rfl, hown3, hg3, hl3, ht3, hv3, hlen3⟩
            have IT3 : Hid (w3.heap[g]? = some (.stringIter s (k + 1))) := Lib.hid ((hg3.block g (by rw [SZ1.out]; exact hgl) (fun e => absurd (OW1.out.lt g e.symm).1 (by omega))).trans IT1.out)
            have BW3 := Lib.hid (below_own (B := w.heap.size) BW1.out (own_base OW1.out (by have := HGW.out; omega)) hg3 (by rw [SZ1.out]; exact Nat.le_trans HGW.out (Nat.le_of_lt hgl)))
            have OW3 := Lib.hid hown3; have LX3 := Lib.hid hl3; have TX3 := Lib.hid ht3
            have HE3 : Hid (val B64 ys = pv s b k) := Lib.hid (by rw [hv3, Nat.mul_comm]; exact HE.out)
            have S3 := Lib.hid (sl_own hown3 (by omega))
            have GI := long_gen (m := maxL) hl3
            rw [trimL_of_top ht3] at GI
            have GI2 : Hid (4096 < ys.length ↔ Big ≤ val B64 ys) := Lib.hid GI
            have hyl : ys.length ≤ 4097 := by omega
            clear hown3 hg3 hl3 ht3 hv3 hlen3 GI
            by_cases hlong : 4096 < ys.length
            · have hd2 : decide (4096 < ys.length) = true := decide_eq_true hlong
              have E9 : Hid (Big ≤ pv s b s.size) := Lib.hid (by
                have h8 := GI2.out.1 hlong
                rw [HE3.out] at h8
                have h9 := pv_mono (s := s) (b := b) (by omega) k (s.size - k)
                rw [show k + (s.size - k) = s.size by omega] at h9
                omega)
              have E8 := Lib.hid (cut_big E9.out)
              clear hlong
              go_wp2_with fail
              refine (tooLong_any S3.out).mono ?_
              rintro e w4 ⟨rfl, rfl⟩
              go_wp2
              go_ret2
              exact ⟨_, by rw [E.out.2, E8.out.2]; rfl, by rw [E.out.1, E8.out.1]; exact num_nil _, BW3.out⟩
            · have hd2 : decide (4096 < ys.length) = false := decide_eq_false hlong
              have XB3 : Hid (val B64 ys < Big) := Lib.hid (Nat.lt_of_not_le fun h => hlong (GI2.out.2 h))
              have HE4 : Hid (val B64 ys * 1 + 0 = pv s b k) := Lib.hid (by rw [Nat.mul_one]; exact HE3.out)
              clear hlong
              go_wp2_with fail
              refine (tooLong_any S3.out).mono ?_
              rintro e w4 ⟨rfl, rfl⟩
              go_wp2_with fail
              refine (HD _).mono ?_
              rintro e w9 ⟨rfl, rfl⟩
              go_wp2
              go_roundw
              case rel =>
                have hp := par_step HE4.out HDLT.out (by omega)
                have hcb9 := hq1
                exact ⟨k + 1, ys, 1 * b, 0 * b + d, by omega, IT3.out, OW3.out, LX3.out, TX3.out, XB3.out, by first | rfl | (congr 1; simp) | (simp), by first | rfl | (congr 1; simp) | simp, hp.2, by have := HQ.out _ hcb9; unfold B64; omega, by rw [hp.1, PVS.out], BW3.out⟩
              case measure => show isizeOf _ g s < isizeOf _ g s; rw [isize_at IT3.out, isize_at HIT0.out]; omega
          · have hd : decide ((q : Int) < (c : Int)) = false := decide_eq_false (by omega)
            have hcq' : c ≤ q := by omega
            have hbig := HQ.out c hcq'
            have hch : h * b + d ≤ 18446744073709551615 := by
              have := (par_step (X := 0) (P := h) (by simp) HDLT.out HHC.out).2
              omega
            have hhb : h * b ≤ 18446744073709551615 := by omega
            have wa : IntKind.u64.wrap ((c : Int) * (b : Int)) = ((c * b : Nat) : Int) := by rw [← Int.natCast_mul]; exact wrap_u64 _ (by unfold B64; omega)
            have wb : IntKind.u64.wrap ((h : Int) * (b : Int)) = ((h * b : Nat) : Int) := by rw [← Int.natCast_mul]; exact wrap_u64 _ (by unfold B64; omega)
            have wd2 : IntKind.u64.wrap (((h * b : Nat) : Int) + (d : Int)) = ((h * b + d : Nat) : Int) := by rw [← Int.natCast_add]; exact wrap_u64 _ (by unfold B64; omega)
            go_wp2_with fail
            refine (HD _).mono ?_
            rintro e w9 ⟨rfl, rfl⟩
            go_wp2
            go_roundw
            case rel =>
              have hp := par_step HE.out HDLT.out HHC.out
              have hcb9 := hcq'
              exact ⟨k + 1, xs, c * b, h * b + d, by omega, IT1.out, OW1.out, LX.out, TX.out, XB.out, by first | rfl | (congr 1; simp) | (simp), by first | rfl | (congr 1; simp) | simp, hp.2, by have := HQ.out _ hcb9; unfold B64; omega, by rw [hp.1, PVS.out], BW1.out⟩
            case measure => show isizeOf _ g s < isizeOf _ g s; rw [isize_at IT1.out, isize_at HIT0.out]; omega
        · obtain rfl : k = s.size := by omega
          have hnx : ∀ ty, (Instr.next (.pointer (some ⟨g, 0, none⟩)) true ty).run Tryz.prog wr = _ := fun ty => Lib.run_next_end_at wr g s s.size ty hit hp
          have TL := Lib.hid (timesLimb_any (g + 1) _ xs c h wr hown lx tx hcb (by omega) (Nat.lt_trans hhc hcb) (by omega) hgl)
          clear hown lx tx hxb he hbel hit
          go_wp2_with fail
          refine TL.out.mono ?_
          rintro e w3 ⟨v3, ys, rfl, hown3, hg3, hl3, ht3, hv3, hlen3⟩
          have BW3 := Lib.hid (below_own (B := w.heap.size) HBL.out (own_base HOWN.out (by have := HGW.out; omega)) hg3 (Nat.le_trans HGW.out (Nat.le_of_lt hgl)))
          have LX3 := Lib.hid hl3
          have HE3 : Hid (val B64 ys = pv s b s.size) := Lib.hid (by rw [hv3, Nat.mul_comm]; exact HE.out)
          have S3 := Lib.hid (sl_own hown3 (by omega))
          clear hown3 hg3 hl3 ht3 hv3 hlen3
          go_wp2_with fail
          refine (answer_any S3.out LX3.out).mono ?_
          rintro e w4 ⟨v4, rfl, hN, rfl⟩
          have HN := Lib.hid hN
          clear hN
          rw [HE3.out] at HN
          go_wp2
          go_ret2
          exact ⟨_, by rw [E.out.2, ← HE3.out]; rfl, by rw [E.out.1]; exact HN.out, BW3.out⟩
    · have E := Lib.hid (HK.dig b rfl hB hD)
      have ID := Lib.hid (isDigits_any s b hb16 false (by simp [hD]) w)
      clear HK hB hD hb
      go_enter Tryz.func51, Tryz.ntmps51
      go_wp2_with fail
      refine IB.out.mono ?_
      rintro e w' ⟨rfl, rfl⟩
      go_wp2_with fail
      refine ID.out.mono ?_
      rintro e w1 ⟨rfl, hb1⟩
      have B1 := Lib.hid hb1
      clear hb1
      go_wp2
      go_ret2
      exact ⟨_, by rw [E.out.2]; rfl, by rw [E.out.1]; exact num_nil _, B1.out⟩
  · have E := Lib.hid (HK.bad hB)
    have IB := Lib.hid (isBase_any b false (by simpa [isB] using hB) hb w)
    clear HK hB hb
    go_enter Tryz.func51, Tryz.ntmps51
    go_wp2_with fail
    refine IB.out.mono ?_
    rintro e w' ⟨rfl, rfl⟩
    go_wp2
    go_ret2
    exact ⟨_, by rw [E.out.2]; rfl, by rw [E.out.1]; exact num_nil _, Below.refl _ _⟩
end Go.Proofs.YtehdfkafdpfdnaaGreatDoor
