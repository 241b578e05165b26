/- nat.isDigits, isBase; tribunalref01.based. -/
import Derived.Test.YtafeokkkbiaajaaDoorDig
namespace Go.Proofs.YtafeokkkbiaajaaDoor
open Go.RowKit Mth

/-- the byte at i -/
def bt (s : ByteArray) (i : Nat) : Nat := if h : i < s.size then (s[i]'h).toNat else 0
theorem bt_at {s : ByteArray} {i : Nat} (h : i < s.size) : (s[i]'h).toNat = bt s i := by unfold bt; rw [dif_pos h]
theorem bt_lt (s : ByteArray) (i : Nat) : bt s i ≤ 255 := by
  unfold bt
  split
  · have := (s[i]'(by assumption)).toNat_lt; omega
  · omega
/-- the letter that a range over s sees there -/
theorem rune_dgv {s : ByteArray} {i : Nat} (h : i < s.size) : dgv (Utf8.decode s i).1 = dgv (bt s i) ∧ (Utf8.decode s i).1 ≤ 2147483647 ∧ (dgv (bt s i) < 99 → (Utf8.decode s i).2 = 1) := by
  by_cases ha : (s[i]'h).toNat < 128
  · rw [decode_ascii s i h ha, bt_at h]
    refine ⟨rfl, ?_, fun _ => rfl⟩
    have := bt_lt s i
    show bt s i ≤ 2147483647
    omega
  · have hh := decode_high s i h (by omega)
    have hb : dgv (bt s i) = 99 := dgv_high (by rw [← bt_at h]; omega)
    exact ⟨by rw [hb, dgv_high hh.1], decode_le s i, fun h9 => by omega⟩
/-- is s a row of digits of the base -/
def okD (s : ByteArray) (b : Nat) : Prop := s.size ≠ 0 ∧ ∀ i, i < s.size → dgv (bt s i) < b
theorem size_zero {s : ByteArray} (h : s.size = 0) : s = ⟨#[]⟩ := by
  obtain ⟨d⟩ := s
  have : d = #[] := Array.eq_empty_of_size_eq_zero h
  rw [this]
theorem not_empty {s : ByteArray} (h : ¬ s.size = 0) : s.toList.isEmpty = false := by
  rw [ByteArray.toList_eq, List.isEmpty_eq_false_iff]
  intro e
  apply h
  show s.data.size = 0
  rw [← Array.length_toList, e]; rfl
def IsDigO (w wr : World) (s : ByteArray) (b : Nat) : Prop := ∃ pos : Nat, pos ≤ s.size ∧ wr = w.iter s pos ∧ ∀ i, i < pos → dgv (bt s i) < b
theorem below_iter (w : World) (s : ByteArray) (pos : Nat) : Below w.heap.size w (w.iter s pos) := (Below.refl _ _).alloc (Nat.le_refl _) _

set_option maxHeartbeats 1000000 in
set_option maxRecDepth 100000 in
theorem isDigits_any (s : ByteArray) (b : Nat) (hb : b ≤ 16) (r : Bool) (hr : r = true ↔ okD s b) (w : World) :
    Calls Tryd.prog 77 #[.string s, .int .i64 ((b : Nat) : Int)] w fun e w' => e = .returned (.bool r) ∧ Below w.heap.size w w' := by
  have HR := Lib.hid hr
  clear hr
  go_enter Tryd.func77, Tryd.ntmps77
  go_wp2
  go_loopw [6] (fun _ wr => IsDigO w wr s b) (fun _ wr => s.size - wr.iterPos w.heap.size)
  case atStart => exact ⟨0, Nat.zero_le _, rfl, fun i hi => by omega⟩
  case round =>
    obtain ⟨pos, hpos, rfl, hv⟩ := hrel
    have HV := Lib.hid hv
    by_cases hp : pos < s.size
    · have hnx : ∀ ty, (Instr.next (.pointer (some ⟨w.heap.size, 0, none⟩)) true ty).run Tryd.prog (w.iter s pos) = _ := fun ty => run_next_any w s pos ty hp
      obtain ⟨h1, h2, h3⟩ := rune_dgv hp
      generalize (Utf8.decode s pos).1 = rn at *
      generalize (Utf8.decode s pos).2 = wd at *
      by_cases hok : dgv (bt s pos) < b
      · have hd : decide ((b : Int) ≤ dgA rn) = false := decide_eq_false (by unfold dgA; rw [h1]; split <;> omega)
        have hw : wd = 1 := h3 (by omega)
        subst hw
        have HN : Hid (∀ i, i < pos + 1 → dgv (bt s i) < b) := Lib.hid fun i hi => by
          rcases Nat.lt_or_ge i pos with h | h
          · exact hv i h
          · rw [show i = pos by omega]; exact hok
        have HD := fun w => digit_any rn h2 w
        clear hv h1 h3 hok
        go_wp2_with fail
        refine (HD _).mono ?_
        rintro e w' ⟨rfl, rfl⟩
        go_wp2
        go_roundw
        case rel => exact ⟨pos + 1, by omega, rfl, HN.out⟩
        case measure => simp; omega
      · have hd : decide ((b : Int) ≤ dgA rn) = true := decide_eq_true (by unfold dgA; rw [h1]; split <;> omega)
        have E : Hid (r = false) := Lib.hid (by
          rw [← Bool.not_eq_true, HR.out]
          exact fun h => hok (h.2 pos hp))
        have HD := fun w => digit_any rn h2 w
        clear hv h1 h3 hok
        go_wp2_with fail
        refine (HD _).mono ?_
        rintro e w' ⟨rfl, rfl⟩
        go_wp2
        go_ret
        exact ⟨by rw [E.out]; rfl, below_iter _ _ _⟩
    · have hnx : ∀ ty, (Instr.next (.pointer (some ⟨w.heap.size, 0, none⟩)) true ty).run Tryd.prog (w.iter s pos) = _ := fun ty => run_next_end w s pos ty hp
      have HA : Hid (∀ i, i < s.size → dgv (bt s i) < b) := Lib.hid fun i hi => hv i (by omega)
      clear hv
      by_cases h0 : s.size = 0
      · obtain rfl := size_zero h0
        have E : Hid (r = false) := Lib.hid (by
          rw [← Bool.not_eq_true, HR.out]
          exact fun h => h.1 rfl)
        go_wp2
        go_ret
        exact ⟨by rw [E.out]; rfl, below_iter _ _ _⟩
      · have E : Hid (r = true) := Lib.hid (HR.out.2 ⟨h0, HA.out⟩)
        have hne := not_empty h0
        go_wp2
        go_ret
        exact ⟨by rw [E.out]; rfl, below_iter _ _ _⟩

set_option maxRecDepth 100000 in
theorem isBase_any (b : Int) (r : Bool) (hr : r = true ↔ b = 2 ∨ b = 10 ∨ b = 16) (hb : -9223372036854775808 ≤ b ∧ b ≤ 9223372036854775807) (w : World) :
    Calls Tryd.prog 72 #[.int .i64 b] w fun e w' => e = .returned (.bool r) ∧ w = w' := by
  obtain ⟨b1, b2⟩ := hb
  rcases (show b = 2 ∨ b = 10 ∨ b = 16 ∨ (¬ b = 2 ∧ ¬ b = 10 ∧ ¬ b = 16) by omega) with rfl | rfl | rfl | ⟨h1, h2, h3⟩
  · have E : Hid (r = true) := Lib.hid (hr.2 (.inl rfl))
    clear hr
    go_enter Tryd.func72, Tryd.ntmps72
    go_wp2
    go_ret
    exact ⟨by rw [E.out]; rfl, rfl⟩
  · have E : Hid (r = true) := Lib.hid (hr.2 (.inr (.inl rfl)))
    clear hr
    go_enter Tryd.func72, Tryd.ntmps72
    go_wp2
    go_ret
    exact ⟨by rw [E.out]; rfl, rfl⟩
  · have E : Hid (r = true) := Lib.hid (hr.2 (.inr (.inr rfl)))
    clear hr
    go_enter Tryd.func72, Tryd.ntmps72
    go_wp2
    go_ret
    exact ⟨by rw [E.out]; rfl, rfl⟩
  · have E : Hid (r = false) := Lib.hid (by rw [← Bool.not_eq_true, hr]; omega)
    have d1 : (b == 2) = false := beq_eq_false_iff_ne.2 h1
    have d2 : (b == 10) = false := beq_eq_false_iff_ne.2 h2
    have d3 : (b == 16) = false := beq_eq_false_iff_ne.2 h3
    clear hr h1 h2 h3
    go_enter Tryd.func72, Tryd.ntmps72
    go_wp2
    go_ret
    exact ⟨by rw [E.out]; rfl, rfl⟩
set_option maxRecDepth 100000 in
theorem based_any (b : Int) (r : Bool) (hr : r = true ↔ b = 2 ∨ b = 10 ∨ b = 16) (hb : -9223372036854775808 ≤ b ∧ b ≤ 9223372036854775807) (w : World) :
    Calls Tryd.prog 75 #[.int .i64 b] w fun e w' => e = .returned (.bool r) ∧ w = w' := by
  obtain ⟨b1, b2⟩ := hb
  rcases (show b = 2 ∨ b = 10 ∨ b = 16 ∨ (¬ b = 2 ∧ ¬ b = 10 ∧ ¬ b = 16) by omega) with rfl | rfl | rfl | ⟨h1, h2, h3⟩
  · have E : Hid (r = true) := Lib.hid (hr.2 (.inl rfl))
    clear hr
    go_enter Tryd.func75, Tryd.ntmps75
    go_wp2
    go_ret
    exact ⟨by rw [E.out]; rfl, rfl⟩
  · have E : Hid (r = true) := Lib.hid (hr.2 (.inr (.inl rfl)))
    clear hr
    go_enter Tryd.func75, Tryd.ntmps75
    go_wp2
    go_ret
    exact ⟨by rw [E.out]; rfl, rfl⟩
  · have E : Hid (r = true) := Lib.hid (hr.2 (.inr (.inr rfl)))
    clear hr
    go_enter Tryd.func75, Tryd.ntmps75
    go_wp2
    go_ret
    exact ⟨by rw [E.out]; rfl, rfl⟩
  · have E : Hid (r = false) := Lib.hid (by rw [← Bool.not_eq_true, hr]; omega)
    have d1 : (b == 2) = false := beq_eq_false_iff_ne.2 h1
    have d2 : (b == 10) = false := beq_eq_false_iff_ne.2 h2
    have d3 : (b == 16) = false := beq_eq_false_iff_ne.2 h3
    clear hr h1 h2 h3
    go_enter Tryd.func75, Tryd.ntmps75
    go_wp2
    go_ret
    exact ⟨by rw [E.out]; rfl, rfl⟩
end Go.Proofs.YtafeokkkbiaajaaDoor
