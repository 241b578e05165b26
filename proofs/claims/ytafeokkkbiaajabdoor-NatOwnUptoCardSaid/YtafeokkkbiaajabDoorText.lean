/- nat.Text at the bases 16 and 2. -/
import Derived.Test.YtafeokkkbiaajabDoorJoined
namespace Go.Proofs.YtafeokkkbiaajabDoor
open Go.RowKit Mth

/-- what Text writes, and its error -/
def textS (D : Nat → List Nat) (wd : Nat) (xs : List Nat) : List Nat := if 4096 < (trimL xs).length then [] else if (trimL xs).length = 0 then [48] else jnd D wd (trimL xs)
def textE (xs : List Nat) : Int := if 4096 < (trimL xs).length then 5 else 0
theorem textS_long {D : Nat → List Nat} {wd : Nat} {xs : List Nat} (h : 4096 < (trimL xs).length) : textS D wd xs = [] := if_pos h
theorem textS_zero {D : Nat → List Nat} {wd : Nat} {xs : List Nat} (h : (trimL xs).length = 0) : textS D wd xs = [48] := by unfold textS; rw [if_neg (by omega), if_pos h]
theorem textS_any {D : Nat → List Nat} {wd : Nat} {xs : List Nat} (h : ¬ 4096 < (trimL xs).length) (h0 : ¬ (trimL xs).length = 0) : textS D wd xs = jnd D wd (trimL xs) := by unfold textS; rw [if_neg h, if_neg h0]
theorem textE_long {xs : List Nat} (h : 4096 < (trimL xs).length) : textE xs = 5 := if_pos h
theorem textE_short {xs : List Nat} (h : ¬ 4096 < (trimL xs).length) : textE xs = 0 := if_neg h

theorem fmts16 : Fmts (dgs 16 16) B64 TZ 16 := fun n w hn hz => fmt16 n hn w hz
theorem joined16 (v : Value) (cs : List Nat) (w : World) (hs : Sl w .u64 v cs) (hl : Lim B64 cs) (hp : 0 < cs.length) (hz : TZ w) :
    Calls Tryd.prog 41 #[v, .int .i64 16, .int .i64 16] w fun e w' => e = .returned (.string ⟨(toBytes (jnd (dgs 16 16) 16 cs)).toArray⟩) ∧ Below w.heap.size w w' :=
  joined_any 16 16 B64 (dgs 16 16) TZ (fun _ _ h hb => h.below hb) (fun n _ => length_dgs (by omega) 16 n) (by omega) fmts16 v cs w hs hl hp hz
set_option maxRecDepth 100000 in
theorem text16 (v : Value) (xs : List Nat) (w : World) (hs : Sl w .u64 v xs) (hl : Lim B64 xs) (hz : TZ w) :
    Calls Tryd.prog 24 #[v, .int .i64 16] w fun e w' => e = .returned (.tuple #[.string ⟨(toBytes (textS (dgs 16 16) 16 xs)).toArray⟩, .int .i64 (textE xs)]) ∧ Below w.heap.size w w' := by
  have HS := Lib.hid hs; have HL := Lib.hid hl; have HZ := Lib.hid hz
  clear hs hl hz
  by_cases hlong : 4096 < (trimL xs).length
  · have hd : decide (4096 < (trimL xs).length) = true := decide_eq_true hlong
    have E1 := Lib.hid (textS_long (D := dgs 16 16) (wd := 16) hlong); have E2 := Lib.hid (textE_long hlong)
    clear hlong
    go_enter Tryd.func24, Tryd.ntmps24
    go_wp2_with fail
    refine (trim_any HS.out).mono ?_
    rintro e w' ⟨v', rfl, hs', rfl⟩
    have HS' := Lib.hid hs'; clear hs'
    go_wp2_with (first | (go_at_call 20; refine (tooLong_any HS'.out).mono ?_; rintro e w' ⟨rfl, rfl⟩) | (go_at_call 40; go_in))
    go_ret2
    exact ⟨by rw [E1.out, E2.out]; rfl, Below.refl _ _⟩
  · have hd : decide (4096 < (trimL xs).length) = false := decide_eq_false hlong
    by_cases h0 : (trimL xs).length = 0
    · have hd0 := len_eq h0
      have E1 := Lib.hid (textS_zero (D := dgs 16 16) (wd := 16) h0); have E2 := Lib.hid (textE_short hlong)
      clear hlong h0
      go_enter Tryd.func24, Tryd.ntmps24
      go_wp2_with fail
      refine (trim_any HS.out).mono ?_
      rintro e w' ⟨v', rfl, hs', rfl⟩
      obtain ⟨a2, c2, rfl⟩ := hs'.shape
      have HS' := Lib.hid hs'; clear hs'
      go_wp2_with (first | (go_at_call 20; refine (tooLong_any HS'.out).mono ?_; rintro e w' ⟨rfl, rfl⟩) | (go_at_call 40; go_in))
      go_ret2
      exact ⟨by rw [E1.out, E2.out]; rfl, Below.refl _ _⟩
    · have hd0 := len_ne h0
      have E1 := Lib.hid (textS_any (D := dgs 16 16) (wd := 16) hlong h0); have E2 := Lib.hid (textE_short hlong)
      have H0 : Hid (0 < (trimL xs).length) := Lib.hid (by omega)
      clear hlong h0
      go_enter Tryd.func24, Tryd.ntmps24
      go_wp2_with fail
      refine (trim_any HS.out).mono ?_
      rintro e w' ⟨v', rfl, hs', rfl⟩
      obtain ⟨a2, c2, rfl⟩ := hs'.shape
      have HS' := Lib.hid hs'; clear hs'
      go_wp2_with (first | (go_at_call 20; refine (tooLong_any HS'.out).mono ?_; rintro e w' ⟨rfl, rfl⟩) | (go_at_call 40; go_in) | (go_at_call 41; refine (joined16 _ _ _ HS'.out (lim_trimL HL.out) H0.out HZ.out).mono ?_; rintro e w1 ⟨rfl, hb1⟩; have HB1 := Lib.hid hb1; clear hb1))
      go_ret2
      exact ⟨by rw [E1.out, E2.out]; rfl, HB1.out⟩

theorem fmts2 : Fmts (dgs 2 64) B64 TZ 2 := fun n w hn hz => fmt2 n hn w hz
theorem joined2 (v : Value) (cs : List Nat) (w : World) (hs : Sl w .u64 v cs) (hl : Lim B64 cs) (hp : 0 < cs.length) (hz : TZ w) :
    Calls Tryd.prog 41 #[v, .int .i64 2, .int .i64 64] w fun e w' => e = .returned (.string ⟨(toBytes (jnd (dgs 2 64) 64 cs)).toArray⟩) ∧ Below w.heap.size w w' :=
  joined_any 2 64 B64 (dgs 2 64) TZ (fun _ _ h hb => h.below hb) (fun n _ => length_dgs (by omega) 64 n) (by omega) fmts2 v cs w hs hl hp hz
set_option maxRecDepth 100000 in
theorem text2 (v : Value) (xs : List Nat) (w : World) (hs : Sl w .u64 v xs) (hl : Lim B64 xs) (hz : TZ w) :
    Calls Tryd.prog 24 #[v, .int .i64 2] w fun e w' => e = .returned (.tuple #[.string ⟨(toBytes (textS (dgs 2 64) 64 xs)).toArray⟩, .int .i64 (textE xs)]) ∧ Below w.heap.size w w' := by
  have HS := Lib.hid hs; have HL := Lib.hid hl; have HZ := Lib.hid hz
  clear hs hl hz
  by_cases hlong : 4096 < (trimL xs).length
  · have hd : decide (4096 < (trimL xs).length) = true := decide_eq_true hlong
    have E1 := Lib.hid (textS_long (D := dgs 2 64) (wd := 64) hlong); have E2 := Lib.hid (textE_long hlong)
    clear hlong
    go_enter Tryd.func24, Tryd.ntmps24
    go_wp2_with fail
    refine (trim_any HS.out).mono ?_
    rintro e w' ⟨v', rfl, hs', rfl⟩
    have HS' := Lib.hid hs'; clear hs'
    go_wp2_with (first | (go_at_call 20; refine (tooLong_any HS'.out).mono ?_; rintro e w' ⟨rfl, rfl⟩) | (go_at_call 40; go_in))
    go_ret2
    exact ⟨by rw [E1.out, E2.out]; rfl, Below.refl _ _⟩
  · have hd : decide (4096 < (trimL xs).length) = false := decide_eq_false hlong
    by_cases h0 : (trimL xs).length = 0
    · have hd0 := len_eq h0
      have E1 := Lib.hid (textS_zero (D := dgs 2 64) (wd := 64) h0); have E2 := Lib.hid (textE_short hlong)
      clear hlong h0
      go_enter Tryd.func24, Tryd.ntmps24
      go_wp2_with fail
      refine (trim_any HS.out).mono ?_
      rintro e w' ⟨v', rfl, hs', rfl⟩
      obtain ⟨a2, c2, rfl⟩ := hs'.shape
      have HS' := Lib.hid hs'; clear hs'
      go_wp2_with (first | (go_at_call 20; refine (tooLong_any HS'.out).mono ?_; rintro e w' ⟨rfl, rfl⟩) | (go_at_call 40; go_in))
      go_ret2
      exact ⟨by rw [E1.out, E2.out]; rfl, Below.refl _ _⟩
    · have hd0 := len_ne h0
      have E1 := Lib.hid (textS_any (D := dgs 2 64) (wd := 64) hlong h0); have E2 := Lib.hid (textE_short hlong)
      have H0 : Hid (0 < (trimL xs).length) := Lib.hid (by omega)
      clear hlong h0
      go_enter Tryd.func24, Tryd.ntmps24
      go_wp2_with fail
      refine (trim_any HS.out).mono ?_
      rintro e w' ⟨v', rfl, hs', rfl⟩
      obtain ⟨a2, c2, rfl⟩ := hs'.shape
      have HS' := Lib.hid hs'; clear hs'
      go_wp2_with (first | (go_at_call 20; refine (tooLong_any HS'.out).mono ?_; rintro e w' ⟨rfl, rfl⟩) | (go_at_call 40; go_in) | (go_at_call 41; refine (joined2 _ _ _ HS'.out (lim_trimL HL.out) H0.out HZ.out).mono ?_; rintro e w1 ⟨rfl, hb1⟩; have HB1 := Lib.hid hb1; clear hb1))
      go_ret2
      exact ⟨by rw [E1.out, E2.out]; rfl, HB1.out⟩
end Go.Proofs.YtafeokkkbiaajabDoor
