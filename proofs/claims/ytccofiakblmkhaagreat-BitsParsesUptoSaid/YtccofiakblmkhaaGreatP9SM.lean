/- Small Fmt Mul Times Product ProductB. -/
import Derived.Test.YtccofiakblmkhaaGreatP9MB
import Derived.Test.YtccofiakblmkhaaGreatShelf
import Derived.Outline
import Derived.Deep.DeepFit
import Derived.Test.YtccofiakblmkhaaGreatP9MA
import Derived.Laws.IdiomStrings
import Derived.Laws.BitsAllLaws
import Derived.WalkLawsBesides
import Derived.WalkSpells
import Derived.Deep.RegionWith
import Derived.Deep.QuietTactic
import Derived.BigQuiet
set_option linter.unusedVariables false
set_option linter.unusedSimpArgs false
/- The small functions of nat: tooLong, Of, settle, fresh, answer, Small; mulAdd. -/
namespace Go.Proofs.YtccofiakblmkhaaGreat
open Go.RowKit Mth

theorem tooLong_any {v : Value} {xs : List Nat} {w : World} (h : Sl w .u64 v xs) :
    Calls Tryz.prog 154 #[v] w fun e w' => e = .returned (.bool (decide (4096 < xs.length))) ∧ w = w' := by
  obtain ⟨ao, cap, rfl, h1, h2, h3, h4, h5⟩ := h
  clear h4 h5
  unfold maxLen at h2
  go_enter Tryz.func154, Tryz.ntmps154
  go_wp2
  go_ret
  exact ⟨ret_bool (by rw [decide_eq_decide]; omega), rfl⟩

theorem settle_any {v : Value} {xs : List Nat} {w : World} (h : Sl w .u64 v xs) :
    Calls Tryz.prog 161 #[v] w fun e w' => ∃ v', e = .returned v' ∧ Sl w .u64 v' (trimL xs) ∧ w = w' := by
  go_enter Tryz.func161, Tryz.ntmps161
  go_wp2_with fail
  refine (trim_any h).mono ?_
  rintro e w' ⟨v', rfl, hs, rfl⟩
  have hs' := hs
  obtain ⟨ao, cap, rfl, h1, h2, h3, h4, h5⟩ := hs'
  clear h4 h5
  unfold maxLen at h2
  by_cases h0 : (trimL xs).length = 0
  · have e0 : trimL xs = [] := List.eq_nil_of_length_eq_zero h0
    have hd := len_eq h0
    clear h0
    have E0 := Lib.hid e0; clear e0
    go_wp2
    go_ret
    exact ⟨_, rfl, by rw [E0.out]; exact sl_nil _ _, rfl⟩
  · have hd := len_ne h0
    clear h0
    go_wp2
    go_ret
    exact ⟨_, rfl, hs, rfl⟩

theorem answer_any {v : Value} {xs : List Nat} {w : World} (h : Sl w .u64 v xs) (hx : Lim B64 xs) :
    Calls Tryz.prog 156 #[v] w fun e w' => ∃ v', e = .returned (.tuple #[v', .int .i64 (cutE (val B64 xs))]) ∧ Num w v' (cutN (val B64 xs)) ∧ w = w' := by
  go_enter Tryz.func156, Tryz.ntmps156
  go_wp2_with fail
  refine (settle_any h).mono ?_
  rintro e w' ⟨v', rfl, hs, rfl⟩
  clear h
  have hN := num_trim hs hx
  have L := long_iff hx
  by_cases h0 : 4096 < (trimL xs).length
  · have hd : decide (4096 < (trimL xs).length) = true := decide_eq_true h0
    have e1 : cutE (val B64 xs) = 5 := if_pos (L.1 h0)
    have e2 : cutN (val B64 xs) = 0 := if_pos (L.1 h0)
    have E1 := Lib.hid e1; have E2 := Lib.hid e2
    clear e1 e2 L h0 hN
    go_wp2_with fail
    refine (tooLong_any hs).mono ?_
    rintro e w' ⟨rfl, rfl⟩
    go_wp2
    go_ret2
    exact ⟨_, by rw [E1.out]; rfl, by rw [E2.out]; exact num_nil _, rfl⟩
  · have hd : decide (4096 < (trimL xs).length) = false := decide_eq_false h0
    have e1 : cutE (val B64 xs) = 0 := if_neg (fun h => h0 (L.2 h))
    have e2 : cutN (val B64 xs) = val B64 xs := if_neg (fun h => h0 (L.2 h))
    have E1 := Lib.hid e1; have E2 := Lib.hid e2
    clear e1 e2 L h0
    go_wp2_with fail
    refine (tooLong_any hs).mono ?_
    rintro e w' ⟨rfl, rfl⟩
    go_wp2
    go_ret2
    exact ⟨_, by rw [E1.out]; rfl, by rw [E2.out]; exact hN, rfl⟩
end Go.Proofs.YtccofiakblmkhaaGreat

/- strconv.FormatUint at the bases 16 and 2. -/
namespace Go.Proofs.YtccofiakblmkhaaGreat
open Go.RowKit Mth

theorem and1 (u : Nat) (hu : u < B64) : bits BinOp.and IntKind.u64 (u : Int) 1 = ((md u 2 : Nat) : Int) := by
  unfold B64 at hu
  have := u64_and_nat u 1 hu (by omega)
  rw [show ((1 : Nat) : Int) = 1 from rfl] at this
  rw [this, Nat.and_one_is_mod]
  rfl

end Go.Proofs.YtccofiakblmkhaaGreat

/- mulAdd, addTimes. -/
namespace Go.Proofs.YtccofiakblmkhaaGreat
open Go.RowKit Mth

theorem mul64_any (x y : Nat) (hx : x < B64) (hy : y < B64) (w : World) :
    Calls Tryz.prog 200 #[.int .u64 x, .int .u64 y] w fun e w' => e = .returned (.tuple #[.int .u64 ((mHi x y : Nat) : Int), .int .u64 ((mLo x y : Nat) : Int)]) ∧ w = w' :=
  (Go.Proofs.Tryz.bits_Mul64 x y hx hy w).mono fun _ _ ⟨he, hw⟩ => ⟨he, hw.symm⟩
theorem wrap_u64 (n : Nat) (h : n < B64) : IntKind.u64.wrap (n : Int) = n := by
  rw [IntKind.wrap_u64]; unfold B64 at h; omega

set_option maxRecDepth 100000 in
theorem mulAdd_any (x y p : Nat) (hx : x < B64) (hy : y < B64) (hp : p < B64) (w : World) :
    Calls Tryz.prog 188 #[.int .u64 x, .int .u64 y, .int .u64 p] w fun e w' =>
      e = .returned (.tuple #[.int .u64 ((pHi x y p : Nat) : Int), .int .u64 ((pLo x y p : Nat) : Int)]) ∧ w = w' := by
  have M := pHi_lt hx hy hp
  have HM := Lib.hid M; clear M
  have hadd := fun (x y : Nat) (w : World) => add64_run0 x y w
  have HX := Lib.hid hx; have HY := Lib.hid hy; clear hx hy hp
  go_enter Tryz.func188, Tryz.ntmps188
  go_wp2_with fail
  refine (mul64_any _ _ HX.out HY.out _).mono ?_
  rintro e w' ⟨rfl, rfl⟩
  go_wp2
  go_ret2
  obtain ⟨e1, e2⟩ := p_steps (x := x) (y := y) (p := p)
  have e3 := wrap_u64 _ HM.out
  rw [← e2] at e3
  refine ⟨?_, rfl⟩
  rw [← e1, ← e2, ← e3, Int.natCast_add]
  rfl

theorem of_any (x : Nat) (hx : x < B64) (w : World) :
    Calls Tryz.prog 34 #[.int .u64 x] w fun e w' => ∃ v', e = .returned v' ∧ Below w.heap.size w w' ∧ Num w' v' x := by
  have HX := Lib.hid hx; clear hx
  by_cases h0 : x = 0
  · have hd : ((x : Int) == 0) = true := by rw [h0]; rfl
    have H0 := Lib.hid h0; clear h0
    go_enter Tryz.func34, Tryz.ntmps34
    go_wp2
    go_ret
    exact ⟨_, rfl, Below.refl _ _, by rw [H0.out]; exact num_nil _⟩
  · have hd : ((x : Int) == 0) = false := by simp; omega
    have H0 := Lib.hid h0; clear h0
    go_enter Tryz.func34, Tryz.ntmps34
    go_wp2
    go_ret
    have hrow : Row (w.alloc (Obj.cells #[Value.int IntKind.u64 (x : Int)] 22)) 22 .u64 w.heap.size [x] := heap_alloc_new w _
    have hb : Below w.heap.size w (w.alloc (Obj.cells #[Value.int IntKind.u64 (x : Int)] 22)) := (Below.refl _ _).alloc (Nat.le_refl _) _
    refine ⟨_, rfl, hb, [x], hrow.sl_all (by simp), ?_, ?_, by simp [val]⟩
    · exact lim_cons.2 ⟨HX.out, lim_nil (by have := B64_pos; omega)⟩
    · simp [Top, tlen, H0.out]

end Go.Proofs.YtccofiakblmkhaaGreat

/- nat.times: the product of two numbers above 0. -/
namespace Go.Proofs.YtccofiakblmkhaaGreat
open Go.RowKit Mth

end Go.Proofs.YtccofiakblmkhaaGreat

/- nat.product and nat.Mul: the product of many numbers. -/
namespace Go.Proofs.YtccofiakblmkhaaGreat
open Go.RowKit Mth

end Go.Proofs.YtccofiakblmkhaaGreat

/- nat.product of many, nat.Mul. -/
namespace Go.Proofs.YtccofiakblmkhaaGreat
open Go.RowKit Mth

end Go.Proofs.YtccofiakblmkhaaGreat
