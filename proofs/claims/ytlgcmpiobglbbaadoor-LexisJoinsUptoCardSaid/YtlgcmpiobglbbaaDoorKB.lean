/- lexis's reference: Same; lexis: inQuotes, written. -/
import Derived.Test.YtlgcmpiobglbbaaDoorKA
set_option linter.unusedVariables false
set_option linter.unusedSimpArgs false
namespace Go.Proofs.YtlgcmpiobglbbaaDoor
open Go.RowKit Mth

/-- the same tokens; pl: at the same places -/
def SameT (pl : Bool) (x y : Tk) : Prop := x.k = y.k ∧ x.t = y.t ∧ x.q = y.q ∧ (pl = true → x.l = y.l ∧ x.c = y.c)
def SameL (pl : Bool) (A B : List Tk) : Prop := A.length = B.length ∧ ∀ (i : Nat) (x y : Tk), A[i]? = some x → B[i]? = some y → SameT pl x y
theorem SameL.refl (pl : Bool) (A : List Tk) : SameL pl A A := ⟨rfl, fun i x y h1 h2 => by obtain rfl := Option.some.inj (h1.symm.trans h2); exact ⟨rfl, rfl, rfl, fun _ => ⟨rfl, rfl⟩⟩⟩
def SmRR (w wr : World) (n : Nat) (i : Value) : Prop := ∃ k m : Nat, k ≤ n ∧ i = .int .i64 (k : Int) ∧ wr = w.drewN m
set_option maxHeartbeats 2000000 in
set_option maxRecDepth 100000 in
theorem same_any (A B : List Tk) (va vb : Value) (pl : Bool) (w : World) (hA : TkL w va A) (hB : TkL w vb B) (hS : SameL pl A B) (hlen : A.length ≤ 1048576) :
    Calls Tryd.prog 13 #[va, vb, .bool pl] w fun e w' => e = .returned (.bool true) ∧ ∃ n, w' = w.drewN n := by
  obtain ⟨aoA, capA, rfl, hA1⟩ := hA
  obtain ⟨aoB, capB, rfl, hB1⟩ := hB
  have HA1 := Lib.hid hA1; have HB1 := Lib.hid hB1; have HS := Lib.hid hS
  have hl := hS.1
  clear hA1 hB1 hS
  rw [← hl]
  go_enter Tryd.func13, Tryd.ntmps13
  go_wp2
  go_loopw [7] (fun i wr => SmRR w wr A.length i) (fun i _ => A.length - (intOf i).toNat)
  case atStart => exact ⟨0, 0, Nat.zero_le _, rfl, rfl⟩
  case round =>
    obtain ⟨k, m, hk, rfl, rfl⟩ := hrel
    by_cases hlt : k < A.length
    · have hne : A ≠ [] := fun e => by rw [e] at hlt; simp at hlt
      have hneB : B ≠ [] := fun e => by rw [hl, e] at hlt; simp at hlt
      obtain ⟨bA, oA, rfl, hbA, hcA⟩ := HA1.out hne
      obtain ⟨bB, oB, rfl, hbB, hcB⟩ := HB1.out hneB
      have hxA : A[k]? = some A[k] := List.getElem?_eq_getElem hlt
      have hltB : k < B.length := by omega
      have hxB : B[k]? = some B[k] := List.getElem?_eq_getElem hltB
      obtain ⟨a0, a1, a2, a3, a4⟩ := TkL.at hcA hxA
      obtain ⟨b0, b1, b2, b3, b4⟩ := TkL.at hcB hxB
      obtain ⟨s1, s2, s3, s4⟩ := HS.out.2 k _ _ hxA hxB
      generalize A[k] = x at *
      generalize B[k] = y at *
      rw [← s1] at b0; rw [← s2] at b1; rw [← s3] at b2
      have S4 := Lib.hid s4
      clear hxA hxB hcA hcB hne hneB s1 s2 s3 s4
      cases pl with
      | false =>
        go_wp2
        go_quiet (fail)
        go_wp2
        go_quiet (fail)
        go_wp2
        go_roundw
        case rel => exact ⟨k + 1, _, by omega, by go_num, rfl⟩
        case measure => simp [intOf]; omega
      | true =>
        obtain ⟨s5, s6⟩ := S4.out rfl
        rw [← s5] at b3; rw [← s6] at b4
        clear S4 s5 s6
        go_wp2
        go_quiet (fail)
        go_wp2
        go_quiet (fail)
        go_wp2
        go_roundw
        case rel => exact ⟨k + 1, _, by omega, by go_num, rfl⟩
        case measure => simp [intOf]; omega
    · obtain rfl : k = A.length := by omega
      go_wp2
      go_ret
      exact ⟨rfl, m, rfl⟩
end Go.Proofs.YtlgcmpiobglbbaaDoor
