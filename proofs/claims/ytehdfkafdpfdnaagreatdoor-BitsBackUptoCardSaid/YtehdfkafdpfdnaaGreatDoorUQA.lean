/- QuoA QuoB QuoC QuoD Nm. -/
import Derived.Test.YtehdfkafdpfdnaaGreatDoorUDV
import Derived.Test.YtehdfkafdpfdnaaGreatDoorUMA
import Derived.Deep.QuietTactic
import Derived.BigQuiet
import Derived.Test.YtehdfkafdpfdnaaGreatDoorURF
import Derived.StillTailTactics
set_option linter.unusedVariables false
set_option linter.unusedSimpArgs false
/- nat: takeTimes, guessQuotient. -/
namespace Go.Proofs.YtehdfkafdpfdnaaGreatDoor
open Go.RowKit Mth

theorem Drawn.cell {w w' : World} (h : Drawn w w') (a : Addr) : w'.cell? a = w.cell? a := by
  obtain ⟨m, rfl⟩ := h; rfl
end Go.Proofs.YtehdfkafdpfdnaaGreatDoor

/- nat: takeQuotient; numbers of the call's own. -/
namespace Go.Proofs.YtehdfkafdpfdnaaGreatDoor
open Go.RowKit Mth

end Go.Proofs.YtehdfkafdpfdnaaGreatDoor

/- nat: numbers of the call's own; divideLong. -/
namespace Go.Proofs.YtehdfkafdpfdnaaGreatDoor
open Go.RowKit Mth

/-- a slice value that is the number n, in a row of its own from the block base on -/
def Own (w : World) (base : Nat) (v : Value) (n : Nat) : Prop :=
  (v = .slice none 0 0 ∧ n = 0) ∨ ∃ g len cap R, v = .slice (some ⟨g, 0, none⟩) len cap ∧ Row w 55 .u64 g R ∧ base ≤ g ∧ len ≤ R.length ∧ len ≤ cap ∧ cap ≤ maxLen ∧ R.length ≤ 16777217 ∧ Lim B64 R ∧ Top (R.take len) ∧ len ≤ 16777216 ∧ val B64 (R.take len) = n
theorem Own.num {w : World} {base n : Nat} {v : Value} (h : Own w base v n) : Num w v n := by
  rcases h with ⟨rfl, rfl⟩ | ⟨g, len, cap, R, rfl, h1, h2, h3, h4, h5, h6, h7, h8, h9, rfl⟩
  · exact num_nil w
  · have := h1.sl (off := 0) (n := len) (cap := cap) (by omega) h4 h5 h9
    rw [List.drop_zero] at this
    exact ⟨_, this, lim_take (by have := B64_pos; omega) h7 _, h8, rfl⟩
theorem Own.below {w w' : World} {base n : Nat} {v : Value} (h : Own w base v n) (hb : Below w.heap.size w w') : Own w' base v n := by
  rcases h with h | ⟨g, len, cap, R, h0, h1, h2⟩
  · exact .inl h
  · exact .inr ⟨g, len, cap, R, h0, h1.below hb, h2⟩
theorem Own.mono {w : World} {base base' n : Nat} {v : Value} (h : Own w base v n) (hb : base' ≤ base) : Own w base' v n := by
  rcases h with h | ⟨g, len, cap, R, h0, h1, h2, h3⟩
  · exact .inl h
  · exact .inr ⟨g, len, cap, R, h0, h1, by omega, h3⟩
end Go.Proofs.YtehdfkafdpfdnaaGreatDoor

/- nat: divide, Quo. -/
namespace Go.Proofs.YtehdfkafdpfdnaaGreatDoor
open Go.RowKit Mth

end Go.Proofs.YtehdfkafdpfdnaaGreatDoor

/- nat's calls, by the numbers alone. -/
namespace Go.Proofs.YtehdfkafdpfdnaaGreatDoor
open Go.RowKit Mth

/-- a slice value that is the number n; zeros on top may be -/
def Nm (w : World) (v : Value) (n : Nat) : Prop := ∃ zs, Sl w .u64 v zs ∧ Lim B64 zs ∧ val B64 zs = n
theorem Num.nm {w : World} {v : Value} {n : Nat} (h : Num w v n) : Nm w v n := by
  obtain ⟨ys, h1, h2, _, h3⟩ := h; exact ⟨ys, h1, h2, h3⟩
theorem Own.nm {w : World} {base n : Nat} {v : Value} (h : Own w base v n) : Nm w v n := h.num.nm
theorem Nm.below {w w' : World} {v : Value} {n : Nat} (h : Nm w v n) (hb : Below w.heap.size w w') : Nm w' v n := by
  obtain ⟨ys, h1, h2⟩ := h; exact ⟨ys, h1.below hb, h2⟩
theorem Nm.shape {w : World} {v : Value} {n : Nat} (h : Nm w v n) : ∃ ao k c, v = .slice ao k c := by
  obtain ⟨ys, h1, _⟩ := h
  obtain ⟨ao, c, rfl⟩ := h1.shape
  exact ⟨_, _, _, rfl⟩
theorem cmp_nm {v1 v2 : Value} {m n : Nat} {w : World} (h1 : Nm w v1 m) (h2 : Nm w v2 n) (c : Int) (hc : cmp3 m n = c) :
    Calls Tryz.prog 150 #[v1, v2] w fun e w' => e = .returned (.int .i64 c) ∧ Below w.heap.size w w' := by
  subst hc
  obtain ⟨xs, s1, l1, rfl⟩ := h1
  obtain ⟨ys, s2, l2, rfl⟩ := h2
  exact cmp_any v1 v2 xs ys w s1 s2 l1 l2
end Go.Proofs.YtehdfkafdpfdnaaGreatDoor
