/- tribunalref03: the two parts of a fraction in memory; a denominator of one. -/
import Derived.Test.YthgmebnihpjnoaaGreatDoorRFQ
set_option linter.unusedVariables false
set_option linter.unusedSimpArgs false
namespace Go.Proofs.YthgmebnihpjnoaaGreatDoor
open Go.RowKit Mth

theorem QV.parts {w : World} {m m' : Bool} {a a' : Option Addr} {k c k' c' : Nat} {x : Int} {d : Nat} (h : QV w (.agg #[.bool m, .slice a k c, .bool m', .slice a' k' c']) x d) : ZV w (.agg #[.bool m, .slice a k c]) x ∧ ZV w (.agg #[.bool m', .slice a' k' c']) (d : Int) := by
  obtain ⟨n, b, l, e, n', b', l', e', h, h1, h2⟩ := h
  simp only [Value.agg.injEq, Array.mk.injEq, List.cons.injEq, Value.bool.injEq, Value.slice.injEq, and_true] at h
  obtain ⟨rfl, ⟨rfl, rfl, rfl⟩, rfl, rfl, rfl, rfl⟩ := h
  exact ⟨h1, h2⟩
theorem ZV.one {w : World} {n : Bool} {a : Option Addr} {k c D : Nat} (h : ZV w (.agg #[.bool n, .slice a k c]) (D : Int)) : (k ≠ 1 ∧ D ≠ 1) ∨ (k = 1 ∧ ∃ b o y, a = some ⟨b, o, none⟩ ∧ w.cell? ⟨b, o, none⟩ = some (.int .u16 (y : Nat)) ∧ (y = 1 ↔ D = 1)) := by
  obtain ⟨_, ys, s, l, t, e, hk⟩ := h.parts
  rw [Int.natAbs_natCast] at e
  subst hk
  by_cases h1 : ys.length = 1
  · refine .inr ⟨h1, ?_⟩
    obtain ⟨ao, c', e', _, _, _, _, h5⟩ := s
    obtain ⟨b, o, rfl, _, hc⟩ := h5 (by omega)
    simp only [Value.slice.injEq] at e'
    obtain ⟨rfl, _, _⟩ := e'
    match ys, h1 with
    | [y], _ =>
      refine ⟨b, o, y, rfl, hc 0 (Nat.zero_lt_one), ?_⟩
      have : y = D := by rw [← e]; simp [val]
      rw [this]
  · refine .inl ⟨h1, ?_⟩
    rintro rfl
    have hp : 0 < ys.length := by
      rcases ys with _ | ⟨y, ys⟩
      · have : (0 : Nat) = 1 := e
        omega
      · simp
    have h2 := val_ge_top (B := B16) t hp
    have h3 : B16 ^ 1 ≤ B16 ^ (ys.length - 1) := Nat.pow_le_pow_right (by unfold B16; omega) (by omega)
    have h4 : B16 ^ 1 = 65536 := rfl
    omega

end Go.Proofs.YthgmebnihpjnoaaGreatDoor
