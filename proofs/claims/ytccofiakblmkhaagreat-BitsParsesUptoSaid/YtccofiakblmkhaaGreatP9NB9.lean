/- 9RD 9RE. -/
import Derived.Test.YtccofiakblmkhaaGreatP9NA9
import Derived.Test.YtccofiakblmkhaaGreatP9LiftV
import Derived.Test.YtccofiakblmkhaaGreatP9N7
import Derived.Deep.QuietTactic
import Derived.BigQuiet
set_option linter.unusedVariables false
set_option linter.unusedSimpArgs false
/- bits, tribunalref09: From, Of, Unsigned, Signed in one form (gen9rd.py). -/
namespace Go.Proofs.YtccofiakblmkhaaGreat
open Go.RowKit Mth

/-- a vector and an error: in one form, whether there is one or none -/
def ResN (w w' : World) (e : Ending) (x er : Int) (n : Nat) : Prop := ∃ a k c, e = .returned (.tuple #[.agg #[.int .i64 x, .slice a k c], .int .i64 er]) ∧ SlN w' a k c n ∧ Below w.heap.size w w'
def frX (x : Int) : Int := if isW x then x else 0
def frE (x : Int) : Int := if isW x then 0 else 55
def frN (x : Int) (z : Int) : Nat := if isW x then vecN x.toNat z else 0
theorem from_form (x : Int) (va : Value) (z : Int) (w : World) (ha : IntV w va z) : Calls Tryz.prog 14 #[.int .i64 x, va] w fun e w' => ResN w w' e (frX x) (frE x) (frN x z) := by
  unfold frX frE frN
  cases hx : isW x
  · exact (from_bad x hx va z w ha).mono fun e w' ⟨he, hb⟩ => ⟨none, 0, 0, he, slN_nil w', hb⟩
  · have h : 1 ≤ x ∧ x ≤ 4096 := by unfold isW at hx; simpa using hx
    obtain ⟨wd, rfl⟩ := Int.eq_ofNat_of_zero_le (show 0 ≤ x by omega)
    exact (fromK wd (by omega) (by omega) va z w ha).mono fun e w' ⟨a, k, c, he, hk, hb⟩ => ⟨a, k, c, he, hk.n, hb⟩
theorem BvA.u {w : World} {v : Value} {x : Int} {xs : List Nat} (h : BvA w v x xs) : Calls Tryz.prog 42 #[v] w fun e w' => ResZ9 w w' e (val B64 xs : Nat) := by
  obtain ⟨u, rfl, h1, h2, h3⟩ := h; exact rU_any x u xs w h1 h2 h3
end Go.Proofs.YtccofiakblmkhaaGreat

/- tribunalref09: kind, check, for orders (gen9re.py). -/
namespace Go.Proofs.YtccofiakblmkhaaGreat
open Go.RowKit Mth

end Go.Proofs.YtccofiakblmkhaaGreat
