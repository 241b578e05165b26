/- Decimal digits, four at a time, in plain mathematics. -/
import Derived.Test.YtccofiakblmkhaaGreatP9MA
import Derived.Test.YtccofiakblmkhaaGreatP9Y3
set_option linter.unusedVariables false
set_option linter.unusedSimpArgs false
namespace Go.Proofs.YtccofiakblmkhaaGreat.Mth

/-- four digits of a number -/
def q4 (m : Nat) : List Nat := [48 + m / 1000, 48 + m / 100 % 10, 48 + m / 10 % 10, 48 + m % 10]
end Go.Proofs.YtccofiakblmkhaaGreat.Mth
