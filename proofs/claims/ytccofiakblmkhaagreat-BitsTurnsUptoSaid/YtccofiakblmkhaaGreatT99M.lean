/- BitsMakes: the law's own walk (genmakes9.py). -/
import Derived.Test.YtccofiakblmkhaaGreatT9NB9
import Derived.Test.YtccofiakblmkhaaGreatT9N5
set_option linter.unusedVariables false
set_option linter.unusedSimpArgs false
namespace Go.Proofs.YtccofiakblmkhaaGreat
open Go.RowKit Mth

theorem cmp0 {w : World} {va vb : Value} {z : Int} (ha : IntV w va z) (hb : IntV w vb z) : Calls Tryz.prog 21 #[va, vb] w fun e w' => e = .returned (.int .i64 0) ∧ Below w.heap.size w w' := cmpF va vb z z 0 w ha hb (zcmp_eq rfl)
end Go.Proofs.YtccofiakblmkhaaGreat
