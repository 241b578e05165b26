import Derived.Test.YtacbkpenohcgjaaGreatVNA9
import Derived.Test.YtacbkpenohcgjaaGreatVLiftV
import Derived.Test.YtacbkpenohcgjaaGreatVN7
import Derived.Deep.QuietTactic
import Derived.BigQuiet
set_option linter.unusedVariables false
set_option linter.unusedSimpArgs false
set_option maxHeartbeats 16000000
set_option maxRecDepth 100000
namespace Go.Proofs.YtacbkpenohcgjaaGreat
open Go.RowKit Mth
def ResN (w w':World) (e:Ending) (x er:Int) (n:Nat):Prop:=∃ a k c,e=.returned (.tuple #[.agg #[.int .i64 x,.slice a k c],.int .i64 er])∧SlN w' a k c n∧Below w.heap.size w w'
theorem BvA.u {w:World} {v:Value} {x:Int} {xs:List Nat} (h:BvA w v x xs):Calls Tryz.prog 40 #[v] w fun e w'=>ResZ9 w w' e (val B64 xs:Nat):=by
  obtain ⟨u,rfl,h1,h2,h3⟩:=h; exact rU_any x u xs w h1 h2 h3
end Go.Proofs.YtacbkpenohcgjaaGreat
namespace Go.Proofs.YtacbkpenohcgjaaGreat
open Go.RowKit Mth
theorem kind_in (op:Int) (h1:68≤op) (h2:op≤75) (w:World):Calls Tryz.prog 31 #[.int .i64 op] w fun e w'=>e=.returned (.tuple #[.int .i64 2,.int .i64 2,.int .i64 0])∧w'=w:=by
  have d41:(op == 41)=false:=beq_eq_false_iff_ne.2 (by omega)
  have d51:(op == 51)=false:=beq_eq_false_iff_ne.2 (by omega)
  have d42:(op == 42)=false:=beq_eq_false_iff_ne.2 (by omega)
  have d63:(op == 63)=false:=beq_eq_false_iff_ne.2 (by omega)
  have d64:(op == 64)=false:=beq_eq_false_iff_ne.2 (by omega)
  have d65:(op == 65)=false:=beq_eq_false_iff_ne.2 (by omega)
  have d66:(op == 66)=false:=beq_eq_false_iff_ne.2 (by omega)
  have d67:(op == 67)=false:=beq_eq_false_iff_ne.2 (by omega)
  have d43:(op == 43)=false:=beq_eq_false_iff_ne.2 (by omega)
  have d44:(op == 44)=false:=beq_eq_false_iff_ne.2 (by omega)
  have c1:¬ op≤62:=by omega
  have c2:45≤op:=by omega
  go_enter Tryz.func31,Tryz.ntmps31
  go_wp2
  go_ret3
  exact ⟨rfl,rfl⟩
end Go.Proofs.YtacbkpenohcgjaaGreat
