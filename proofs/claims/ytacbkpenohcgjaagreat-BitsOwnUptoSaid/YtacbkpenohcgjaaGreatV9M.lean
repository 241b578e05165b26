import Derived.Test.YtacbkpenohcgjaaGreatVNB9
import Derived.Test.YtacbkpenohcgjaaGreatVN5
set_option linter.unusedVariables false
set_option linter.unusedSimpArgs false
namespace Go.Proofs.YtacbkpenohcgjaaGreat
open Go.RowKit Mth
theorem sameN {w:World} {x:Int} {k c k' c' n:Nat} {a a':Option Addr} (ha:SlN w a k c n) (hb:SlN w a' k' c' n) :
    Calls Tryz.prog 7 #[.agg #[.int .i64 x,.slice a k c],.agg #[.int .i64 x,.slice a' k' c']] w fun e w'=>e=.returned (.bool true)∧Below w.heap.size w w':=by
  obtain ⟨xs,rfl,s,l,t,e⟩:=ha
  obtain ⟨ys,rfl,s',l',t',e'⟩:=hb
  obtain rfl:xs=ys:=top_uniq B64_pos l l' t t' (by rw [e,e'])
  exact same9_yes _ _ x xs w ⟨_,rfl,s⟩ ⟨_,rfl,s'⟩
end Go.Proofs.YtacbkpenohcgjaaGreat
