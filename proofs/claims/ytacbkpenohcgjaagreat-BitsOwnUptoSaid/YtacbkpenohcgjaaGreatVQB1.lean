import Derived.Test.YtacbkpenohcgjaaGreatVMA
import Derived.Test.YtacbkpenohcgjaaGreatVZB5
import Derived.Test.YtacbkpenohcgjaaGreatVMB
import Derived.StillTailTactics
import Derived.Test.YtacbkpenohcgjaaGreatVGA
import Derived.Test.YtacbkpenohcgjaaGreatVQA
import Derived.Deep.RegionHeld3
set_option linter.unusedVariables false
set_option linter.unusedSimpArgs false
set_option maxHeartbeats 400000
namespace Go.Proofs.YtacbkpenohcgjaaGreat.Mth
end Go.Proofs.YtacbkpenohcgjaaGreat.Mth
namespace Go.Proofs.YtacbkpenohcgjaaGreat
open Go.RowKit Mth
end Go.Proofs.YtacbkpenohcgjaaGreat
namespace Go.Proofs.YtacbkpenohcgjaaGreat
open Go.RowKit Mth
end Go.Proofs.YtacbkpenohcgjaaGreat
namespace Go.Proofs.YtacbkpenohcgjaaGreat
open Go.RowKit Mth
def RatV (w:World) (v:Value) (x:Int) (d:Nat):Prop:=∃ (n:Bool) (a:Option Addr) (k c:Nat) (a':Option Addr) (k' c':Nat) (xs ys:List Nat),v=.agg #[.bool n,.slice a k c,.slice a' k' c']∧Sl w .u64 (.slice a k c) xs∧Lim B64 xs∧xs.length≤4000000∧x=sg n (val B64 xs)∧Sl w .u64 (.slice a' k' c') ys∧Lim B64 ys∧ys.length≤4000000∧d=val B64 ys
def FrV (w:World) (v:Value) (x:Int) (d:Nat):Prop:=∃ (a:Option Addr) (k c:Nat) (a':Option Addr) (k' c':Nat),v=.agg #[.bool (sgn x),.slice a k c,.slice a' k' c']∧Num w (.slice a k c) x.natAbs∧Num w (.slice a' k' c') d
theorem RatV.below {w w':World} {v:Value} {x:Int} {d:Nat} (h:RatV w v x d) (hb:Below w.heap.size w w'):RatV w' v x d:=by
  obtain ⟨n,a,k,c,a',k',c',xs,ys,e,h1,h2,h3,h4,h5,h6⟩:=h
  exact ⟨n,a,k,c,a',k',c',xs,ys,e,h1.below hb,h2,h3,h4,h5.below hb,h6⟩
theorem Num.below' {w w':World} {v:Value} {n:Nat} (h:Num w v n) (hb:Below w.heap.size w w'):Num w' v n:=by
  obtain ⟨xs,h1,h2⟩:=h; exact ⟨xs,h1.below hb,h2⟩
theorem FrV.below {w w':World} {v:Value} {x:Int} {d:Nat} (h:FrV w v x d) (hb:Below w.heap.size w w'):FrV w' v x d:=by
  obtain ⟨a,k,c,a',k',c',e,h1,h2⟩:=h
  exact ⟨a,k,c,a',k',c',e,h1.below' hb,h2.below' hb⟩
end Go.Proofs.YtacbkpenohcgjaaGreat
namespace Go.Proofs.YtacbkpenohcgjaaGreat
open Go.RowKit Mth
end Go.Proofs.YtacbkpenohcgjaaGreat
namespace Go.Proofs.YtacbkpenohcgjaaGreat
open Go.RowKit Mth
def FrO (w:World) (base:Nat) (v:Value) (x:Int) (d:Nat):Prop:=∃ (a:Option Addr) (k c:Nat) (a':Option Addr) (k' c':Nat),v=.agg #[.bool (sgn x),.slice a k c,.slice a' k' c']∧Ow w base (.slice a k c) x.natAbs∧Ow w base (.slice a' k' c') d
theorem FrO.below {w w':World} {base:Nat} {v:Value} {x:Int} {d:Nat} (h:FrO w base v x d) (hb:Below w.heap.size w w'):FrO w' base v x d:=by
  obtain ⟨a,k,c,a',k',c',e,h1,h2⟩:=h
  exact ⟨a,k,c,a',k',c',e,h1.below hb,h2.below hb⟩
end Go.Proofs.YtacbkpenohcgjaaGreat
namespace Go.Proofs.YtacbkpenohcgjaaGreat
open Go.RowKit Mth
end Go.Proofs.YtacbkpenohcgjaaGreat
