import Derived.Test.YtacbkpenohcgjaaGreatVMA
import Derived.Test.YtacbkpenohcgjaaGreatVZ2
import Derived.Test.YtacbkpenohcgjaaGreatVSM
import Derived.Test.YtacbkpenohcgjaaGreatVQA
import Derived.Deep.RegionWith
import Derived.Test.YtacbkpenohcgjaaGreatVZ3
import Derived.Test.YtacbkpenohcgjaaGreatVZB4
set_option linter.unusedVariables false
set_option linter.unusedSimpArgs false
namespace Go.Proofs.YtacbkpenohcgjaaGreat.Mth
end Go.Proofs.YtacbkpenohcgjaaGreat.Mth
namespace Go.Proofs.YtacbkpenohcgjaaGreat
open Go.RowKit Mth
end Go.Proofs.YtacbkpenohcgjaaGreat
namespace Go.Proofs.YtacbkpenohcgjaaGreat
open Go.RowKit Mth
theorem Sl.parts {w:World} {k:IntKind} {b off n cap:Nat} {xs:List Nat} (h:Sl w k (.slice (some ⟨b,off,none⟩) n cap) xs):xs.length=n∧n≤cap∧cap≤maxLen∧n≤16777216:=by
  obtain ⟨ao,cap',e,h1,h2,h3,_⟩:=h
  simp only [Value.slice.injEq] at e
  obtain ⟨rfl,rfl,rfl⟩:=e
  exact ⟨rfl,h1,h2,h3⟩
def GQ (w:World) (u v:Value) (T E:Nat):Prop:=∀ w1,Below w.heap.size w w1→Calls Tryz.prog 177 #[u,v] w1 fun e w'=>∃ vq vr,e=.returned (.tuple #[vq,vr,.int .i64 0])∧Num w' vq (T / E)∧Below w1.heap.size w1 w'
end Go.Proofs.YtacbkpenohcgjaaGreat
namespace Go.Proofs.YtacbkpenohcgjaaGreat
open Go.RowKit Mth
theorem seg_all {xs:List Nat} {n:Nat} (h:xs.length=n):seg xs 0 n=val B64 xs:=by
  unfold seg
  rw [List.drop_zero,List.take_of_length_le (by omega)]
end Go.Proofs.YtacbkpenohcgjaaGreat
namespace Go.Proofs.YtacbkpenohcgjaaGreat
open Go.RowKit Mth
theorem Mid.sl {w:World} {g off cap:Nat} {pre post:List Value} {xs:List Nat} (h:Mid w g pre xs post) (hoff:pre.length=off) (hc:xs.length≤cap) (hm:cap≤maxLen) (hl:xs.length≤16777216):Sl w .u64 (.slice (some ⟨g,off,none⟩) xs.length cap) xs :=
  ⟨_,cap,rfl,hc,hm,hl,(fun e=>by cases e),fun _=>⟨g,off,rfl,h.lt,fun _ hj=>by rw [← hoff]; exact h.cell hj⟩⟩
end Go.Proofs.YtacbkpenohcgjaaGreat
namespace Go.Proofs.YtacbkpenohcgjaaGreat
open Go.RowKit Mth
end Go.Proofs.YtacbkpenohcgjaaGreat
namespace Go.Proofs.YtacbkpenohcgjaaGreat
open Go.RowKit Mth
end Go.Proofs.YtacbkpenohcgjaaGreat
