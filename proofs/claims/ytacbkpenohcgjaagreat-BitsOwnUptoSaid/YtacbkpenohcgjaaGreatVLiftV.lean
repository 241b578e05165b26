import Derived.Test.YtacbkpenohcgjaaGreatVN3
import Derived.Test.YtacbkpenohcgjaaGreatRows
import Derived.WalkKit
import Derived.ProofKit
import Derived.OpenShut
import Derived.JoinedCond
import Derived.Lib.SmallJoins
import Derived.Deep.DeepHandedRow
set_option linter.unusedVariables false
set_option linter.unusedSimpArgs false
set_option maxRecDepth 100000
namespace Go.Proofs.YtacbkpenohcgjaaGreat
open Go.ChangeShapes Go.WideShapes Go.ChangeAt Go.RowKit Mth Go.Joins
theorem laidOut:laidOutB Tryz.prog=true:=by kernel_rfl
theorem cells_u64:Tryz.prog.cellsOf 37=1:=by kernel_rfl
theorem bulk_ints {H:Type} (k:IntKind) (zs:List Int):Rows.uptoBulkAll (lits (H:=H) k zs)=zs.length:=by
  induction zs with
  | nil=>simp [lits,Rows.uptoBulkAll]
  | cons z r ih =>
    simp only [lits,List.map_cons,Rows.uptoBulkAll,Rows.uptoBulk,List.length_cons] at ih ⊢
    omega
theorem bulk_mem {H:Type} {d:DataW H} {ds:List (DataW H)} (h:d∈ds):Rows.uptoBulk d≤Rows.uptoBulkAll ds:=by
  induction ds with
  | nil=>cases h
  | cons x r ih =>
    simp only [Rows.uptoBulkAll]
    rcases List.mem_cons.1 h with e | e
    · subst e; omega
    · have:=ih e; omega
theorem arg_stays {H:Type} {enc:TypeId × Value→H} {t:TypeId} (hr:Tryz.prog.readableRec t=true) (hrow:t<Tryz.prog.types.size) {W W':World} {v:Value} {d:DataW H} {p:List MemPlace}
    (h:DataW.Trod enc Tryz.prog W 0 (fun _=>true) true t v d p) (hb:Below W.heap.size W W') (hlt:∀ x∈p,x.block<W.heap.size):DataW.Trod enc Tryz.prog W' 0 (fun b=>decide (b<W.heap.size)) true t v d p :=
  Below.trod laidOut hr hrow h hb hlt
theorem nat_cell {H:Type} {enc:TypeId × Value→H} {W:World} {v:Value} {y:DataW H × List MemPlace} {fuel:Nat}
    (hf:DataW.trod enc Tryz.prog W 0 (fun _=>true) true fuel 26 [v]=some y) (hk:Rows.uptoBulk y.1≤1048576):∃ xs:List Nat,Sl W .u64 v xs∧Lim B64 xs∧xs.length≤1048576:=by
  obtain ⟨d,p⟩:=y
  rcases open_ints Tryz.underlying26 Tryz.underlying37 cells_u64 hf with ⟨hcs,hx⟩ | ⟨a,len,cap,zs,hcs,_,hl,hm,hz,hx,hcell,hwz⟩
  · obtain rfl:v=.slice none 0 0:=by simpa using hcs
    exact ⟨[],sl_nil W _,lim_nil (by have:=B64_pos; omega),by simp⟩
  · obtain rfl:v=.slice (some a) len cap:=by simpa using hcs
    simp only [Prod.mk.injEq] at hx
    obtain ⟨rfl,rfl⟩:=hx
    simp only [if_true] at hz
    simp only [Rows.uptoBulk,bulk_ints,List.length_take,List.length_drop] at hk
    have hlen:len≤1048576:=by omega
    have hget:∀ j,((zs.take len).map Int.toNat).getD j 0=if j<len then (zs.getD j 0).toNat else 0:=by
      intro j
      simp only [List.getD_eq_getElem?_getD,List.getElem?_map,List.getElem?_take]
      split
      · cases zs[j]?<;>rfl
      · rfl
    have hwf:∀ j,0≤zs.getD j 0∧zs.getD j 0≤18446744073709551615:=by
      intro j
      have:=range_u64 hwz j
      simpa [List.getD_eq_getElem?_getD] using this
    have hxl:((zs.take len).map Int.toNat).length=len:=by rw [List.length_map,List.length_take]; omega
    refine ⟨(zs.take len).map Int.toNat,⟨some a,cap,by rw [hxl],by omega,hm,by omega,fun e=>by simp at e,fun hp=>?_⟩,fun j=>?_,by omega⟩
    · obtain ⟨b,off,rfl,hc⟩:=ints_at hcell (by omega)
      refine ⟨b,off,rfl,World.block_lt_of_cell? W _ (hc 0 (by omega)),fun j hj=>?_⟩
      rw [hc j (by omega),hget,if_pos (by omega),Int.toNat_of_nonneg (hwf j).1]
    · rw [hget]
      have:=hwf j
      unfold B64
      split<;>omega
theorem cells_int:Tryz.prog.cellsOf 50=2:=by kernel_rfl
theorem int_arg {H:Type} {enc:TypeId × Value→H} {W:World} {base:Nat} {v:Value} {d:DataW H} {p:List MemPlace} (hval:Value.okWide Tryz.prog W .any base 50 v)
    (h:DataW.Trod enc Tryz.prog W 0 (fun _=>true) true 50 v d p) (hk:Rows.uptoBulk d≤1048576):∃ z:Int,IntV W v z:=by
  obtain ⟨v0,v1,y0,y1,n,rfl,rfl,rfl,h0,h1⟩:=open_agg2 Tryz.underlying50 (by kernel_rfl) cells_int hval h
  obtain ⟨b,hb,_⟩:=DataW.trod_bool Tryz.underlying4 h0
  obtain rfl:v0=.bool b:=by simpa using hb
  have hk1:Rows.uptoBulk y1.1≤1048576:=by
    have:=bulk_mem (d:=y1.1) (ds:=[y0.1,y1.1]) (by simp)
    simp only [Rows.uptoBulk] at hk
    omega
  obtain ⟨xs,s,l,hl⟩:=nat_cell h1 hk1
  exact ⟨_,b,v1,xs,rfl,s,l,by omega,rfl⟩
theorem cells_bits:Tryz.prog.cellsOf 28=2:=by kernel_rfl
def BvA (w:World) (v:Value) (x:Int) (xs:List Nat):Prop:=∃ u,v=.agg #[.int .i64 x,u]∧Sl w .u64 u xs∧Lim B64 xs∧xs.length≤4000000
theorem bits_arg {H:Type} {enc:TypeId × Value→H} {W:World} {base:Nat} {v:Value} {d:DataW H} {p:List MemPlace} (hval:Value.okWide Tryz.prog W .any base 28 v)
    (h:DataW.Trod enc Tryz.prog W 0 (fun _=>true) true 28 v d p) (hk:Rows.uptoBulk d≤1048576):∃ (x:Int) (xs:List Nat),BvA W v x xs:=by
  obtain ⟨v0,v1,y0,y1,n,rfl,rfl,rfl,h0,h1⟩:=open_agg2 Tryz.underlying28 (by kernel_rfl) cells_bits hval h
  obtain ⟨b,hb,_⟩:=DataW.trod_int Tryz.underlying3 h0
  obtain rfl:v0=.int .i64 b:=by simpa using hb
  have hk1:Rows.uptoBulk y1.1≤1048576:=by
    have:=bulk_mem (d:=y1.1) (ds:=[y0.1,y1.1]) (by simp)
    simp only [Rows.uptoBulk] at hk
    omega
  obtain ⟨xs,s,l,hl⟩:=nat_cell h1 hk1
  exact ⟨_,xs,v1,rfl,s,l,by omega⟩
end Go.Proofs.YtacbkpenohcgjaaGreat
