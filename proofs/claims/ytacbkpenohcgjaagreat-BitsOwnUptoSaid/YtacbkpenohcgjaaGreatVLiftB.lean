import Derived.Test.YtacbkpenohcgjaaGreatVLiftV
import Derived.Test.YtacbkpenohcgjaaGreatVNT9
import Derived.Deep.Slices
set_option linter.unusedVariables false
set_option linter.unusedSimpArgs false
set_option maxRecDepth 100000
namespace Go.Proofs.YtacbkpenohcgjaaGreat
open Go.ChangeShapes Go.WideShapes Go.ChangeAt Go.RowKit Mth Go.Joins Go.Deep
theorem bulk_at9 {H:Type} (n:Nat) (D:Nat→DataW H) (j:Nat) (hj:j<n):Rows.uptoBulk (D j)≤Rows.uptoBulkAll ((List.range n).map D):=bulk_mem (List.mem_map.2 ⟨j,List.mem_range.2 hj,rfl⟩)
theorem bulk_many9 {H:Type} (n:Nat) (D:Nat→DataW H) (h:∀ j,j<n→1≤Rows.uptoBulk (D j)):n≤Rows.uptoBulkAll ((List.range n).map D):=by
  have key:∀ l:List Nat,(∀ j∈l,j<n)→l.length≤Rows.uptoBulkAll (l.map D):=by
    intro l
    induction l with
    | nil=>exact fun _=>Nat.zero_le _
    | cons x r ih =>
      intro hl
      simp only [List.map_cons,Rows.uptoBulkAll,List.length_cons]
      have:=h x (hl x (by simp))
      have:=ih (fun j hj=>hl j (by simp [hj]))
      omega
  have:=key (List.range n) (fun j hj=>List.mem_range.1 hj)
  rwa [List.length_range] at this
theorem inl_arg {H:Type} {enc:TypeId × Value→H} {W:World} {base:Nat} {v:Value} {d:DataW H} {p:List MemPlace} (hval:Value.okWide Tryz.prog W .any base 23 v)
    (h:DataW.Trod enc Tryz.prog W 0 (fun _=>true) true 23 v d p) (hk:Rows.uptoBulk d≤1048576):∃ l:List Int,PaL W v l∧l.length≤1048576:=by
  obtain ⟨a0,len,cap,rfl⟩:=okWide_slice Tryz.underlying23 hval
  obtain ⟨fuel,hf⟩:=h
  rcases open_ints Tryz.underlying23 Tryz.underlying3 (by kernel_rfl) hf with ⟨hcs,_⟩ | ⟨a,len',cap',zs,hcs,_,hl,hm,hz,hx,hcell,hwz⟩
  · simp [Value.cells] at hcs
    obtain ⟨rfl,rfl,rfl⟩:=hcs
    exact ⟨[],⟨none,0,rfl,fun h=>absurd rfl h⟩,by simp⟩
  · simp [Value.cells] at hcs
    obtain ⟨rfl,rfl,rfl⟩:=hcs
    simp only [Prod.mk.injEq] at hx
    obtain ⟨rfl,rfl⟩:=hx
    simp only [if_true] at hz
    have hxl:(zs.take len).length=len:=by rw [List.length_take]; omega
    simp only [Rows.uptoBulk,bulk_ints,List.length_take,List.length_drop] at hk
    refine ⟨zs.take len,⟨some a,cap,by rw [hxl],fun hne=>?_⟩,by omega⟩
    have h0:0<len:=by
      rcases Nat.eq_zero_or_pos len with h | h
      · subst h; simp at hne
      · exact h
    have c0:=hcell 0 (by omega)
    have hspot:a.spot=none:=by simpa [Addr.add] using World.cell?_spot c0
    obtain ⟨bb,off,spot⟩:=a
    subst hspot
    refine ⟨bb,off,rfl,World.block_lt_of_cell? W _ c0,fun j x hx=>?_⟩
    have hjl:j<len:=by have:=(List.getElem?_eq_some_iff.1 hx).1; omega
    have:=hcell j (by omega)
    rw [Addr.add_lit] at this
    rw [this,List.getD_eq_getElem?_getD]
    rw [List.getElem?_take,if_pos hjl] at hx
    rw [hx]; rfl
theorem bitsl_arg {H:Type} {enc:TypeId × Value→H} {W:World} {base:Nat} {v:Value} {d:DataW H} {p:List MemPlace} (hval:Value.okWide Tryz.prog W .any base 24 v)
    (h:DataW.Trod enc Tryz.prog W 0 (fun _=>true) true 24 v d p) (hk:Rows.uptoBulk d≤1048576):∃ L:List (Int × List Nat),BvLX W v L∧L.length≤1048576:=by
  obtain ⟨a0,len,cap,rfl⟩:=okWide_slice Tryz.underlying24 hval
  obtain ⟨fuel,hf⟩:=h
  rcases open_slice Tryz.underlying24 hf with ⟨hcs,_⟩ | ⟨a,len',cap',m,n,D,Pl,hcs,_,hl,hm,hmm,hx,hi⟩
  · simp [Value.cells] at hcs
    obtain ⟨rfl,rfl,rfl⟩:=hcs
    exact ⟨[],⟨none,0,rfl,fun h=>absurd rfl h⟩,by simp⟩
  · simp [Value.cells] at hcs
    obtain ⟨rfl,rfl,rfl⟩:=hcs
    simp only [Prod.mk.injEq] at hx
    obtain ⟨rfl,rfl⟩:=hx
    simp only [if_true] at hmm
    simp only [Rows.uptoBulk] at hk
    have part:∀ i,i<cap→∃ (x:Int) (u:Value) (y:DataW H × List MemPlace) (n1:Nat),W.cell? (a.add (i*2))=some (.int .i64 x)∧W.cell? ((a.add (i*2)).add 1)=some u∧1≤Rows.uptoBulk (D i)∧Rows.uptoBulk y.1≤Rows.uptoBulk (D i)∧DataW.trod enc Tryz.prog W 0 (fun _=>true) true n1 26 [u]=some y:=by
      intro i hic
      obtain ⟨cs',hc,ht⟩:=hi i (by omega)
      rw [cells_bits] at hc
      obtain ⟨_,hcl,hat⟩:=World.cells?_some hc
      obtain ⟨y0,y1,n1,hy,_,t0,t1⟩:=trod_struct2 Tryz.underlying28 ht
      match cs',hcl with
      | [u0,u1],_ =>
        have e0:([u0,u1].drop 0).take (Tryz.prog.cellsOf 3)=[u0]:=by rw [show Tryz.prog.cellsOf 3=1 by kernel_rfl]; rfl
        have e1:([u0,u1].drop 1).take (Tryz.prog.cellsOf 26)=[u1]:=by rw [show Tryz.prog.cellsOf 26=1 by kernel_rfl]; rfl
        have t0':DataW.trod enc Tryz.prog W 0 (fun _=>true) true n1 3 [u0]=some y0:=by rw [← e0]; exact t0
        have t1':DataW.trod enc Tryz.prog W 0 (fun _=>true) true n1 26 [u1]=some y1:=by rw [← e1]; exact t1
        obtain ⟨b,hb,hy0⟩:=DataW.trod_int Tryz.underlying3 t0'
        obtain rfl:u0=.int .i64 b:=by simpa using hb
        simp only [Prod.mk.injEq] at hy
        refine ⟨b,u1,y1,n1, ?_, ?_, ?_, ?_,t1'⟩
        · have:=hat 0 (by omega)
          simpa [Addr.add] using this
        · exact hat 1 (by omega)
        · rw [hy.1]; simp only [Rows.uptoBulk,Rows.uptoBulkAll]; omega
        · rw [hy.1]; simp only [Rows.uptoBulk,Rows.uptoBulkAll]; omega
    have hlen:len≤1048576:=by
      have:=bulk_many9 len D (fun j hj=>by obtain ⟨_,_,_,_,_,_,h,_⟩:=part j (by omega); exact h)
      omega
    by_cases h0:len=0
    · subst h0
      exact ⟨[],⟨some a,cap,rfl,fun h=>absurd rfl h⟩,by simp⟩
    · have hspot:a.spot=none:=by
        obtain ⟨b,_,_,_,h,_⟩:=part 0 (by omega)
        simpa [Addr.add] using World.cell?_spot h
      obtain ⟨bb,off,spot⟩:=a
      subst hspot
      have key:∀ i,∃ z:Int × List Nat,i<len→∃ u,W.cell? ⟨bb,off+i*2,none⟩=some (.int .i64 z.1)∧W.cell? ⟨bb,off+i*2+1,none⟩=some u∧Sl W .u64 u z.2∧Lim B64 z.2∧z.2.length≤4000000:=by
        intro i
        by_cases hil:i<len
        · obtain ⟨b,u,y,n1,q0,q1,_,hyb,ht⟩:=part i (by omega)
          have hb1:=bulk_at9 len D i hil
          simp only [Addr.add_lit] at q0 q1
          obtain ⟨xs,s,l,hxl⟩:=nat_cell ht (by omega)
          exact ⟨(b,xs),fun _=>⟨u,q0,q1,s,l,show xs.length≤4000000 by omega⟩⟩
        · exact ⟨(0,[]),fun h=>absurd h hil⟩
      have hL:((List.range len).map fun i=>Classical.choose (key i)).length=len:=by simp
      refine ⟨(List.range len).map fun i=>Classical.choose (key i),⟨some ⟨bb,off,none⟩,cap,by rw [hL],fun _=>⟨bb,off,rfl, ?_,fun j q hq=>?_⟩⟩,by omega⟩
      · obtain ⟨b,_,_,_,h,_⟩:=part 0 (by omega)
        exact World.block_lt_of_cell? W _ h
      · have hjl:j<len:=by have:=(List.getElem?_eq_some_iff.1 hq).1; omega
        have e:q=Classical.choose (key j):=by
          simp only [List.getElem?_map] at hq
          rw [List.getElem?_eq_getElem (by simpa using hjl)] at hq
          simpa using hq.symm
        subst e
        exact Classical.choose_spec (key j) hjl
end Go.Proofs.YtacbkpenohcgjaaGreat
