import Derived.Test.YtacbkpenohcgjaaGreatVNY9
import Derived.Test.YtacbkpenohcgjaaGreatVMB
import Derived.Maps.AppendAt
import Derived.Laws.OwnMore
import Derived.Deep.Upon
import Derived.Lib.SlFresh
set_option linter.unusedVariables false
set_option linter.unusedSimpArgs false
namespace Go.Proofs.YtacbkpenohcgjaaGreat
open Go.RowKit Mth
structure KeepsB (w w':World) (X:Nat→Prop):Prop where
  size:w.heap.size≤w'.heap.size
  block:∀ b,b<w.heap.size→X b→w'.heap[b]?=w.heap[b]?
  same:w'.os=w.os∧w'.tape=w.tape∧w'.output=w.output
theorem KeepsB.refl (w:World) (X:Nat→Prop):KeepsB w w X:=⟨Nat.le_refl _,fun _ _ _=>rfl,rfl,rfl,rfl⟩
theorem KeepsB.weak {w w':World} {X Y:Nat→Prop} (h:KeepsB w w' X) (hxy:∀ b,b<w.heap.size→Y b→X b):KeepsB w w' Y:=⟨h.1,fun b hb hy=>h.2 b hb (hxy b hb hy),h.3⟩
theorem KeepsB.of_grown {w w':World} {row:Option Nat} (h:w.grownBy w' row):KeepsB w w' (fun b=>row≠some b):=⟨h.size,fun b hb hx=>h.block b hb (fun e=>hx e.symm),h.os,h.tape,h.output⟩
theorem KeepsB.of_below {w w':World} (h:Below w.heap.size w w'):KeepsB w w' (fun _=>True):=⟨h.size,fun b hb _=>h.block b hb,h.os,h.tape,h.output⟩
theorem KeepsB.below {w w':World} {X:Nat→Prop} {B:Nat} (h:KeepsB w w' X) (hB:B≤w.heap.size) (hx:∀ b,b<B→X b):Below B w w':=⟨h.3.1,h.3.2.1,h.3.2.2,h.1,fun b hb=>h.2 b (Nat.lt_of_lt_of_le hb hB) (hx b hb)⟩
theorem KeepsB.alloc (w:World) (o:Obj):KeepsB w (w.alloc o) (fun _=>True):=KeepsB.of_below ((Below.refl _ _).alloc (Nat.le_refl _) o)
theorem KeepsB.at {w w':World} {X:Nat→Prop} (h:KeepsB w w' X) {b:Nat} {x:Obj} (hx:X b) (hb:w.heap[b]?=some x):w'.heap[b]?=some x:=(h.2 b (Array.getElem?_eq_some_iff.1 hb).1 hx).trans hb
theorem own_keepsB {w w':World} {X:Nat→Prop} {base size n:Nat} {e:TypeId} {v:Value} {xs:List Value} (h:w.ownsRow base e size v n xs) (hk:KeepsB w w' X) (hx:∀ g,v.ownBlock=some g→X g):w'.ownsRow base e size v n xs:=by
  obtain ⟨hl,h⟩:=h
  refine ⟨hl, ?_⟩
  rcases h with h | ⟨g,cap,cur,rfl,hb,hh,h1,h2,h3,h4⟩
  · exact .inl h
  · exact .inr ⟨g,cap,cur,rfl,hb,hk.at (hx g rfl) hh,h1,h2,h3,h4⟩
theorem own_lenB {w:World} {base size n:Nat} {e:TypeId} {v:Value} {xs:List Value} (h:w.ownsRow base e size v n xs):∃ ao cap,v=.slice ao n cap:=by
  rcases h.2 with ⟨e1,e2⟩ | ⟨g,cap,_,e1,_⟩
  · exact ⟨none,0,by rw [e1,e2]⟩
  · exact ⟨_,_,e1⟩
theorem own_someB {w:World} {base size n:Nat} {e:TypeId} {v:Value} {xs:List Value} (h:w.ownsRow base e size v n xs) (hn:0<n):∃ g cap,v=.slice (some ⟨g,0,none⟩) n cap:=by
  rcases h.2 with ⟨h,rfl⟩ | ⟨g,cap,_,h,_⟩
  · omega
  · exact ⟨_,_,h⟩
theorem sl_keepsB {w w':World} {X:Nat→Prop} {k:IntKind} {v:Value} {xs:List Nat} (h:Sl w k v xs) (hk:KeepsB w w' X) (hx:∀ g,v.ownBlock=some g→g<w.heap.size→X g):Sl w' k v xs:=by
  obtain ⟨ao,cap,rfl,h1,h2,h3,h4,h5⟩:=h
  refine ⟨ao,cap,rfl,h1,h2,h3,h4,fun hp=>?_⟩
  obtain ⟨b,off,rfl,hlt,hc⟩:=h5 hp
  exact ⟨b,off,rfl,Nat.lt_of_lt_of_le hlt hk.size,fun j hj=>(World.cell?_of_block (hk.block b hlt (hx b rfl hlt))).trans (hc j hj)⟩
theorem sl_row {w:World} {base:Nat} {v:Value} {xs:List Nat} (h:w.ownsRow base 37 1 v xs.length (cellsOf .u64 xs)) (hl:xs.length≤16777216):Sl w .u64 v xs:=by
  rcases h.2 with ⟨rfl,h0⟩ | ⟨g,cap,cur,rfl,hb,hh,h1,h2,h3,h4⟩
  · obtain rfl:=List.eq_nil_of_length_eq_zero h0
    exact ⟨none,0,rfl,by simp,by unfold maxLen; omega,by simp,fun _=>rfl,fun h=>by simp at h⟩
  · refine ⟨_,cap,rfl,h1,h2,hl,fun e=>(by cases e),fun hp=>⟨g,0,rfl,(Array.getElem?_eq_some_iff.1 hh).1,fun j hj=>?_⟩⟩
    rw [Nat.zero_add,World.ownsRow.cellAt h j (by omega),cellsOf_get _ _ _ hj]
def ipCells (l:List Int):List Value:=l.map (Value.int .i64)
theorem ip_len (l:List Int):(ipCells l).length=l.length:=List.length_map _
theorem ip_at {l:List Int} {j:Nat} {p:Int} (h:l[j]?=some p):(ipCells l)[j]?=some (.int .i64 p):=by unfold ipCells; rw [List.getElem?_map,h]; rfl
theorem info_ib:(Tryz.prog.info? 3).map (fun i=>(i.zero,i.size,i.bytes))=some (some (.int .i64 0),1,8):=by kernel_rfl
theorem pal_row {w:World} {base:Nat} {v:Value} {l:List Int} (h:w.ownsRow base 3 1 v l.length (ipCells l)):PaL w v l:=by
  obtain ⟨ao,cap,rfl⟩:=own_lenB h
  refine ⟨ao,cap,rfl,fun hne=>?_⟩
  obtain ⟨g,cap',e⟩:=own_someB h (List.length_pos_iff.2 hne)
  simp only [Value.slice.injEq,true_and] at e
  obtain ⟨rfl,rfl⟩:=e
  refine ⟨g,0,rfl,(h.lt g rfl).2,fun i p hp=>?_⟩
  have hi:i<l.length:=(List.getElem?_eq_some_iff.1 hp).1
  rw [Nat.zero_add,World.ownsRow.cellAt h i (by omega),ip_at hp]
theorem append_pal {w:World} {ops:Array Oper} {rest:List Oper} {o:Oper} {a:Act} {Q:Exit→Act→World→Prop} (hgd:o.guard=none) (s x:Operand)
    (ho:o.op=.call { callee:=.builtin .append,args:=#[s,x],argTypes:=#[23,23] }) (base:Nat) (u:Value) (ys:List Int)
    (hs:a.eval s=.slice none 0 0) (hx:a.eval x=u) (hu:PaL w u ys) (hlen:ys.length≤4194304) (hbase:base≤w.heap.size)
    (h:∀ v' w',w'.ownsRow base 3 1 v' ys.length (ipCells ys)→w.grownBy w' none→wpList Tryz.prog ops Q rest (a.put o.dst v') w'):wpList Tryz.prog ops Q (o :: rest) a w:=by
  obtain ⟨i0,hi,hz0,hz1,hz2⟩:=info_parts info_ib
  obtain ⟨ao,cap,rfl,hc⟩:=hu
  cases ao with
  | none =>
    have h0:ys=[]:=by
      rcases Classical.em (ys=[]) with h0 | h0
      · exact h0
      · obtain ⟨b,off,e,_⟩:=hc h0
        cases e
    subst h0
    refine Lib.wpList_append_run_sl w hgd s x 23 ho _ _ hs hx (run_append_nothing w 23 23 o.type 3 i0 Tryz.underlying23 hi none 0 0 (Nat.le_refl _) _ (Src.ofNil w Tryz.underlying23 cap)) ?_
    exact h _ _ (World.ownsRow_nil _ _ _ _) (World.grownBy.refl _ _)
  | some ad =>
    refine wpList_append_own_at w hgd s x 23 ho base 3 i0 _ 1 8 Tryz.underlying23 hi hz0 hz1 hz2 rfl (by decide) _ _ _ hs (World.ownsRow_nil _ _ _ _) ad ys.length cap (ipCells ys) hx (by rw [ip_len]; omega) ?_ ?_
      (by unfold maxLen; omega) (by omega) hbase ?_
    · intro j y hj
      have hjl:j<ys.length:=by have:=(List.getElem?_eq_some_iff.1 hj).1; rwa [ip_len] at this
      obtain ⟨b,off,e,_,hcc⟩:=hc (fun e=>by rw [e] at hjl; simp at hjl)
      obtain rfl:=Option.some.inj e
      rw [Addr.add_lit,hcc j _ (List.getElem?_eq_getElem hjl)]
      rw [ip_at (List.getElem?_eq_getElem hjl)] at hj
      exact hj
    · intro y hy
      obtain ⟨_,_,rfl⟩:=List.mem_map.1 hy
      rfl
    · intro v' w' h2 h3 _ _
      rw [Nat.zero_add,List.nil_append] at h2
      exact h v' w' h2 h3
theorem append_slN {w:World} {ops:Array Oper} {rest:List Oper} {o:Oper} {a:Act} {Q:Exit→Act→World→Prop} (hgd:o.guard=none) (s x:Operand)
    (ho:o.op=.call { callee:=.builtin .append,args:=#[s,x],argTypes:=#[26,26] }) (u:Value) (ys:List Nat)
    (hs:a.eval s=.slice none 0 0) (hx:a.eval x=u) (hu:Sl w .u64 u ys) (hlen:ys.length≤16777216)
    (h:∀ v' w',w'.ownsRow w.heap.size 37 1 v' ys.length (cellsOf .u64 ys)→w.grownBy w' none→wpList Tryz.prog ops Q rest (a.put o.dst v') w'):wpList Tryz.prog ops Q (o :: rest) a w:=by
  refine append_sl hgd s x ho w.heap.size _ _ [] ys hs hx (World.ownsRow_nil _ _ _ _) hu (by simp) (Nat.le_refl _) ?_
  intro v' w' h1 h2
  rw [List.nil_append] at h1
  exact h v' w' h1 h2
def bxCells (P:List ((Int × List Nat) × Value)):List Value:=P.flatMap fun p=>[.int .i64 p.1.1,p.2]
theorem bx_app (A B:List ((Int × List Nat) × Value)):bxCells (A++B)=bxCells A++bxCells B:=List.flatMap_append
theorem bx_len (P:List ((Int × List Nat) × Value)):(bxCells P).length=P.length*2:=by
  induction P with
  | nil=>rfl
  | cons x S ih=>rw [bxCells,List.flatMap_cons,List.length_append,← bxCells,ih]; simp; omega
theorem bx_at {P:List ((Int × List Nat) × Value)} {i:Nat} {p:(Int × List Nat) × Value} (h:P[i]?=some p):(bxCells P)[i*2]?=some (.int .i64 p.1.1)∧(bxCells P)[i*2+1]?=some p.2:=by
  obtain ⟨hi,rfl⟩:=List.getElem?_eq_some_iff.1 h
  have e:P=P.take i++P[i] :: P.drop (i+1):=by rw [← List.drop_eq_getElem_cons hi,List.take_append_drop]
  have hl:(bxCells (P.take i)).length=i*2:=by rw [bx_len,List.length_take]; omega
  have e2:bxCells P=bxCells (P.take i)++([.int .i64 P[i].1.1,P[i].2]++bxCells (P.drop (i+1))):=by
    conv=>lhs; rw [e]
    rw [bx_app]; rfl
  rw [e2]
  constructor
  · rw [List.getElem?_append_right (by omega),hl,Nat.sub_self]; rfl
  · rw [List.getElem?_append_right (by omega),hl,Nat.add_sub_cancel_left]; rfl
structure BxO (w:World) (B:Nat) (lv:Value) (P:List ((Int × List Nat) × Value)):Prop where
  row:w.ownsRow B 28 2 lv P.length (bxCells P)
  sl:∀ p∈P,Sl w .u64 p.2 p.1.2∧Lim B64 p.1.2∧p.1.2.length≤4000000
  apart:∀ p∈P,∀ b,p.2.ownBlock=some b→B≤b∧b<w.heap.size∧lv.ownBlock≠some b
theorem BxO.nil (w:World) (B:Nat):BxO w B (.slice none 0 0) []:=⟨World.ownsRow_nil _ _ _ _,fun p h=>(by cases h),fun p h=>(by cases h)⟩
theorem BxO.keeps {w w':World} {B:Nat} {X:Nat→Prop} {lv:Value} {P:List ((Int × List Nat) × Value)} (h:BxO w B lv P) (hk:KeepsB w w' X) (hx:∀ b,B≤b→b<w.heap.size→X b):BxO w' B lv P :=
  ⟨own_keepsB h.row hk (fun g hg=>hx g (h.row.lt g hg).1 (h.row.lt g hg).2),fun p hp=>⟨sl_keepsB (h.sl p hp).1 hk (fun g hg hl=>hx g (h.apart p hp g hg).1 hl),(h.sl p hp).2⟩,fun p hp b hb=>⟨(h.apart p hp b hb).1,Nat.lt_of_lt_of_le (h.apart p hp b hb).2.1 hk.size,(h.apart p hp b hb).2.2⟩⟩
theorem BxO.push {w w':World} {B:Nat} {lv lv':Value} {P:List ((Int × List Nat) × Value)} (h:BxO w B lv P) {x:Int} {u:Value} {xs:List Nat} (hu:Sl w .u64 u xs) (hl:Lim B64 xs) (hn:xs.length≤4000000) (hub:∀ b,u.ownBlock=some b→B≤b∧b<w.heap.size∧lv.ownBlock≠some b)
    (ho:w'.ownsRow B 28 2 lv' (P.length+1) (bxCells P++[.int .i64 x,u])) (hk:KeepsB w w' (fun b=>lv.ownBlock≠some b)) (hor:lv'.ownBlock=lv.ownBlock∨∃ g,lv'.ownBlock=some g∧w.heap.size≤g):BxO w' B lv' (P++[((x,xs),u)]):=by
  have ha:∀ p∈P++[((x,xs),u)],∀ b,p.2.ownBlock=some b→B≤b∧b<w.heap.size∧lv.ownBlock≠some b:=fun p hp=>by
    rcases List.mem_append.1 hp with hp | hp
    · exact h.apart p hp
    · obtain rfl:=List.mem_singleton.1 hp
      exact hub
  have hs:∀ p∈P++[((x,xs),u)],Sl w .u64 p.2 p.1.2∧Lim B64 p.1.2∧p.1.2.length≤4000000:=fun p hp=>by
    rcases List.mem_append.1 hp with hp | hp
    · exact h.sl p hp
    · obtain rfl:=List.mem_singleton.1 hp
      exact ⟨hu,hl,hn⟩
  refine ⟨?_,fun p hp=>⟨sl_keepsB (hs p hp).1 hk (fun g hg _=>(ha p hp g hg).2.2),(hs p hp).2⟩,fun p hp b hb=>⟨(ha p hp b hb).1,Nat.lt_of_lt_of_le (ha p hp b hb).2.1 hk.size, ?_⟩⟩
  · rw [List.length_append,bx_app]; exact ho
  · rcases hor with e | ⟨g,e,hg⟩
    · rw [e]; exact (ha p hp b hb).2.2
    · rw [e]
      have:=(ha p hp b hb).2.1
      intro e2
      obtain rfl:=Option.some.inj e2
      omega
theorem BxO.bvlx {w:World} {B:Nat} {lv:Value} {P:List ((Int × List Nat) × Value)} (h:BxO w B lv P):BvLX w lv (P.map Prod.fst):=by
  obtain ⟨ao,cap,rfl⟩:=own_lenB h.row
  refine ⟨ao,cap,by rw [List.length_map],fun hne=>?_⟩
  have hp:0<P.length:=List.length_pos_iff.2 (fun e=>hne (by rw [e]; rfl))
  obtain ⟨g,cap',e⟩:=own_someB h.row hp
  simp only [Value.slice.injEq,true_and] at e
  obtain ⟨rfl,rfl⟩:=e
  refine ⟨g,0,rfl,(h.row.lt g rfl).2,fun i p hi=>?_⟩
  rw [List.getElem?_map] at hi
  obtain ⟨q,hq,rfl⟩:=Option.map_eq_some_iff.1 hi
  have hlt:i<P.length:=(List.getElem?_eq_some_iff.1 hq).1
  obtain ⟨a0,a1⟩:=bx_at hq
  refine ⟨q.2, ?_, ?_,h.sl q (List.mem_of_getElem? hq)⟩
  · rw [Nat.zero_add,World.ownsRow.cellAt h.row _ (by omega),a0]
  · rw [Nat.zero_add,World.ownsRow.cellAt h.row _ (by omega),a1]
theorem info_bb:(Tryz.prog.info? 28).map (fun i=>(i.zero,i.size,i.bytes))=some (some (.agg #[.int .i64 0,.slice none 0 0]),2,32):=by kernel_rfl
theorem append_bx {w:World} {ops:Array Oper} {rest:List Oper} {o:Oper} {a:Act} {Q:Exit→Act→World→Prop} (hgd:o.guard=none) (s x:Operand)
    (ho:o.op=.call { callee:=.builtin .append,args:=#[s,x],argTypes:=#[24,24] }) (base:Nat) (v:Value) (n:Nat) (xs:List Value) (b cap:Nat) (k:Int) (u:Value) (hu':u.oneCell'=true)
    (hs:a.eval s=v) (hx:a.eval x=.slice (some ⟨b,0,none⟩) 1 cap) (hown:w.ownsRow base 28 2 v n xs) (hu:w.heap[b]?=some (.cells #[.int .i64 k,u] 28 (0,0))) (hlen:n≤1048576) (hbase:base≤w.heap.size)
    (h:∀ v' w',w'.ownsRow base 28 2 v' (n+1) (xs++[.int .i64 k,u])→w.grownBy w' v.ownBlock→(v'.ownBlock=v.ownBlock∨v'.ownBlock=some w.heap.size)→wpList Tryz.prog ops Q rest (a.put o.dst v') w'):wpList Tryz.prog ops Q (o :: rest) a w:=by
  obtain ⟨i0,hi,hz0,hz1,hz2⟩:=info_parts info_bb
  obtain ⟨c0,c1,_⟩:=blk2 hu
  refine wpList_append_own_at w hgd s x 24 ho base 28 i0 _ 2 32 Tryz.underlying24 hi hz0 hz1 hz2 rfl (by decide) v _ _ hs hown ⟨b,0,none⟩ 1 cap [.int .i64 k,u] hx rfl ?_ ?_
      (by unfold maxLen; omega) (by omega) hbase ?_
  · intro j y hj
    match j,hj with
    | 0,hj=>obtain rfl:=Option.some.inj hj; rw [Addr.add_lit]; exact c0
    | 1,hj=>obtain rfl:=Option.some.inj hj; rw [Addr.add_lit]; exact c1
    | j+2,hj=>simp at hj
  · intro y hy
    simp at hy
    rcases hy with rfl | rfl<;>first | rfl | exact hu'
  · intro v' w' h2 h3 _ h5
    exact h v' w' h2 h3 h5
def PenX (w0:World) (hi:Nat) (wr:World) (a:Option Addr) (k:Nat):Prop:=Below w0.heap.size w0 wr∧(k=0∨∃ g cur e,a=some ⟨g,0,none⟩∧w0.heap.size≤g∧g<hi∧wr.heap[g]?=some (.cells cur e (0,0))∧k≤cur.size)
theorem PenX.below {w0 wr w':World} {hi:Nat} {a:Option Addr} {k:Nat} (h:PenX w0 hi wr a k) (hb:Below wr.heap.size wr w'):PenX w0 hi w' a k:=by
  refine ⟨below_of h.1 hb, ?_⟩
  rcases h.2 with h | ⟨g,cur,e,h0,h1,h2,h3,h4⟩
  · exact .inl h
  · exact .inr ⟨g,cur,e,h0,h1,h2,(hb.block g (Array.getElem?_eq_some_iff.1 h3).1).trans h3,h4⟩
theorem penx_of {w0 w1:World} {a:Option Addr} {k c n:Nat} (h:k=0∨Ow w1 w0.heap.size (.slice a k c) n) (hb:Below w0.heap.size w0 w1):PenX w0 w1.heap.size w1 a k:=by
  refine ⟨hb, ?_⟩
  rcases h with h | h | ⟨g,cap,cur,xs,h0,h1,h2,h3,h4,h5,-⟩
  · exact .inl h
  · simp only [Value.slice.injEq] at h; exact .inl h.1.2.1
  · simp only [Value.slice.injEq] at h0
    obtain ⟨rfl,rfl,rfl⟩:=h0
    exact .inr ⟨g,cur,_,rfl,h2,(Array.getElem?_eq_some_iff.1 h1).1,h1,h5⟩
theorem PenX.at {w0 wr:World} {hi:Nat} {a:Option Addr} {k j:Nat} (h:PenX w0 hi wr a k) (hj:j<k):∃ g u,a=some ⟨g,0,none⟩∧g<hi∧wr.cell? ⟨g,j,none⟩=some u∧wr.frozen? ⟨g,j,none⟩=false∧∀ x,PenX w0 hi (wr.setCell ⟨g,j,none⟩ x) a k:=by
  rcases h.2 with h0 | ⟨g,cur,e,h0,h1,h2,h3,h4⟩
  · omega
  · refine ⟨g,cur[j]'(by omega),h0,h2, ?_,frozen_of_row wr g j _ _ h3,fun x=>⟨h.1.setCell h1 x,.inr ⟨g,_,e,h0,h1,h2,heap_setCell_same wr g j _ _ x h3,by simp; exact h4⟩⟩⟩
    rw [cell_of_row wr g j _ _ (0,0) h3]
    simp [show j<cur.size by omega]
theorem box_set {w:World} {g j R:Nat} {o:Obj} {x:Value} (h:w.heap[R]?=some o) (hne:g<R):(w.setCell ⟨g,j,none⟩ x).heap[R]?=some o:=by
  rw [heap_setCell_other w ⟨g,j,none⟩ R x (show R≠g by omega)]; exact h
theorem slN_len {w:World} {a:Option Addr} {k c n:Nat} (h:SlN w a k c n):k≤16777216:=by
  obtain ⟨xs,rfl,⟨_,_,e,h1,h2,h3,-⟩,-⟩:=h; exact h3
theorem BvLX.one {w:World} {ao:Option Addr} {n cap i:Nat} {L:List (Int × List Nat)} {p:Int × List Nat} (h:BvLX w (.slice ao n cap) L) (hi:L[i]?=some p):∃ b off u,ao=some ⟨b,off,none⟩∧b<w.heap.size∧w.cell? ⟨b,off+i*2,none⟩=some (.int .i64 p.1)∧w.cell? ⟨b,off+i*2+1,none⟩=some u∧Sl w .u64 u p.2∧Lim B64 p.2∧p.2.length≤4000000:=by
  obtain ⟨ao',cap',e,hc⟩:=h
  simp only [Value.slice.injEq] at e
  obtain ⟨rfl,-,-⟩:=e
  obtain ⟨b,off,e,hl,hc⟩:=hc (fun e=>by rw [e] at hi; simp at hi)
  obtain ⟨u,h1⟩:=hc i p hi
  exact ⟨b,off,u,e,hl,h1⟩
theorem PaL.one {w:World} {ao:Option Addr} {n cap i:Nat} {L:List Int} {p:Int} (h:PaL w (.slice ao n cap) L) (hi:L[i]?=some p):∃ b off,ao=some ⟨b,off,none⟩∧b<w.heap.size∧w.cell? ⟨b,off+i,none⟩=some (.int .i64 p):=by
  obtain ⟨ao',cap',e,hc⟩:=h
  simp only [Value.slice.injEq] at e
  obtain ⟨rfl,-,-⟩:=e
  obtain ⟨b,off,e,hl,hc⟩:=hc (fun e=>by rw [e] at hi; simp at hi)
  exact ⟨b,off,e,hl,hc i p hi⟩
theorem BvLX.len {w:World} {ao:Option Addr} {n cap:Nat} {L:List (Int × List Nat)} (h:BvLX w (.slice ao n cap) L):n=L.length:=by
  obtain ⟨ao',cap',e,hc⟩:=h
  simp only [Value.slice.injEq] at e
  exact e.2.1
theorem PaL.len {w:World} {ao:Option Addr} {n cap:Nat} {L:List Int} (h:PaL w (.slice ao n cap) L):n=L.length:=by
  obtain ⟨ao',cap',e,hc⟩:=h
  simp only [Value.slice.injEq] at e
  exact e.2.1
def OwB (w1:World) (L:List (Int × List Nat)) (lv i:Value) (wr:World):Prop:=∃ (k:Nat) (P:List ((Int × List Nat) × Value)),k≤L.length∧i=.int .i64 (k:Int)∧P.map Prod.fst=L.take k∧BxO wr w1.heap.size lv P∧Below w1.heap.size w1 wr
theorem owb_next {w1 wr wa wc:World} {L:List (Int × List Nat)} {lv lv' va:Value} {P:List ((Int × List Nat) × Value)} {k:Nat} {T:TypeId} (hk:k<L.length) (hP:P.map Prod.fst=L.take k) (hPn:P.length=k) (hB:BxO wr w1.heap.size lv P) (hb:Below w1.heap.size w1 wr) (hl:Lim B64 L[k].2) (hn:L[k].2.length≤4000000)
    (hva:wa.ownsRow wr.heap.size 37 1 va L[k].2.length (cellsOf .u64 L[k].2)) (hga:wr.grownBy wa none)
    (ho:wc.ownsRow w1.heap.size 28 2 lv' (k+1) (bxCells P++[.int .i64 L[k].1,va])) (hgc:(wa.alloc (.cells #[.int .i64 L[k].1,va] T)).grownBy wc lv.ownBlock) (hor:lv'.ownBlock=lv.ownBlock∨lv'.ownBlock=some (wa.alloc (.cells #[.int .i64 L[k].1,va] T)).heap.size) :
    OwB w1 L lv' (.int .i64 ((k+1:Nat):Int)) wc:=by
  have K1:KeepsB wr wa (fun _=>True):=(KeepsB.of_grown hga).weak (fun b _ _ e=>by cases e)
  have K2:=KeepsB.alloc wa (.cells #[.int .i64 L[k].1,va] T)
  have K3:=KeepsB.of_grown hgc
  have hsa:wr.heap.size≤wa.heap.size:=K1.size
  have hsb:wa.heap.size≤(wa.alloc (.cells #[.int .i64 L[k].1,va] T)).heap.size:=K2.size
  have hB2:BxO (wa.alloc (.cells #[.int .i64 L[k].1,va] T)) w1.heap.size lv P:=(hB.keeps K1 (fun _ _ _=>trivial)).keeps K2 (fun _ _ _=>trivial)
  have hva2:=own_keepsB hva K2 (fun _ _=>trivial)
  have hlv:=hB.row.lt
  refine ⟨k+1,P++[(L[k],va)],hk,rfl, ?_, ?_, ?_⟩
  · rw [List.map_append,hP,List.map_singleton,List.take_add_one,List.getElem?_eq_getElem hk]; rfl
  · refine hB2.push (x:=L[k].1) (xs:=L[k].2) (sl_row hva2 (by omega)) hl hn (fun b e=>?_) (by rw [hPn]; exact ho) K3 ?_
    · have h1:=hva.lt b e
      have h2:=hb.size
      exact ⟨by omega,by omega,fun e2=>by have:=(hlv b e2).2; omega⟩
    · rcases hor with e | e
      · exact .inl e
      · exact .inr ⟨_,e,Nat.le_refl _⟩
  · have h2:=hb.size
    exact ((hb.trans (K1.below h2 (fun _ _=>trivial))).trans (K2.below (by omega) (fun _ _=>trivial))).trans (K3.below (by omega) (fun b hb' e=>by have:=(hlv b e).1; omega))
end Go.Proofs.YtacbkpenohcgjaaGreat
