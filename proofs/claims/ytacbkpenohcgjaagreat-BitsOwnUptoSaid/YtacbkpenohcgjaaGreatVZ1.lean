import Derived.Test.YtacbkpenohcgjaaGreatVQA
import Derived.Test.YtacbkpenohcgjaaGreatVMA
import Derived.Deep.RegionHeld3
import Derived.StillTailTactics
import Derived.Laws.AppendOwnNone
import Derived.Deep.RegionWith
import Derived.Deep.DeepCutAuto
import Derived.Lib.AppendZeros
set_option linter.unusedVariables false
set_option linter.unusedSimpArgs false
set_option maxHeartbeats 400000
set_option maxRecDepth 100000
namespace Go.Proofs.YtacbkpenohcgjaaGreat
open Go.RowKit Mth
def Ow (w:World) (base:Nat) (v:Value) (n:Nat):Prop :=
  (v=.slice none 0 0∧n=0)∨∃ (g cap:Nat) (cur:Array Value) (xs:List Nat),v=.slice (some ⟨g,0,none⟩) xs.length cap∧w.heap[g]?=some (.cells cur 37 (0,0))∧base≤g∧xs.length≤cap∧cap≤maxLen ∧
    xs.length≤cur.size∧cur.toList.take xs.length=cellsOf .u64 xs∧xs.length≤16777216∧Lim B64 xs∧Top xs∧val B64 xs=n
theorem ow_nil (w:World) (base:Nat):Ow w base (.slice none 0 0) 0:=.inl ⟨rfl,rfl⟩
theorem Ow.below {w w':World} {base n:Nat} {v:Value} (h:Ow w base v n) (hb:Below w.heap.size w w'):Ow w' base v n:=by
  rcases h with h | ⟨g,cap,cur,xs,h0,h1,h2⟩
  · exact .inl h
  · exact .inr ⟨g,cap,cur,xs,h0,(hb.block g (Array.getElem?_eq_some_iff.1 h1).1).trans h1,h2⟩
theorem Ow.mono {w:World} {base base' n:Nat} {v:Value} (h:Ow w base v n) (hb:base'≤base):Ow w base' v n:=by
  rcases h with h | ⟨g,cap,cur,xs,h0,h1,h2,h3⟩
  · exact .inl h
  · exact .inr ⟨g,cap,cur,xs,h0,h1,by omega,h3⟩
theorem Ow.drawn {w:World} {base n:Nat} {v:Value} (h:Ow w base v n) (k:Nat):Ow (w.drewN k) base v n:=h
theorem cur_cell {w:World} {g:Nat} {e:TypeId} {k:IntKind} {cur:Array Value} {xs:List Nat} (h:w.heap[g]?=some (.cells cur e (0,0))) (ht:cur.toList.take xs.length=cellsOf k xs) {j:Nat} (hj:j<xs.length) :
    w.cell? ⟨g,j,none⟩=some (.int k ((xs.getD j 0:Nat):Int)):=by
  rw [cell_of_row w g j cur e (0,0) h]
  have:=cellsOf_get k xs j hj
  rw [← ht,List.getElem?_take,if_pos hj] at this
  simpa using this
theorem Ow.sl {w:World} {base n:Nat} {v:Value} (h:Ow w base v n):∃ xs,Sl w .u64 v xs∧Lim B64 xs∧Top xs∧val B64 xs=n:=by
  rcases h with ⟨rfl,rfl⟩ | ⟨g,cap,cur,xs,rfl,h1,h2,h3,h4,h5,h6,h7,h8,h9,rfl⟩
  · exact ⟨[],sl_nil w _,lim_nil (by have:=B64_pos; omega),rfl,rfl⟩
  · exact ⟨xs,⟨_,cap,rfl,h3,h4,h7,(fun e=>by cases e),fun _=>⟨g,0,rfl,(Array.getElem?_eq_some_iff.1 h1).1,fun j hj=>by rw [Nat.zero_add]; exact cur_cell h1 h6 hj⟩⟩,h8,h9,rfl⟩
theorem Ow.num {w:World} {base n:Nat} {v:Value} (h:Ow w base v n):Num w v n:=h.sl
theorem Ow.far {w:World} {base n R j:Nat} {v x:Value} (h:Ow w base v n) (hR:R<base):Ow (w.setCell ⟨R,j,none⟩ x) base v n:=by
  rcases h with h | ⟨g,cap,cur,xs,h0,h1,h2,h3⟩
  · exact .inl h
  · exact .inr ⟨g,cap,cur,xs,h0,(heap_setCell_other w ⟨R,j,none⟩ g x (by show g≠R; omega)).trans h1,h2,h3⟩
theorem Ow.shape {w:World} {base n:Nat} {v:Value} (h:Ow w base v n):∃ ao k c,v=.slice ao k c:=by
  obtain ⟨xs,h1,_⟩:=h.sl
  obtain ⟨ao,c,rfl⟩:=h1.shape
  exact ⟨_,_,_,rfl⟩
theorem Ow.block {w:World} {base n:Nat} {v:Value} (h:Ow w base v n) (b:Nat) (hb:inBlock v=some b):base≤b∧b<w.heap.size:=by
  rcases h with ⟨rfl,_⟩ | ⟨g,cap,cur,xs,rfl,h1,h2,_⟩
  · cases hb
  · obtain rfl:=Option.some.inj hb
    exact ⟨h2,(Array.getElem?_eq_some_iff.1 h1).1⟩
theorem Own.ow {w:World} {base n:Nat} {v:Value} (h:Own w base v n):Ow w base v n:=by
  rcases h with ⟨rfl,rfl⟩ | ⟨g,len,cap,R,rfl,h1,h2,h3,h4,h5,h6,h7,h8,h9,rfl⟩
  · exact ow_nil w base
  · have hl:(R.take len).length=len:=by rw [List.length_take]; omega
    refine .inr ⟨g,cap,_,R.take len,by rw [hl],h1,h2,by omega,h5,by rw [hl]; simp [cellsOf]; omega, ?_,by omega,lim_take (by have:=B64_pos; omega) h7 _,h8,rfl⟩
    rw [hl]
    simp [cellsOf,List.map_take]
theorem ow_row {w:World} {base:Nat} {v:Value} {xs:List Nat} (h:w.ownsRow base 37 1 v xs.length (cellsOf .u64 xs)) (hl:xs.length≤16777216) (l:Lim B64 xs) (t:Top xs):Ow w base v (val B64 xs):=by
  rcases h.2 with ⟨rfl,h0⟩ | ⟨g,cap,cur,rfl,hb,hg,hnc,hcm,hcs,htake⟩
  · obtain rfl:xs=[]:=List.eq_nil_of_length_eq_zero h0
    exact ow_nil w base
  · rw [Nat.mul_one] at htake hcs
    exact .inr ⟨g,cap,cur,xs,rfl,hg,hb,hnc,hcm,by omega,htake,hl,l,t,rfl⟩
theorem row_ow {w:World} {base g cap:Nat} {xs R:List Nat} (hR:Row w 37 .u64 g R) (hg:base≤g) (ht:R.take xs.length=xs) (hl:xs.length≤R.length) (hc:xs.length≤cap) (hm:cap≤maxLen) (hn:xs.length≤16777216) (l:Lim B64 xs) (t:Top xs):Ow w base (.slice (some ⟨g,0,none⟩) xs.length cap) (val B64 xs):=by
  refine .inr ⟨g,cap,_,xs,rfl,hR,hg,hc,hm,by simp [cellsOf]; exact hl, ?_,hn,l,t,rfl⟩
  have:cellsOf .u64 (R.take xs.length)=cellsOf .u64 xs:=by rw [ht]
  rw [← this]
  simp [cellsOf,List.map_take]
theorem bcell {W w1:World} (hb:Below W.heap.size W w1):(∀ b o,b<W.heap.size→w1.cell? ⟨b,o,none⟩=W.cell? ⟨b,o,none⟩)∧(∀ b o,b<W.heap.size→w1.frozen? ⟨b,o,none⟩=W.frozen? ⟨b,o,none⟩) :=
  ⟨fun b o h=>hb.cell (p:=⟨b,o,none⟩) h,fun b o h=>hb.frozen (p:=⟨b,o,none⟩) h⟩
theorem below_of {w W w1:World} (h:Below w.heap.size w W) (hb:Below W.heap.size W w1):Below w.heap.size w w1:=h.trans (hb.mono h.size)
theorem below_to {w W w1:World} (hb:Below W.heap.size W w1) (h:Below w.heap.size w W):Below w.heap.size w w1:=below_of h hb
theorem cell_to {W w1:World} {b o:Nat} {v:Value} (hb:Below W.heap.size W w1) (hc:W.cell? ⟨b,o,none⟩=some v) (hlt:b<W.heap.size):w1.cell? ⟨b,o,none⟩=some v:=(hb.cell (p:=⟨b,o,none⟩) hlt).trans hc
theorem size_to {W w1:World} {k:Nat} (hb:Below W.heap.size W w1) (h:k<W.heap.size):k<w1.heap.size:=Nat.lt_of_lt_of_le h hb.size
theorem cell_new {W:World} {b o:Nat} {v:Value} {x:Obj} (hc:W.cell? ⟨b,o,none⟩=some v) (hlt:b<W.heap.size):(W.alloc x).cell? ⟨b,o,none⟩=some v:=cell_to ((Below.refl _ _).alloc (Nat.le_refl _) _) hc hlt
theorem blk2 {w:World} {g:Nat} {a b:Value} {T:TypeId} (h:w.heap[g]?=some (.cells #[a,b] T (0,0))) :
    w.cell? ⟨g,0,none⟩=some a∧w.cell? ⟨g,1,none⟩=some b∧w.frozen? ⟨g,0,none⟩=false∧w.frozen? ⟨g,1,none⟩=false∧g<w.heap.size:=by
  refine ⟨?_, ?_,frozen_of_row w g 0 _ _ h,frozen_of_row w g 1 _ _ h,(Array.getElem?_eq_some_iff.1 h).1⟩<;>(rw [cell_of_row w g _ _ _ (0,0) h]; rfl)
theorem alloc1 (w:World) (o1:Obj):∃ W,w.alloc o1=W∧W.heap[w.heap.size]?=some o1∧Below w.heap.size w W∧w.heap.size<W.heap.size :=
  ⟨_,rfl,heap_alloc_new w o1,(Below.refl _ _).alloc (Nat.le_refl _) _,by simp⟩
theorem alloc2 (w:World) (o1 o2:Obj):∃ W,(w.alloc o1).alloc o2=W∧W.heap[w.heap.size]?=some o1∧W.heap[w.heap.size+1]?=some o2∧Below w.heap.size w W∧w.heap.size+1<W.heap.size:=by
  refine ⟨_,rfl, ?_, ?_,((Below.refl _ _).alloc (Nat.le_refl _) _).alloc (by simp) _,by simp⟩
  · have h:=heap_alloc_new w o1
    have hb:Below (w.alloc o1).heap.size (w.alloc o1) ((w.alloc o1).alloc o2):=(Below.refl _ _).alloc (Nat.le_refl _) _
    exact (hb.block _ (by simp)).trans h
  · have h:=heap_alloc_new (w.alloc o1) o2
    rwa [show (w.alloc o1).heap.size=w.heap.size+1 by simp] at h
theorem alloc3 (w:World) (o1 o2 o3:Obj):∃ W,((w.alloc o1).alloc o2).alloc o3=W∧W.heap[w.heap.size]?=some o1∧W.heap[w.heap.size+1]?=some o2∧W.heap[w.heap.size+2]?=some o3∧Below w.heap.size w W∧w.heap.size+2<W.heap.size:=by
  obtain ⟨W,rfl,h1,h2,h3,h4⟩:=alloc2 w o1 o2
  have hb:Below ((w.alloc o1).alloc o2).heap.size ((w.alloc o1).alloc o2) (((w.alloc o1).alloc o2).alloc o3):=(Below.refl _ _).alloc (Nat.le_refl _) _
  refine ⟨_,rfl,(hb.block _ (by omega)).trans h1,(hb.block _ (by omega)).trans h2, ?_,h3.trans (hb.mono h3.size),by simp⟩
  have h:=heap_alloc_new ((w.alloc o1).alloc o2) o3
  rwa [show ((w.alloc o1).alloc o2).heap.size=w.heap.size+2 by simp] at h
def Zr (W w':World) (R:Nat) (T:TypeId) (k:Nat):Prop:=W.grownBy w' (some R)∧∃ cs:Array Value,w'.heap[R]?=some (.cells cs T (0,0))∧cs.size=k
theorem zr_start {W:World} {R:Nat} {T:TypeId} {cs:Array Value} (h:W.heap[R]?=some (.cells cs T (0,0))):Zr W W.drew R T cs.size:=⟨⟨rfl,rfl,rfl,Nat.le_refl _,fun _ _ _=>rfl⟩,cs,h,rfl⟩
theorem Zr.call {W w1 w2:World} {R k:Nat} {T:TypeId} (h:Zr W w1 R T k) (hb:Below w1.heap.size w1 w2):Zr W w2 R T k:=by
  obtain ⟨h1,cs,h2,h3⟩:=h
  exact ⟨grown_trans' h1 (grown_of_below hb _),cs,(hb.block _ (Array.getElem?_eq_some_iff.1 h2).1).trans h2,h3⟩
theorem Zr.set {W w1:World} {R k j:Nat} {T:TypeId} {x:Value} (h:Zr W w1 R T k):Zr W (w1.setCell ⟨R,j,none⟩ x) R T k:=by
  obtain ⟨h1,cs,h2,h3⟩:=h
  exact ⟨grown_trans' h1 ⟨rfl,rfl,rfl,by simp,fun i _ hk=>heap_setCell_other w1 ⟨R,j,none⟩ i _ (fun e=>hk (by simp [e]))⟩,_,heap_setCell_same w1 R j _ _ x h2,by simp [h3]⟩
theorem Zr.cell {W w1:World} {R k b o:Nat} {T:TypeId} {v:Value} (h:Zr W w1 R T k) (hc:W.cell? ⟨b,o,none⟩=some v) (hne:b≠R):w1.cell? ⟨b,o,none⟩=some v:=h.1.cell hc (by simpa using hne)
theorem Zr.below {w W w1:World} {R k:Nat} {T:TypeId} (h:Zr W w1 R T k) (hb:Below w.heap.size w W) (hR:w.heap.size≤R):Below w.heap.size w w1:=below_of_grown hb h.1 hR hb.size
theorem Zr.lt {W w1:World} {R k:Nat} {T:TypeId} (h:Zr W w1 R T k):R<w1.heap.size:=by
  obtain ⟨_,cs,h2,_⟩:=h
  exact (Array.getElem?_eq_some_iff.1 h2).1
theorem Zr.two {W w1:World} {R:Nat} {T:TypeId} (h:Zr W w1 R T 2):∃ a b,w1.cell? ⟨R,0,none⟩=some a∧w1.cell? ⟨R,1,none⟩=some b∧w1.frozen? ⟨R,0,none⟩=false∧w1.frozen? ⟨R,1,none⟩=false∧R<w1.heap.size:=by
  obtain ⟨_,cs,h2,h3⟩:=h
  obtain ⟨l⟩:=cs
  match l,h3 with
  | [a,b],_=>exact ⟨a,b,blk2 h2⟩
def Lm:Nat:=4000000
def HugeN:Nat:=B64 ^ Lm
theorem val_lt_pow {xs:List Nat} {L:Nat} (l:Lim B64 xs) (h:xs.length≤L):val B64 xs<B64 ^ L:=Nat.lt_of_lt_of_le (val_lt l) (Nat.pow_le_pow_right (by have:=B64_pos; omega) h)
theorem pow_pos' (L:Nat):0<B64 ^ L:=Nat.pow_pos (by have:=B64_pos; omega)
theorem len_gen {xs:List Nat} {L m:Nat} (t:Top xs) (h:val B64 xs≤m*B64 ^ L) (hm:m≤16777216):xs.length≤L+1:=by
  refine length_of_val (B:=B64) B64_pos t (L+1) ?_
  rw [Nat.pow_succ,Nat.mul_comm]
  have h1:m*B64 ^ L<B64*B64 ^ L:=Nat.mul_lt_mul_of_pos_right (by unfold B64; omega) (pow_pos' L)
  omega
theorem pow_mono' {m n:Nat} (h:m≤n):B64 ^ m≤B64 ^ n:=Nat.pow_le_pow_right (by have:=B64_pos; omega) h
theorem huge_len {xs:List Nat} (l:Lim B64 xs) (h:xs.length≤Lm):val B64 xs<HugeN:=val_lt_pow (L:=Lm) l h
theorem len_huge {xs:List Nat} {m:Nat} (t:Top xs) (h:val B64 xs≤m*HugeN) (hm:m≤16777216):xs.length≤Lm+1:=len_gen (L:=Lm) t h hm
theorem big_huge:Big≤HugeN:=pow_mono' (m:=maxL) (n:=Lm) (by unfold maxL Lm; omega)
def IntV (w:World) (v:Value) (z:Int):Prop:=∃ (n:Bool) (u:Value) (xs:List Nat),v=.agg #[.bool n,u]∧Sl w .u64 u xs∧Lim B64 xs∧xs.length≤4000000∧z=sg n (val B64 xs)
def IntC (w:World) (base:Nat) (v:Value) (z:Int):Prop:=∃ u,v=.agg #[.bool (sgn z),u]∧Ow w base u z.natAbs
def NuV (w:World) (v:Value) (z:Int):Prop:=∃ u,v=.agg #[u,.bool (sgn z)]∧Num w u z.natAbs
def NuC (w:World) (base:Nat) (v:Value) (z:Int):Prop:=∃ u,v=.agg #[u,.bool (sgn z)]∧Ow w base u z.natAbs
theorem IntV.below {w w':World} {v:Value} {z:Int} (h:IntV w v z) (hb:Below w.heap.size w w'):IntV w' v z:=by
  obtain ⟨n,u,xs,h0,h1,h2⟩:=h; exact ⟨n,u,xs,h0,h1.below hb,h2⟩
theorem IntC.below {w w':World} {base:Nat} {v:Value} {z:Int} (h:IntC w base v z) (hb:Below w.heap.size w w'):IntC w' base v z:=by
  obtain ⟨u,h0,h1⟩:=h; exact ⟨u,h0,h1.below hb⟩
theorem IntC.mono {w:World} {base base':Nat} {v:Value} {z:Int} (h:IntC w base v z) (hb:base'≤base):IntC w base' v z:=by
  obtain ⟨u,h0,h1⟩:=h; exact ⟨u,h0,h1.mono hb⟩
theorem NuV.below {w w':World} {v:Value} {z:Int} (h:NuV w v z) (hb:Below w.heap.size w w'):NuV w' v z:=by
  obtain ⟨u,h0,h1⟩:=h; exact ⟨u,h0,h1.below hb⟩
theorem NuC.below {w w':World} {base:Nat} {v:Value} {z:Int} (h:NuC w base v z) (hb:Below w.heap.size w w'):NuC w' base v z:=by
  obtain ⟨u,h0,h1⟩:=h; exact ⟨u,h0,h1.below hb⟩
theorem NuC.mono {w:World} {base base':Nat} {v:Value} {z:Int} (h:NuC w base v z) (hb:base'≤base):NuC w base' v z:=by
  obtain ⟨u,h0,h1⟩:=h; exact ⟨u,h0,h1.mono hb⟩
theorem NuC.nuV {w:World} {base:Nat} {v:Value} {z:Int} (h:NuC w base v z):NuV w v z:=by
  obtain ⟨u,h0,h1⟩:=h; exact ⟨u,h0,h1.num⟩
theorem IntC.intV {w:World} {base:Nat} {v:Value} {z:Int} (h:IntC w base v z) (hz:z.natAbs<Big):IntV w v z:=by
  obtain ⟨u,rfl,h1⟩:=h
  obtain ⟨xs,s,l,t,e⟩:=h1.sl
  refine ⟨_,u,xs,rfl,s,l, ?_,by rw [e,sg_sgn]⟩
  have:=length_of_val B64_pos t maxL (by rw [e]; exact hz)
  unfold maxL at this; omega
theorem IntV.shape {w:World} {v:Value} {z:Int} (h:IntV w v z):∃ n ao k c,v=.agg #[.bool n,.slice ao k c]:=by
  obtain ⟨n,u,xs,rfl,h1,_⟩:=h
  obtain ⟨ao,c,rfl⟩:=h1.shape
  exact ⟨_,_,_,_,rfl⟩
theorem IntC.shape {w:World} {base:Nat} {v:Value} {z:Int} (h:IntC w base v z):∃ n ao k c,v=.agg #[.bool n,.slice ao k c]:=by
  obtain ⟨u,rfl,h1⟩:=h
  obtain ⟨xs,h2,_⟩:=h1.sl
  obtain ⟨ao,c,rfl⟩:=h2.shape
  exact ⟨_,_,_,_,rfl⟩
theorem IntC.far {w:World} {base R j:Nat} {v x:Value} {z:Int} (h:IntC w base v z) (hR:R<base):IntC (w.setCell ⟨R,j,none⟩ x) base v z:=by
  obtain ⟨u,h0,h1⟩:=h; exact ⟨u,h0,h1.far hR⟩
theorem NuV.hold {w:World} {v:Value} {z:Int} (h:NuV w v z):z≠0→∀ u b k,v=.agg #[u,b]→inBlock u=some k→k<w.heap.size:=by
  intro hz u b k e hk
  obtain ⟨u',e',xs,hs,_,_,hv⟩:=h
  rw [e'] at e
  simp only [Value.agg.injEq,Array.mk.injEq,List.cons.injEq] at e
  obtain ⟨rfl,_⟩:=e
  obtain ⟨b',o',c',e1,_,_,hlt,_⟩:=hs.pos (by
    rcases Nat.eq_zero_or_pos xs.length with h0 | h0
    · have:xs=[]:=List.eq_nil_of_length_eq_zero h0
      subst this
      have:(0:Nat)=z.natAbs:=hv
      omega
    · exact h0)
  rw [e1] at hk
  have e2:b'=k:=Option.some.inj hk
  omega
theorem NuC.far {w:World} {base R j:Nat} {v x:Value} {z:Int} (h:NuC w base v z) (hR:R<base):NuC (w.setCell ⟨R,j,none⟩ x) base v z:=by
  obtain ⟨u,h0,h1⟩:=h; exact ⟨u,h0,h1.far hR⟩
theorem NuC.shape {w:World} {base:Nat} {v:Value} {z:Int} (h:NuC w base v z):∃ ao k c n,v=.agg #[.slice ao k c,.bool n]:=by
  obtain ⟨u,rfl,h1⟩:=h
  obtain ⟨ao,k,c,rfl⟩:=h1.shape
  exact ⟨_,_,_,_,rfl⟩
theorem NuV.shape {w:World} {v:Value} {z:Int} (h:NuV w v z):∃ ao k c n,v=.agg #[.slice ao k c,.bool n]:=by
  obtain ⟨u,rfl,h1⟩:=h
  obtain ⟨xs,h2,_⟩:=h1
  obtain ⟨ao,c,rfl⟩:=h2.shape
  exact ⟨_,_,_,_,rfl⟩
end Go.Proofs.YtacbkpenohcgjaaGreat
namespace Go.Proofs.YtacbkpenohcgjaaGreat
open Go.RowKit Mth
theorem wtrim_pos (b off cap:Nat) (xs:List Nat) (w:World) (hl:xs.length≤cap) (hm:cap≤maxLen)
    (hc:∀ j,j<xs.length→w.cell? ⟨b,off+j,none⟩=some (.int .u64 ((xs.getD j 0:Nat):Int))) :
    Calls Tryz.prog 141 #[.slice (some ⟨b,off,none⟩) xs.length cap] w fun e w' =>
      e=.returned (.slice (some ⟨b,off,none⟩) (tlen xs) cap)∧w=w':=by
  unfold maxLen at hm
  go_enter Tryz.func141,Tryz.ntmps141
  go_wp2
  go_loop [3] (fun n=>∃ k:Nat,k≤xs.length∧n=.int .i64 k∧(∀ j,k≤j→xs.getD j 0=0)) (fun n=>(intOf n).toNat)
  case atStart=>exact ⟨xs.length,Nat.le_refl _,rfl,fun j hj=>getD_ge xs j hj⟩
  case round =>
    obtain ⟨k,hk,rfl,hz⟩:=hrel
    by_cases h0:0<k
    · have hc1:=hc (k - 1) (by omega)
      have HZ:=Lib.hid hz
      clear hz hc
      go_wp2
      · have h1:((xs[k - 1]?.getD 0:Nat):Int) == 0:=by assumption
        go_round
        case rel=>exact ⟨k - 1,by omega,by congr 1; omega,fun j hj=>by
          by_cases e:j=k - 1
          · subst e; simp at h1; simpa [List.getD_eq_getElem?_getD] using h1
          · exact HZ.out j (by omega)⟩
        case measure=>simp [intOf]; omega
      · have h1:(((xs[k - 1]?.getD 0:Nat):Int) == 0)=false:=by assumption
        go_ret
        have e:tlen xs=k:=tlen_eq HZ.out (.inr (by simp at h1; simpa [List.getD_eq_getElem?_getD] using h1))
        rw [e]
        exact ⟨rfl,rfl⟩
    · have HZ:=Lib.hid hz
      clear hz hc
      go_wp2
      go_ret
      have e:tlen xs=k:=tlen_eq HZ.out (.inl (by omega))
      rw [e]
      exact ⟨rfl,rfl⟩
theorem wtrim_zero (ao:Option Addr) (cap:Nat) (w:World) (hm:cap≤maxLen) (hn:ao=none→cap=0) :
    Calls Tryz.prog 141 #[.slice ao 0 cap] w fun e w'=>e=.returned (.slice ao 0 cap)∧w=w':=by
  unfold maxLen at hm
  cases ao with
  | none =>
    obtain rfl:=hn rfl
    go_enter Tryz.func141,Tryz.ntmps141
    go_wp2
    refine wp_loop_rounds 1 ?_
    rw [rounds_succ]
    go_wp2
    go_ret
    exact ⟨rfl,rfl⟩
  | some a =>
    clear hn
    go_enter Tryz.func141,Tryz.ntmps141
    go_wp2
    refine wp_loop_rounds 1 ?_
    rw [rounds_succ]
    go_wp2
    go_ret
    exact ⟨rfl,rfl⟩
theorem wtrim_eq {ao:Option Addr} {n cap:Nat} {xs:List Nat} {w:World} (h:Sl w .u64 (.slice ao n cap) xs) :
    Calls Tryz.prog 141 #[.slice ao n cap] w fun e w'=>e=.returned (.slice ao (tlen xs) cap)∧w'=w:=by
  obtain ⟨ao',cap',e,h1,h2,h3,h4,h5⟩:=h
  simp only [Value.slice.injEq] at e
  obtain ⟨rfl,rfl,rfl⟩:=e
  by_cases hp:0<xs.length
  · obtain ⟨b,off,rfl,hlt,hc⟩:=h5 hp
    exact (wtrim_pos b off cap xs w h1 h2 hc).mono fun e w' ⟨he,hw⟩=>⟨he,hw.symm⟩
  · have:xs=[]:=List.eq_nil_of_length_eq_zero (by omega)
    subst this
    exact (wtrim_zero ao cap w h2 h4).mono fun e w' ⟨he,hw⟩=>⟨he,hw.symm⟩
theorem limbs_is (ao:Option Addr) (n c:Nat) (w:World):Calls Tryz.prog 143 #[.slice ao n c] w fun e w'=>e=.returned (.slice ao n c)∧w=w':=by
  go_enter Tryz.func143,Tryz.ntmps143
  go_wp2
  go_ret
  exact ⟨rfl,rfl⟩
theorem zero_is (ao:Option Addr) (n c:Nat) (w:World):Calls Tryz.prog 151 #[.slice ao n c] w fun e w'=>e=.returned (.bool ((n:Int) == 0))∧w=w':=by
  go_enter Tryz.func151,Tryz.ntmps151
  go_wp2
  go_ret
  exact ⟨rfl,rfl⟩
theorem long_is (ao:Option Addr) (n c:Nat) (w:World):Calls Tryz.prog 167 #[.slice ao n c] w fun e w'=>e=.returned (.bool (decide ((4096:Int)<(n:Int))))∧w=w':=by
  go_enter Tryz.func167,Tryz.ntmps167
  go_wp2
  go_ret
  exact ⟨rfl,rfl⟩
theorem signed_is (ao:Option Addr) (n c:Nat) (b:Bool) (w:World):Calls Tryz.prog 140 #[.slice ao n c,.bool b] w fun e w'=>e=.returned (.agg #[.slice ao n c,.bool (b&&!((n:Int) == 0))])∧Below w.heap.size w w'∧w'.heap.size=w.heap.size+1:=by
  cases b
  · go_enter Tryz.func140,Tryz.ntmps140
    go_wp2
    refine bodyPost_ret (v:=.agg #[.slice ao n c,.bool false]) ?_ rfl ⟨rfl,((Below.refl _ _).alloc (Nat.le_refl _) _),by simp⟩
    simp [results,Tryz.results140,go_sem]
  · go_enter Tryz.func140,Tryz.ntmps140
    go_wp2_with fail
    refine (zero_is ao n c _).mono ?_
    rintro e w' ⟨rfl,rfl⟩
    go_wp2
    refine bodyPost_ret (v:=.agg #[.slice ao n c,.bool (!((n:Int) == 0))]) ?_ rfl ⟨rfl,((Below.refl _ _).alloc (Nat.le_refl _) _),by simp⟩
    simp [results,Tryz.results140,go_sem]
theorem tlen_zero_iff {xs:List Nat}:tlen xs=0↔val B64 xs=0:=by
  rw [← length_trimL]; exact nil_iff
theorem sgn_top (n:Bool) (xs:List Nat):(n&&!(((tlen xs:Nat):Int) == 0))=sgn (sg n (val B64 xs)):=by
  by_cases h:tlen xs=0
  · rw [tlen_zero_iff.1 h,sgn_sg0,h]; cases n<;>rfl
  · have hv:0<val B64 xs:=Nat.pos_of_ne_zero (fun e=>h (tlen_zero_iff.2 e))
    rw [sgn_sg hv]
    have:(((tlen xs:Nat):Int) == 0)=false:=by rw [beq_eq_false_iff_ne]; omega
    rw [this]; cases n<;>rfl
theorem read_is (n:Bool) (ao:Option Addr) (cap:Nat) (xs:List Nat) (w:World) (hs:Sl w .u64 (.slice ao xs.length cap) xs):Calls Tryz.prog 100 #[.agg #[.bool n,.slice ao xs.length cap]] w fun e w'=>e=.returned (.agg #[.slice ao (tlen xs) cap,.bool (sgn (sg n (val B64 xs)))])∧Below w.heap.size w w'∧w'.heap.size=w.heap.size+3:=by
  have T:Hid (∀ w1,Below w.heap.size w w1→Calls Tryz.prog 141 #[.slice ao xs.length cap] w1 fun e w'=>e=.returned (.slice ao (tlen xs) cap)∧w'=w1):=Lib.hid (fun w1 hb=>wtrim_eq (hs.below hb))
  have E:=Lib.hid (sgn_top n xs)
  clear hs
  go_enter Tryz.func100,Tryz.ntmps100
  go_wp2
  obtain ⟨W,eW,h1,h2,bel,hsz⟩:=alloc2 w (Obj.cells #[Value.bool n,Value.slice ao xs.length cap] 50) (Obj.cells #[Value.slice none 0 0,Value.bool false] 118)
  have HS:Hid (W.heap.size=w.heap.size+2):=Lib.hid (by rw [← eW]; simp)
  rw [eW]
  obtain ⟨c0,c1,f0,f1,_⟩:=blk2 h1
  have H2:=Lib.hid h2
  clear eW h1 h2
  go_still_tail 5,(by kernel_rfl)
  still_call (T.out _ bel.drew)
  repeat still_step
  refine wpStill_nil ?_
  go_wp2_with fail
  refine (signed_is _ _ _ _ _).mono ?_
  rintro e w' ⟨rfl,hb,hz⟩
  have HZ:=Lib.hid hz; clear hz
  have h2:=(hb.block _ hsz).trans H2.out
  obtain ⟨k0,k1,g0,g1,_⟩:=blk2 h2
  rw [E.out]
  go_wp2
  refine bodyPost_ret (v:=.agg #[.slice ao (tlen xs) cap,.bool (sgn (sg n (val B64 xs)))]) ?_ rfl ⟨rfl, ?_, ?_⟩
  · simp [results,Tryz.results100,go_sem, *]
  · exact (((below_of bel.drew hb).setCell (by simp) _).setCell (by simp) _)
  · have e1:=HZ.out
    have e2:=HS.out
    have e3:W.drew.heap.size=W.heap.size:=rfl
    simp
    omega
theorem append_am {w:World} {ops:Array Oper} {rest:List Oper} {o:Oper} {a:Act} {Q:Exit→Act→World→Prop} (hgd:o.guard=none) (s x:Operand)
    (ho:o.op=.call { callee:=.builtin .append,args:=#[s,x],argTypes:=#[116,116] }) (base:Nat) (v u:Value) (xs ys:List Nat)
    (hs:a.eval s=v) (hx:a.eval x=u) (hown:w.ownsRow base 37 1 v xs.length (cellsOf .u64 xs)) (hu:Sl w .u64 u ys) (hlen:xs.length≤16777216) (hbase:base≤w.heap.size)
    (h:∀ v' w',w'.ownsRow base 37 1 v' (xs++ys).length (cellsOf .u64 (xs++ys))→w.grownBy w' v.ownBlock→wpList Tryz.prog ops Q rest (a.put o.dst v') w'):wpList Tryz.prog ops Q (o :: rest) a w:=by
  obtain ⟨i0,hi,hz0,hz1,hz2⟩:=info_parts info_u64
  have hul:=hu.len
  obtain ⟨ao,cap,rfl,_,_,_,h4,h5⟩:=hu
  cases ao with
  | none =>
    obtain rfl:=h4 rfl
    have h0:ys=[]:=by
      rcases Nat.eq_zero_or_pos ys.length with h0 | h0
      · exact List.eq_nil_of_length_eq_zero h0
      · obtain ⟨b,off,e,_⟩:=h5 h0
        cases e
    subst h0
    refine wpList_append_own_none hgd s x 116 ho base 37 i0 1 Tryz.underlying116 hi v _ _ hs hown hx ?_
    refine h v w ?_ (World.grownBy.refl _ _)
    rw [List.append_nil]; exact hown
  | some ad =>
    refine wpList_append_own w hgd s x 116 ho base 37 i0 _ 1 8 Tryz.underlying116 hi hz0 hz1 hz2 rfl (by decide) v _ _ hs hown ad ys.length cap (cellsOf .u64 ys) hx (by rw [length_cellsOf]; omega) ?_ (cells_one _ _)
      (by unfold maxLen; omega) (by omega) hbase ?_
    · intro j u hj
      have hjl:j<ys.length:=by have:=(List.getElem?_eq_some_iff.1 hj).1; rwa [length_cellsOf] at this
      rw [cellsOf_get _ _ _ hjl] at hj
      obtain ⟨b,off,e,_,hc⟩:=h5 (by omega)
      obtain rfl:=Option.some.inj e
      rw [Addr.add_lit,hc j hjl,hj]
    · intro v' w' h2 h3 _
      refine h v' w' ?_ h3
      rw [cellsOf_append,List.length_append]
      exact h2
theorem own_start (w:World) (base:Nat):w.ownsRow base 37 1 (.slice none 0 0) ([]:List Nat).length (cellsOf .u64 []):=World.ownsRow_nil _ _ _ _
theorem wfresh_any (v:Value) (xs:List Nat) (w:World) (hs:Sl w .u64 v xs) (hl:Lim B64 xs) (ht:Top xs):Calls Tryz.prog 168 #[v] w fun e w'=>∃ v',e=.returned v'∧Ow w' w.heap.size v' (val B64 xs)∧w'.ownsRow w.heap.size 37 1 v' xs.length (cellsOf .u64 xs)∧Below w.heap.size w w':=by
  have HS:=Lib.hid hs; have HL:=Lib.hid hl; have HT:=Lib.hid ht
  have hlen:=hs.len
  obtain ⟨ao,cap,rfl⟩:=hs.shape
  clear hs hl ht
  go_enter Tryz.func168,Tryz.ntmps168
  go_wp2_with (refine append_am rfl _ _ rfl w.heap.size _ _ [] xs rfl rfl (own_start w _) HS.out (by simp) (Nat.le_refl _) ?_; intro v' w1 ho hg)
  rw [List.nil_append] at ho
  go_wp2
  go_ret
  exact ⟨_,rfl,ow_row ho hlen HL.out HT.out,ho,below_own (Below.refl _ _) (own_start w _) hg (Nat.le_refl _)⟩
end Go.Proofs.YtacbkpenohcgjaaGreat
namespace Go.Proofs.YtacbkpenohcgjaaGreat
open Go.RowKit Mth
theorem copied_any (v:Value) (z:Int) (w:World) (h:NuV w v z):Calls Tryz.prog 149 #[v] w fun e w'=>∃ v',e=.returned v'∧IntC w' w.heap.size v' z∧Below w.heap.size w w':=by
  obtain ⟨u,rfl,xs,hs,hl,ht,hv⟩:=h
  obtain ⟨ao,cap,rfl⟩:=hs.shape
  have F:Hid (∀ w1,Below w.heap.size w w1→Calls Tryz.prog 168 #[.slice ao xs.length cap] w1 fun e w'=>∃ v',e=.returned v'∧Ow w' w1.heap.size v' z.natAbs∧Below w1.heap.size w1 w') :=
    Lib.hid (fun w1 hb=>(wfresh_any _ xs w1 (hs.below hb) hl ht).mono fun e w' ⟨v',h1,h2,_,h3⟩=>⟨v',h1,by rw [← hv]; exact h2,h3⟩)
  clear hs hl ht hv
  go_enter Tryz.func149,Tryz.ntmps149
  go_wp2
  obtain ⟨W,eW,h1,h2,bel,hsz⟩:=alloc2 w (Obj.cells #[Value.slice ao xs.length cap,Value.bool (sgn z)] 118) (Obj.cells #[Value.bool false,Value.slice none 0 0] 50)
  rw [eW]
  obtain ⟨c0,c1,f0,f1,_⟩:=blk2 h1
  have Z0:=zr_start h2
  clear eW h1 h2
  go_region_held3 (fun w'=>w'.cell? ⟨w.heap.size,0,none⟩=some (.slice ao xs.length cap)∧w'.cell? ⟨w.heap.size,1,none⟩=some (.bool (sgn z))∧Zr W w' (w.heap.size+1) 50 2)
    ((go_split_ands; refine ⟨?_, ?_, ?_⟩<;>first | assumption | go_keep | exact Zr.call (by assumption) (by assumption) | exact Zr.cell (Zr.call (by assumption) (by assumption)) (by assumption) (by omega) | exact Zr.set (Zr.set (by assumption))))
    (first
    | (go_at_call 168; go_split_ands; refine (F.out _ (Zr.below (by assumption) bel (by omega))).mono ?_; rintro e w' ⟨v',rfl,ho,hb⟩; obtain ⟨a2,n2,c2,rfl⟩:=ho.shape)
    | (go_at_call 143; refine (limbs_is _ _ _ _).mono ?_; rintro e w' ⟨rfl,rfl⟩; go_split_ands; obtain ⟨x0,x1,k0,k1,g0,g1,_⟩:=Zr.two (by assumption)))
  go_wp2
  refine bodyPost_ret (v:=.agg #[.bool (sgn z),.slice _ _ _]) ?_ rfl ⟨_,rfl,⟨_,rfl,((Ow.far (Ow.far ‹Ow _ _ _ _› hsz) hsz).mono bel.size)⟩,Zr.below (Zr.set (Zr.set ‹Zr _ _ _ _ _›)) bel (by omega)⟩
  simp [results,Tryz.results149,go_sem, *]
theorem IntV.rd {w:World} {v:Value} {z:Int} (h:IntV w v z):∃ (n:Bool) (ao:Option Addr) (k c t:Nat),v=.agg #[.bool n,.slice ao k c]∧NuV w (.agg #[.slice ao t c,.bool (sgn z)]) z ∧
    ∀ w1,Below w.heap.size w w1→Calls Tryz.prog 100 #[.agg #[.bool n,.slice ao k c]] w1 fun e w'=>e=.returned (.agg #[.slice ao t c,.bool (sgn z)])∧Below w1.heap.size w1 w'∧w'.heap.size=w1.heap.size+3:=by
  obtain ⟨n,u,xs,rfl,hs,hl,hlen,rfl⟩:=h
  obtain ⟨ao,cap,rfl⟩:=hs.shape
  refine ⟨n,ao,_,cap,tlen xs,rfl,⟨_,rfl,by rw [natAbs_sg]; exact num_trim hs.trim hl⟩,fun w1 hb=>?_⟩
  exact read_is n ao cap xs w1 (hs.below hb)
end Go.Proofs.YtacbkpenohcgjaaGreat
namespace Go.Proofs.YtacbkpenohcgjaaGreat
open Go.RowKit Mth
theorem alloc4 (w:World) (o1 o2 o3 o4:Obj):∃ W,(((w.alloc o1).alloc o2).alloc o3).alloc o4=W∧W.heap[w.heap.size]?=some o1∧W.heap[w.heap.size+1]?=some o2∧W.heap[w.heap.size+2]?=some o3∧W.heap[w.heap.size+3]?=some o4∧Below w.heap.size w W∧w.heap.size+3<W.heap.size:=by
  obtain ⟨W,e,h1,h2,h3,h4,h5⟩:=alloc3 w o1 o2 o3
  have hz:W.heap.size=w.heap.size+3:=by rw [← e]; simp
  rw [e]
  have hb:Below W.heap.size W (W.alloc o4):=(Below.refl _ _).alloc (Nat.le_refl _) _
  refine ⟨_,rfl,(hb.block _ (by omega)).trans h1,(hb.block _ (by omega)).trans h2,(hb.block _ (by omega)).trans h3, ?_,h4.trans (hb.mono h4.size),by simp; omega⟩
  have h:=heap_alloc_new W o4
  rwa [hz] at h
theorem wcmp_any (u v:Value) (m n:Nat) (w:World) (h1:Num w u m) (h2:Num w v n) (c:Int) (hc:cmp3 m n=c):Calls Tryz.prog 101 #[u,v] w fun e w'=>e=.returned (.int .i64 c)∧Below w.heap.size w w':=by
  have C:=Lib.hid (cmp_nm h1.nm h2.nm c hc)
  obtain ⟨xs,s1,_⟩:=h1
  obtain ⟨ys,s2,_⟩:=h2
  obtain ⟨a1,c1,rfl⟩:=s1.shape
  obtain ⟨a2,c2,rfl⟩:=s2.shape
  clear s1 s2 hc
  go_enter Tryz.func101,Tryz.ntmps101
  go_wp2_with fail
  refine (limbs_is _ _ _ _).mono ?_
  rintro e w' ⟨rfl,rfl⟩
  go_wp2_with fail
  refine (limbs_is _ _ _ _).mono ?_
  rintro e w' ⟨rfl,rfl⟩
  go_wp2_with fail
  refine C.out.mono ?_
  rintro e w' ⟨rfl,hb⟩
  go_wp2
  go_ret
  exact ⟨rfl,hb⟩
end Go.Proofs.YtacbkpenohcgjaaGreat
namespace Go.Proofs.YtacbkpenohcgjaaGreat
open Go.RowKit Mth
section
variable {P:Program} (w:World)
theorem run_append_room_zeros (t tn ty e:TypeId) (i:TypeInfo) (z:Value) (kn:IntKind) (ht:P.underlying t=some (.slice e)) (htn:P.underlying tn=some (.int kn)) (hi:P.info? e=some i) (hz:i.zero=some z) (hzs:z.cells.size=i.size)
    (hz1:∀ v∈z.cells,v.oneCell'=true) (g sLen sCap:Nat) (cur:Array Value) (hg:w.heap[g]?=some (.cells cur e (0,0))) (n:Nat) (h0:0<n) (hs:0<i.size) (h63:(n:Int)≤9223372036854775807) (h48:n*i.bytes≤281474976710656)
    (hroom:sLen+n≤sCap) (hfit:sLen*i.size+n*i.size≤cur.size) :
    (Builtin.append_ #[t,tn] ty #[.slice (some ⟨g,0,none⟩) sLen sCap,.int .i64 n]).run P w =
      .ok (.slice (some ⟨g,0,none⟩) (sLen+n) sCap) (w.setRow g (cur.toList.take (sLen*i.size)++(Builtin.zeroCells z.cells n).toList++cur.toList.drop (sLen*i.size+(Builtin.zeroCells z.cells n).toList.length)).toArray):=by
  have hn:n≠0:=by omega
  have hw:IntKind.i64.wrap (n:Int)=n:=by rw [IntKind.wrap_i64]; omega
  have h48i:¬ (281474976710656<(n:Int)*(i.bytes:Int)):=by
    rw [← Int.natCast_mul]
    omega
  have hneg:¬ ((n:Int)<0):=by omega
  have hns:¬ (n*i.size=0):=Nat.mul_ne_zero hn (by omega)
  have hl:(Builtin.zeroCells z.cells n).toList.length=n*i.size:=by rw [Array.length_toList,size_zeroCells,hzs]
  have hst:=run_storeCells_at P g (sLen*i.size) e (Builtin.zeroCells z.cells n).toList 0 cur w hg (by rw [hl]; omega) (by
    intro v hv
    simp only [Builtin.zeroCells,Array.toList_map,List.mem_map] at hv
    obtain ⟨j,_,rfl⟩:=hv
    refine hz1 _ ?_
    have hlt:j % z.cells.size<z.cells.size:=Nat.mod_lt _ (by omega)
    rw [getElem!_pos z.cells _ hlt]
    exact Array.getElem_mem hlt)
  simp only [Nat.add_zero] at hst
  simp [Builtin.append_,run_underlying ht,run_underlying htn,sizeOf,typeInfo,zeroValue,hi,hz,asInt,asIntOf,hw,hn,hneg,hns,h48i,hroom,Addr.add_lit,hst]
theorem run_append_grow_zeros (t tn ty e:TypeId) (i:TypeInfo) (z:Value) (kn:IntKind) (ht:P.underlying t=some (.slice e)) (htn:P.underlying tn=some (.int kn)) (hi:P.info? e=some i) (hz:i.zero=some z)
    (b:Addr) (sLen sCap:Nat) (olds:List Value) (hlo:olds.length=sLen*i.size) (holds:∀ j v,olds[j]?=some v→w.cell? (b.add j)=some v) (n:Nat) (h0:0<n) (hs:0<i.size)
    (hg:sCap<sLen+n) (h63:((sLen+n:Nat):Int)≤9223372036854775807) (h48:n*i.bytes≤281474976710656) (hfit:Builtin.nextslicecap (sLen+n) sCap*i.bytes≤281474976710656) :
    (Builtin.append_ #[t,tn] ty #[.slice (some b) sLen sCap,.int .i64 n]).run P w =
      .ok (.slice (some ⟨w.heap.size,0,none⟩) (sLen+n) (grownCap w (sLen+n) sCap e))
        (w.drew.alloc (.cells (olds.toArray++Builtin.zeroCells z.cells n++Builtin.zeroCells z.cells (grownCap w (sLen+n) sCap e - (sLen+n))) e)):=by
  have hn:n≠0:=by omega
  have hw:IntKind.i64.wrap (n:Int)=n:=by rw [IntKind.wrap_i64]; omega
  have hnr:¬ (sLen+n≤sCap):=by omega
  have h63':¬ (9223372036854775807<((sLen:Int)+(n:Int))):=by omega
  have h48':¬ (281474976710656<Builtin.nextslicecap (sLen+n) sCap*i.bytes):=by omega
  have h48i:¬ (281474976710656<(n:Int)*(i.bytes:Int)):=by
    rw [← Int.natCast_mul]
    omega
  have hneg:¬ ((n:Int)<0):=by omega
  have hns:¬ (n*i.size=0):=Nat.mul_ne_zero hn (by omega)
  have hfo:=run_firstCells_some (P:=P) w.drew i.size sLen b sLen sCap olds hlo (by simpa using holds)
  simp [Builtin.append_,run_underlying ht,run_underlying htn,sizeOf,typeInfo,zeroValue,hi,hz,asInt,asIntOf,hw,hn,hneg,hns,h48i,hnr,h63',h48',Question.forced,hfo,newRow,grownCap]
end
theorem zero_cells (n:Nat):(Builtin.zeroCells (Value.int .u64 0).cells n).toList=cellsOf .u64 (List.replicate n 0):=by
  apply List.ext_getElem
  · simp [Builtin.zeroCells,cellsOf,Value.cells]
  · intro i h1 h2
    simp [Builtin.zeroCells,cellsOf,Value.cells]
    have:i % 1=0:=Nat.mod_one i
    simp [this]
theorem grown_zeros {w:World} {xs:List Nat} {old n base:Nat} (hx:xs.length+n≤16777217) (hbase:base≤w.heap.size) :
    (w.drew.alloc (.cells ((cellsOf .u64 xs).toArray++Builtin.zeroCells (Value.int .u64 0).cells n++Builtin.zeroCells (Value.int .u64 0).cells (grownCap w (xs.length+n) old 37 - (xs.length+n))) 37)).ownsRow base 37 1
      (.slice (some ⟨w.heap.size,0,none⟩) (xs.length+n) (grownCap w (xs.length+n) old 37)) (xs++List.replicate n 0).length (cellsOf .u64 (xs++List.replicate n 0)) ∧
    ∀ row,w.grownBy (w.drew.alloc (.cells ((cellsOf .u64 xs).toArray++Builtin.zeroCells (Value.int .u64 0).cells n++Builtin.zeroCells (Value.int .u64 0).cells (grownCap w (xs.length+n) old 37 - (xs.length+n))) 37)) row:=by
  have hge:=grownCap_ge w (xs.length+n) old 37
  have hcm:=grownCap_le_maxLen w (xs.length+n) old 37 (by unfold maxLen; omega)
  have hl:(xs++List.replicate n 0).length=xs.length+n:=by simp
  refine ⟨⟨by rw [length_cellsOf,Nat.mul_one],.inr ⟨w.heap.size,_,_,by rw [hl],hbase,heap_alloc_new w.drew _,by rw [hl]; exact hge,hcm, ?_, ?_⟩⟩,fun row=>⟨rfl,rfl,rfl,by simp,fun k hk _=>heap_alloc_old w.drew _ hk⟩⟩
  · simp only [Array.size_append,List.size_toArray,size_zeroCells,length_cellsOf,Value.cells]
    simp
    omega
  · simp only [Array.toList_append,zero_cells,cellsOf_append,List.append_assoc]
    rw [← List.append_assoc,← cellsOf_append]
    have e:(xs++List.replicate n 0).length*1=(cellsOf .u64 (xs++List.replicate n 0)).length:=by rw [length_cellsOf,Nat.mul_one]
    rw [e]
    exact List.take_left
theorem append_zeros {w:World} {ops:Array Oper} {rest:List Oper} {o:Oper} {a:Act} {Q:Exit→Act→World→Prop} (hgd:o.guard=none) (s x:Operand)
    (ho:o.op=.call { callee:=.builtin .append,args:=#[s,x],argTypes:=#[116,3] }) (base:Nat) (v:Value) (xs:List Nat) (n:Nat)
    (hs:a.eval s=v) (hx:a.eval x=.int .i64 (n:Int)) (hown:w.ownsRow base 37 1 v xs.length (cellsOf .u64 xs)) (h0:0<n) (hlen:xs.length+n≤16777217) (hbase:base≤w.heap.size)
    (h:∀ v' w',w'.ownsRow base 37 1 v' (xs++List.replicate n 0).length (cellsOf .u64 (xs++List.replicate n 0))→w.grownBy w' v.ownBlock→(v'.ownBlock=v.ownBlock∨v'.ownBlock=some w.heap.size)→wpList Tryz.prog ops Q rest (a.put o.dst v') w'):wpList Tryz.prog ops Q (o :: rest) a w:=by
  obtain ⟨i0,hi,hz0,hz1,hz2⟩:=info_parts info_u64
  have hl:(xs++List.replicate n 0).length=xs.length+n:=by simp
  rcases hown.2 with ⟨rfl,h1⟩ | ⟨g,cap,cur,rfl,hbg,hg,hnc,hcm,hcs,htake⟩
  · obtain rfl:xs=[]:=List.eq_nil_of_length_eq_zero h1
    have hr:=Lib.run_append_nil_zeros (P:=Tryz.prog) w 116 3 o.type 37 i0 _ .i64 .i64 Tryz.underlying116 Tryz.underlying3 hi hz0 n h0 (by omega) (by omega) (by rw [hz2]; omega)
    refine Lib.wpList_append_run w hgd s x _ _ ho _ _ hs hx _ _ hr ?_
    have hgr:=grown_zeros (w:=w) (xs:=[]) (old:=0) (n:=n) (base:=base) (by simpa using hlen) hbase
    simp only [List.nil_append,cellsOf,List.map_nil,List.length_nil,Nat.zero_add,Array.empty_append,List.length_replicate] at hgr
    refine h _ _ ?_ (hgr.2 _) (.inr rfl)
    simp only [List.nil_append,cellsOf,List.length_replicate]
    exact hgr.1
  · by_cases hroom:xs.length+n≤cap
    · have hr:=run_append_room_zeros (P:=Tryz.prog) w 116 3 o.type 37 i0 _ .i64 Tryz.underlying116 Tryz.underlying3 hi hz0 (by rw [hz1]; rfl) (by intro v hv; simp [Value.cells] at hv; subst hv; rfl) g xs.length cap cur hg n h0 (by omega) (by omega) (by rw [hz2]; omega) hroom (by rw [hz1]; omega)
      refine Lib.wpList_append_run w hgd s x _ _ ho _ _ hs hx _ _ hr ?_
      rw [zero_cells,hz1]
      refine h _ _ ⟨by rw [length_cellsOf,Nat.mul_one],.inr ⟨g,cap,_,by rw [hl],hbg,setRow_heap w g cur _ 37 _ hg,by rw [hl]; exact hroom,hcm, ?_, ?_⟩⟩ ⟨rfl,rfl,rfl,by simp,fun k _ hk=>setRow_other w g k _ (fun e=>hk (by simp [Value.ownBlock,e]))⟩ (.inl rfl)
      · simp only [List.size_toArray,List.length_append,List.length_take,List.length_drop,Array.length_toList,length_cellsOf,List.length_replicate]
        omega
      · rw [htake,cellsOf_append,hl]
        have e:(xs.length+n)*1=(cellsOf .u64 xs++cellsOf .u64 (List.replicate n 0)).length:=by rw [List.length_append,length_cellsOf,length_cellsOf,List.length_replicate,Nat.mul_one]
        rw [e]
        exact List.take_left
    · have holds:∀ j u,(cellsOf .u64 xs)[j]?=some u→w.cell? ((⟨g,0,none⟩:Addr).add j)=some u:=hown.cells (g:=g) rfl
      have hr:=run_append_grow_zeros (P:=Tryz.prog) w 116 3 o.type 37 i0 _ .i64 Tryz.underlying116 Tryz.underlying3 hi hz0 ⟨g,0,none⟩ xs.length cap (cellsOf .u64 xs) (by rw [length_cellsOf,hz1,Nat.mul_one]) holds n h0 (by omega) (by omega) (by omega) (by rw [hz2]; omega) (by rw [hz2]; exact growslice_fits (by omega) (by omega))
      refine Lib.wpList_append_run w hgd s x _ _ ho _ _ hs hx _ _ hr ?_
      have hgr:=grown_zeros (w:=w) (xs:=xs) (old:=cap) (n:=n) (base:=base) hlen hbase
      exact h _ _ hgr.1 (hgr.2 _) (.inr rfl)
def Mid (w:World) (g:Nat) (pre:List Value) (xs:List Nat) (post:List Value):Prop:=w.heap[g]?=some (.cells (pre++cellsOf .u64 xs++post).toArray 37 (0,0))
theorem Mid.cell {w:World} {g:Nat} {pre post:List Value} {xs:List Nat} (h:Mid w g pre xs post) {j:Nat} (hj:j<xs.length):w.cell? ⟨g,pre.length+j,none⟩=some (.int .u64 ((xs.getD j 0:Nat):Int)):=by
  rw [cell_of_row w g _ _ _ (0,0) h]
  have h1:=cellsOf_get .u64 xs j hj
  simp only [List.getElem?_toArray,List.append_assoc]
  rw [List.getElem?_append_right (by omega),Nat.add_sub_cancel_left,List.getElem?_append_left (by rw [length_cellsOf]; exact hj)]
  exact h1
theorem Mid.free {w:World} {g:Nat} {pre post:List Value} {xs:List Nat} (h:Mid w g pre xs post) (j:Nat):w.frozen? ⟨g,j,none⟩=false:=frozen_of_row w g j _ _ h
theorem Mid.set {w:World} {g:Nat} {pre post:List Value} {xs:List Nat} (h:Mid w g pre xs post) {j:Nat} (hj:j<xs.length) (x:Nat) :
    Mid (w.setCell ⟨g,pre.length+j,none⟩ (.int .u64 ((x:Nat):Int))) g pre (xs.set j x) post∧w.grownBy (w.setCell ⟨g,pre.length+j,none⟩ (.int .u64 ((x:Nat):Int))) (some g):=by
  refine ⟨?_,⟨rfl,rfl,rfl,by simp,fun i _ hk=>heap_setCell_other w ⟨g,_,none⟩ i _ (fun e=>hk (by simp [e]))⟩⟩
  unfold Mid
  rw [heap_setCell_same w g _ _ _ _ h,List.setIfInBounds_toArray]
  congr 3
  rw [List.append_assoc,List.set_append_right _ _ (by omega),Nat.add_sub_cancel_left,List.set_append_left _ _ (by rw [length_cellsOf]; exact hj),cellsOf_set,List.append_assoc]
theorem Mid.lt {w:World} {g:Nat} {pre post:List Value} {xs:List Nat} (h:Mid w g pre xs post):g<w.heap.size:=(Array.getElem?_eq_some_iff.1 h).1
theorem own_mid {w:World} {base g cap:Nat} {xs:List Nat} {post:List Value} (h:Mid w g [] xs post) (hb:base≤g) (hc:xs.length≤cap) (hm:cap≤maxLen) (hs:xs.length+post.length=cap):w.ownsRow base 37 1 (.slice (some ⟨g,0,none⟩) xs.length cap) xs.length (cellsOf .u64 xs):=by
  refine ⟨by rw [length_cellsOf,Nat.mul_one],.inr ⟨g,cap,_,rfl,hb,h,hc,hm,by simp [length_cellsOf]; omega, ?_⟩⟩
  rw [Nat.mul_one,List.nil_append]
  have e:xs.length=(cellsOf .u64 xs).length:=(length_cellsOf _ _).symm
  conv=>lhs; rw [e]
  exact List.take_left
end Go.Proofs.YtacbkpenohcgjaaGreat
