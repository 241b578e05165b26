import Derived.Test.YtacbkpenohcgjaaGreatVZB5
import Derived.Test.YtacbkpenohcgjaaGreatVZ3
import Derived.Deep.RegionHeld3
import Derived.Test.YtacbkpenohcgjaaGreatVQB1
set_option linter.unusedVariables false
set_option linter.unusedSimpArgs false
namespace Go.Proofs.YtacbkpenohcgjaaGreat
open Go.RowKit Mth
def NoInt (cs:Array Value):Prop:=∀ (i:Nat) (k:IntKind) (n:Int),cs[i]?≠some (.int k n)
def NotIn (v:Value) (R:Nat):Prop:=∀ (n:Bool) (b off len cap:Nat),v=.agg #[.bool n,.slice (some ⟨b,off,none⟩) len cap]→0<len→b≠R
def ZrN (W w':World) (R:Nat) (T:TypeId) (k:Nat):Prop:=W.grownBy w' (some R)∧∃ cs:Array Value,w'.heap[R]?=some (.cells cs T (0,0))∧cs.size=k∧NoInt cs
theorem ZrN.zr {W w1:World} {R k:Nat} {T:TypeId} (h:ZrN W w1 R T k):Zr W w1 R T k:=by
  obtain ⟨h1,cs,h2,h3,_⟩:=h
  exact ⟨h1,cs,h2,h3⟩
theorem ZrN.drew {W w1:World} {R k:Nat} {T:TypeId} (h:ZrN W w1 R T k):ZrN W w1.drew R T k:=⟨grown_trans' h.1 ⟨rfl,rfl,rfl,Nat.le_refl _,fun _ _ _=>rfl⟩,h.2⟩
theorem ZrN.call {W w1 w2:World} {R k:Nat} {T:TypeId} (hb:Below w1.heap.size w1 w2) (h:ZrN W w1 R T k):ZrN W w2 R T k:=by
  obtain ⟨h1,cs,h2,h3⟩:=h
  exact ⟨grown_trans' h1 (grown_of_below hb _),cs,(hb.block _ (Array.getElem?_eq_some_iff.1 h2).1).trans h2,h3⟩
theorem noint_set {cs:Array Value} {j:Nat} {y:Value} (h:NoInt cs) (hy:∀ k n,y≠.int k n):NoInt (cs.setIfInBounds j y):=by
  intro i k n e
  rw [Array.getElem?_setIfInBounds] at e
  split at e
  · split at e
    · exact hy k n (Option.some.inj e)
    · cases e
  · exact h i k n e
theorem ZrN.set {W w1:World} {R k j:Nat} {T:TypeId} {y:Value} (h:ZrN W w1 R T k) (hy:∀ k n,y≠.int k n):ZrN W (w1.setCell ⟨R,j,none⟩ y) R T k:=by
  obtain ⟨h1,cs,h2,h3,h4⟩:=h
  exact ⟨grown_trans' h1 ⟨rfl,rfl,rfl,by simp,fun i _ hk=>heap_setCell_other w1 ⟨R,j,none⟩ i _ (fun e=>hk (by simp [e]))⟩,_,heap_setCell_same w1 R j _ _ y h2,by simp [h3],noint_set h4 hy⟩
theorem ZrN.cell {W w1:World} {R k b o:Nat} {T:TypeId} {v:Value} (h:ZrN W w1 R T k) (hc:W.cell? ⟨b,o,none⟩=some v) (hne:b≠R):w1.cell? ⟨b,o,none⟩=some v:=h.zr.cell hc hne
theorem Sl.zr {W w1:World} {kd:IntKind} {v:Value} {xs:List Nat} {R k:Nat} {T:TypeId} (h:Sl W kd v xs) (hz:Zr W w1 R T k) (hne:∀ b off cap,v=.slice (some ⟨b,off,none⟩) xs.length cap→0<xs.length→b≠R):Sl w1 kd v xs:=by
  obtain ⟨ao,cap,rfl,h1,h2,h3,h4,h5⟩:=h
  have hsz:W.heap.size≤w1.heap.size:=by obtain ⟨⟨_,_,_,h,_⟩,_⟩:=hz; exact h
  refine ⟨ao,cap,rfl,h1,h2,h3,h4,fun hp=>?_⟩
  obtain ⟨b,off,rfl,hb,hc⟩:=h5 hp
  exact ⟨b,off,rfl,by omega,fun j hj=>hz.cell (hc j hj) (hne b off cap rfl hp)⟩
theorem IntR.zr {W w1:World} {v:Value} {z:Int} {R k:Nat} {T:TypeId} (h:IntR W v z) (hz:Zr W w1 R T k) (hn:NotIn v R):IntR w1 v z:=by
  obtain ⟨⟨u,rfl,ys,h1,h2⟩,n',u',xs,e,h3,h4⟩:=h
  simp only [Value.agg.injEq,Array.mk.injEq,List.cons.injEq,Value.bool.injEq,and_true] at e
  obtain ⟨rfl,rfl⟩:=e
  exact ⟨⟨u,rfl,ys,h1.zr hz (fun b off cap e hp=>hn _ _ _ _ _ (by rw [e]) hp),h2⟩,_,u,xs,rfl,h3.zr hz (fun b off cap e hp=>hn _ _ _ _ _ (by rw [e]) hp),h4⟩
end Go.Proofs.YtacbkpenohcgjaaGreat
namespace Go.Proofs.YtacbkpenohcgjaaGreat
open Go.RowKit Mth
theorem IntR.num {w:World} {n:Bool} {ao:Option Addr} {k c:Nat} {z:Int} (h:IntR w (.agg #[.bool n,.slice ao k c]) z):n=sgn z∧Num w (.slice ao k c) z.natAbs:=by
  obtain ⟨u,e,hn⟩:=h.1
  simp only [Value.agg.injEq,Array.mk.injEq,List.cons.injEq,Value.bool.injEq,and_true] at e
  obtain ⟨rfl,rfl⟩:=e
  exact ⟨rfl,hn⟩
theorem FrV.two {w:World} {b:Bool} {a:Option Addr} {k c:Nat} {a':Option Addr} {k' c':Nat} {x:Int} {d:Nat} (h:FrV w (.agg #[.bool b,.slice a k c,.slice a' k' c']) x d) (hx:x.natAbs<Big) (hd:d<Big) :
    b=sgn x∧IntR w (.agg #[.bool (sgn x),.slice a k c]) x∧IntR w (.agg #[.bool false,.slice a' k' c']) (d:Int):=by
  obtain ⟨a1,k1,c1,a2,k2,c2,e,h1,h2⟩:=h
  simp only [Value.agg.injEq,Array.mk.injEq,List.cons.injEq,Value.bool.injEq,Value.slice.injEq,and_true] at e
  obtain ⟨rfl,⟨rfl,rfl,rfl⟩,rfl,rfl,rfl⟩:=e
  have e1:IntK w (.agg #[.bool (sgn x),.slice a k c]) x:=⟨_,rfl,h1⟩
  have e2:IntK w (.agg #[.bool false,.slice a' k' c']) (d:Int):=⟨_,by rw [sgn_nat],by rw [Int.natAbs_natCast]; exact h2⟩
  exact ⟨rfl,e1.r hx,e2.r (by rw [Int.natAbs_natCast]; exact hd)⟩
end Go.Proofs.YtacbkpenohcgjaaGreat
namespace Go.Proofs.YtacbkpenohcgjaaGreat
open Go.RowKit Mth
end Go.Proofs.YtacbkpenohcgjaaGreat
