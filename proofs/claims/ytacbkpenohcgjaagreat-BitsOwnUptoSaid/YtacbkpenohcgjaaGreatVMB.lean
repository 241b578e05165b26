import Derived.Test.YtacbkpenohcgjaaGreatRows
import Derived.Test.YtacbkpenohcgjaaGreatVMA
import Derived.WalkKit
import Derived.ProofKit
import Derived.Lib.Hide
import Derived.Outline
import Derived.Laws.Externs
import Derived.Laws.CopyOwn
import Derived.Laws.AppendOwnNone
set_option linter.unusedVariables false
set_option linter.unusedSimpArgs false
set_option maxHeartbeats 400000
namespace Go.Proofs.YtacbkpenohcgjaaGreat
open Go.RowKit Mth
def Sl (w:World) (k:IntKind) (v:Value) (xs:List Nat):Prop :=
  ∃ ao cap,v=.slice ao xs.length cap∧xs.length≤cap∧cap≤maxLen∧xs.length≤16777216∧(ao=none→cap=0) ∧
    (0<xs.length→∃ b off,ao=some ⟨b,off,none⟩∧b<w.heap.size∧∀ j,j<xs.length→w.cell? ⟨b,off+j,none⟩=some (.int k ((xs.getD j 0:Nat):Int)))
theorem Sl.below {w w':World} {k:IntKind} {v:Value} {xs:List Nat} (h:Sl w k v xs) (hb:Below w.heap.size w w'):Sl w' k v xs:=by
  obtain ⟨ao,cap,rfl,h1,h2,h3,h4,h5⟩:=h
  refine ⟨ao,cap,rfl,h1,h2,h3,h4,fun hp=>?_⟩
  obtain ⟨b,off,rfl,hlt,hc⟩:=h5 hp
  exact ⟨b,off,rfl,Nat.lt_of_lt_of_le hlt hb.size,fun j hj=>(hb.cell (p:=⟨b,off+j,none⟩) hlt).trans (hc j hj)⟩
def inBlock:Value→Option Nat
  | .slice (some a) _ _=>some a.block
  | _=>none
theorem Sl.grown {w w':World} {k:IntKind} {v:Value} {xs:List Nat} {row:Option Nat} (h:Sl w k v xs) (hg:w.grownBy w' row) (hn:inBlock v≠row∨xs=[]):Sl w' k v xs:=by
  obtain ⟨ao,cap,rfl,h1,h2,h3,h4,h5⟩:=h
  refine ⟨ao,cap,rfl,h1,h2,h3,h4,fun hp=>?_⟩
  obtain ⟨b,off,rfl,hlt,hc⟩:=h5 hp
  refine ⟨b,off,rfl,Nat.lt_of_lt_of_le hlt hg.size,fun j hj=>hg.cell (hc j hj) ?_⟩
  rcases hn with hn | hn
  · simpa [inBlock] using hn
  · subst hn; simp at hp
theorem Sl.len {w:World} {k:IntKind} {v:Value} {xs:List Nat} (h:Sl w k v xs):xs.length≤16777216:=by
  obtain ⟨ao,cap,rfl,h1,h2,h3,_⟩:=h; exact h3
theorem Sl.pos {w:World} {k:IntKind} {v:Value} {xs:List Nat} (h:Sl w k v xs) (hp:0<xs.length) :
    ∃ b off cap,v=.slice (some ⟨b,off,none⟩) xs.length cap∧xs.length≤cap∧cap≤maxLen∧b<w.heap.size∧∀ j,j<xs.length→w.cell? ⟨b,off+j,none⟩=some (.int k ((xs.getD j 0:Nat):Int)):=by
  obtain ⟨ao,cap,rfl,h1,h2,h3,h4,h5⟩:=h
  obtain ⟨b,off,rfl,hlt,hc⟩:=h5 hp
  exact ⟨b,off,cap,rfl,h1,h2,hlt,hc⟩
theorem Sl.take {w:World} {k:IntKind} {ao:Option Addr} {n cap:Nat} {xs:List Nat} (h:Sl w k (.slice ao n cap) xs) {m:Nat} (hm:m≤n) :
    Sl w k (.slice ao m cap) (xs.take m):=by
  obtain ⟨ao',cap',e,h1,h2,h3,h4,h5⟩:=h
  simp only [Value.slice.injEq] at e
  obtain ⟨rfl,rfl,rfl⟩:=e
  have hl:(xs.take m).length=m:=by rw [List.length_take,Nat.min_eq_left hm]
  refine ⟨ao,cap,by rw [hl],by omega,h2,by omega,h4,fun hp=>?_⟩
  obtain ⟨b,off,rfl,hlt,hc⟩:=h5 (by omega)
  refine ⟨b,off,rfl,hlt,fun j hj=>?_⟩
  rw [getD_take,if_pos (by omega)]
  exact hc j (by omega)
theorem sl_nil (w:World) (k:IntKind):Sl w k (.slice none 0 0) []:=⟨none,0,rfl,Nat.le_refl _,by unfold maxLen; omega,by simp,fun _=>rfl,fun h=>by simp at h⟩
def cellsOf (k:IntKind) (xs:List Nat):List Value:=xs.map fun x=>Value.int k ((x:Nat):Int)
theorem length_cellsOf (k:IntKind) (xs:List Nat):(cellsOf k xs).length=xs.length:=by simp [cellsOf]
theorem cellsOf_append (k:IntKind) (xs ys:List Nat):cellsOf k (xs++ys)=cellsOf k xs++cellsOf k ys:=by simp [cellsOf]
theorem cellsOf_get (k:IntKind) (xs:List Nat) (j:Nat) (h:j<xs.length):(cellsOf k xs)[j]?=some (.int k ((xs.getD j 0:Nat):Int)):=by
  simp [cellsOf,h]
theorem cellsOf_set (k:IntKind) (xs:List Nat) (j x:Nat):(cellsOf k xs).set j (.int k ((x:Nat):Int))=cellsOf k (xs.set j x):=by
  simp [cellsOf,List.map_set]
theorem getD_set (xs:List Nat) (i x j:Nat) (hi:i<xs.length):(xs.set i x).getD j 0=if j=i then x else xs.getD j 0:=by
  simp only [List.getD_eq_getElem?_getD,List.getElem?_set]
  split
  · subst_vars; simp only [if_true,Option.getD_some]
  · rename_i h; rw [if_neg (fun e=>h e.symm)]
theorem sl_own {w:World} {base e:Nat} {k:IntKind} {v:Value} {xs:List Nat} (h:w.ownsRow base e 1 v xs.length (cellsOf k xs)) (hl:xs.length≤16777216):Sl w k v xs:=by
  obtain ⟨_,hh⟩:=h
  rcases hh with ⟨rfl,h0⟩ | ⟨g,cap,cur,rfl,hb,hg,hnc,hcm,hcs,htake⟩
  · have:xs=[]:=List.eq_nil_of_length_eq_zero h0
    subst this; exact sl_nil w k
  · refine ⟨some ⟨g,0,none⟩,cap,rfl,hnc,hcm,hl,fun e=>by simp at e,fun _=>⟨g,0,rfl,(Array.getElem?_eq_some_iff.1 hg).1,fun j hj=>?_⟩⟩
    rw [Nat.zero_add,cell_of_row w g j cur e (0,0) hg]
    have:=cellsOf_get k xs j hj
    rw [← htake,List.getElem?_take,if_pos (by omega)] at this
    simpa using this
def Row (w:World) (e:TypeId) (k:IntKind) (g:Nat) (xs:List Nat):Prop:=w.heap[g]?=some (.cells (cellsOf k xs).toArray e (0,0))
theorem Row.lt {w:World} {e:TypeId} {k:IntKind} {g:Nat} {xs:List Nat} (h:Row w e k g xs):g<w.heap.size:=(Array.getElem?_eq_some_iff.1 h).1
theorem Row.cell {w:World} {e:TypeId} {k:IntKind} {g:Nat} {xs:List Nat} (h:Row w e k g xs) {j:Nat} (hj:j<xs.length) :
    w.cell? ⟨g,j,none⟩=some (.int k ((xs.getD j 0:Nat):Int)):=by
  rw [cell_of_row w g j _ e (0,0) h]
  simpa using cellsOf_get k xs j hj
theorem Row.free {w:World} {e:TypeId} {k:IntKind} {g:Nat} {xs:List Nat} (h:Row w e k g xs) (j:Nat):w.frozen? ⟨g,j,none⟩=false:=frozen_of_row w g j _ e h
theorem Row.set {w:World} {e:TypeId} {k:IntKind} {g:Nat} {xs:List Nat} (h:Row w e k g xs) (j x:Nat) :
    Row (w.setCell ⟨g,j,none⟩ (.int k ((x:Nat):Int))) e k g (xs.set j x)∧w.grownBy (w.setCell ⟨g,j,none⟩ (.int k ((x:Nat):Int))) (some g):=by
  refine ⟨?_,⟨rfl,rfl,rfl,by simp,fun i _ hk=>heap_setCell_other w ⟨g,j,none⟩ i _ (fun e=>hk (by simp [e]))⟩⟩
  unfold Row
  rw [heap_setCell_same w g j _ e _ h,List.setIfInBounds_toArray,cellsOf_set]
theorem Row.grown {w w':World} {e:TypeId} {k:IntKind} {g:Nat} {xs:List Nat} {row:Option Nat} (h:Row w e k g xs) (hg:w.grownBy w' row) (hn:some g≠row):Row w' e k g xs :=
  (hg.block g h.lt hn).trans h
theorem Row.below {w w':World} {e:TypeId} {k:IntKind} {g:Nat} {xs:List Nat} (h:Row w e k g xs) (hb:Below w.heap.size w w'):Row w' e k g xs:=(hb.block g h.lt).trans h
theorem Row.sl {w:World} {e:TypeId} {k:IntKind} {g:Nat} {xs:List Nat} (h:Row w e k g xs) {off n cap:Nat} (h1:off+n≤xs.length) (h2:n≤cap) (h3:cap≤maxLen) (h4:n≤16777216) :
    Sl w k (.slice (some ⟨g,off,none⟩) n cap) ((xs.drop off).take n):=by
  have hl:((xs.drop off).take n).length=n:=by rw [List.length_take,List.length_drop]; omega
  refine ⟨some ⟨g,off,none⟩,cap,by rw [hl],by omega,h3,by omega,fun e=>by simp at e,fun _=>⟨g,off,rfl,h.lt,fun j hj=>?_⟩⟩
  rw [getD_take,if_pos (by omega),getD_drop]
  exact h.cell (by omega)
theorem Row.sl_all {w:World} {e:TypeId} {k:IntKind} {g:Nat} {xs:List Nat} (h:Row w e k g xs) (h4:xs.length≤16777216) :
    Sl w k (.slice (some ⟨g,0,none⟩) xs.length xs.length) xs:=by
  have:=h.sl (off:=0) (n:=xs.length) (cap:=xs.length) (by omega) (Nat.le_refl _) (by unfold maxLen; omega) h4
  simpa using this
theorem row_of_own {w:World} {base e:Nat} {k:IntKind} {g n:Nat} {xs:List Nat} (h:w.ownsRow base e 1 (.slice (some ⟨g,0,none⟩) n n) n (cellsOf k xs)):Row w e k g xs∧xs.length=n:=by
  obtain ⟨hl,hh⟩:=h
  rw [length_cellsOf,Nat.mul_one] at hl
  rcases hh with ⟨h',_⟩ | ⟨g',cap',cur,h',_,hg,_,_,hcs,htake⟩
  · simp at h'
  · simp only [Value.slice.injEq,Option.some.injEq,Addr.mk.injEq,and_true,true_and] at h'
    obtain ⟨rfl,rfl⟩:=h'
    rw [List.take_of_length_le (by rw [Array.length_toList]; omega)] at htake
    refine ⟨?_,hl⟩
    unfold Row
    rw [hg,← htake]
theorem zeros_own (k:IntKind) (n:Nat):(madeCells (Value.int k 0).cells (n*1)).toList=cellsOf k (List.replicate n 0):=by
  show (madeCells #[Value.int k 0] (n*1)).toList=_
  rw [toList_madeCells_one]; simp [cellsOf]
theorem grown_trans' {a b c:World} {row:Option Nat} (h:a.grownBy b row) (k:b.grownBy c row):a.grownBy c row :=
  ⟨k.os.trans h.os,k.tape.trans h.tape,k.output.trans h.output,Nat.le_trans h.size k.size,fun i hi hne=>(k.block i (Nat.lt_of_lt_of_le hi h.size) hne).trans (h.block i hi hne)⟩
theorem grown_of_below {a w:World} (h:Below a.heap.size a w) (row:Option Nat):a.grownBy w row:=⟨h.os,h.tape,h.output,h.size,fun i hi _=>h.block i hi⟩
theorem below_of_grown {a w w':World} {B g:Nat} (h:Below B a w) (hg:w.grownBy w' (some g)) (hB:B≤g) (hw:B≤w.heap.size):Below B a w' :=
  h.grown hg hw (fun k e=>by simp at e; omega)
theorem below_step {a b c:World} (h:Below a.heap.size a b) (k:Below b.heap.size b c):Below a.heap.size a c:=h.trans (k.mono h.size)
def Num (w:World) (v:Value) (n:Nat):Prop:=∃ ys,Sl w .u64 v ys∧Lim B64 ys∧Top ys∧val B64 ys=n
theorem Num.below {w w':World} {v:Value} {n:Nat} (h:Num w v n) (hb:Below w.heap.size w w'):Num w' v n:=by
  obtain ⟨ys,h1,h2⟩:=h
  exact ⟨ys,h1.below hb,h2⟩
theorem num_trim {w:World} {v:Value} {xs:List Nat} (h:Sl w .u64 v (trimL xs)) (hx:Lim B64 xs):Num w v (val B64 xs):=⟨_,h,lim_trimL hx,top_trimL xs,val_trimL _ _⟩
theorem num_nil (w:World):Num w (.slice none 0 0) 0:=⟨[],sl_nil w _,lim_nil (by have:=B64_pos; omega),rfl,rfl⟩
def NatList (w:World) (v:Value) (xss:List (List Nat)):Prop :=
  ∃ ao cap,v=.slice ao xss.length cap∧xss.length≤cap∧cap≤maxLen∧xss.length≤16777216∧(ao=none→cap=0) ∧
    (0<xss.length→∃ b off,ao=some ⟨b,off,none⟩∧b<w.heap.size∧∀ j,j<xss.length→∃ u,w.cell? ⟨b,off+j,none⟩=some u∧Sl w .u64 u (xss.getD j []))
theorem NatList.below {w w':World} {v:Value} {xss:List (List Nat)} (h:NatList w v xss) (hb:Below w.heap.size w w'):NatList w' v xss:=by
  obtain ⟨ao,cap,rfl,h1,h2,h3,h4,h5⟩:=h
  refine ⟨ao,cap,rfl,h1,h2,h3,h4,fun hp=>?_⟩
  obtain ⟨b,off,rfl,hlt,hc⟩:=h5 hp
  refine ⟨b,off,rfl,Nat.lt_of_lt_of_le hlt hb.size,fun j hj=>?_⟩
  obtain ⟨u,h6,h7⟩:=hc j hj
  exact ⟨u,(hb.cell (p:=⟨b,off+j,none⟩) hlt).trans h6,h7.below hb⟩
theorem NatList.pos {w:World} {v:Value} {xss:List (List Nat)} (h:NatList w v xss) (hp:0<xss.length) :
    ∃ b off cap,v=.slice (some ⟨b,off,none⟩) xss.length cap∧xss.length≤cap∧cap≤maxLen∧b<w.heap.size∧∀ j,j<xss.length→∃ u,w.cell? ⟨b,off+j,none⟩=some u∧Sl w .u64 u (xss.getD j []):=by
  obtain ⟨ao,cap,rfl,h1,h2,h3,h4,h5⟩:=h
  obtain ⟨b,off,rfl,hlt,hc⟩:=h5 hp
  exact ⟨b,off,cap,rfl,h1,h2,hlt,hc⟩
theorem NatList.len {w:World} {v:Value} {xss:List (List Nat)} (h:NatList w v xss):xss.length≤16777216:=by
  obtain ⟨ao,cap,rfl,h1,h2,h3,_⟩:=h; exact h3
theorem getDL_take (xss:List (List Nat)) (n j:Nat) (h:j<n):(xss.take n).getD j []=xss.getD j []:=by
  simp only [List.getD_eq_getElem?_getD,List.getElem?_take,if_pos h]
theorem getDL_drop (xss:List (List Nat)) (n j:Nat):(xss.drop n).getD j []=xss.getD (n+j) []:=by
  simp only [List.getD_eq_getElem?_getD,List.getElem?_drop]
theorem NatList.take {w:World} {b off cap:Nat} {xss:List (List Nat)} (h:NatList w (.slice (some ⟨b,off,none⟩) xss.length cap) xss) {m:Nat} (hm:m≤xss.length) :
    NatList w (.slice (some ⟨b,off,none⟩) m cap) (xss.take m):=by
  obtain ⟨ao',cap',e,h1,h2,h3,h4,h5⟩:=h
  simp only [Value.slice.injEq,true_and] at e
  obtain ⟨rfl,rfl⟩:=e
  have hl:(xss.take m).length=m:=by rw [List.length_take,Nat.min_eq_left hm]
  refine ⟨some ⟨b,off,none⟩,cap,by rw [hl],by omega,h2,by omega,h4,fun hp=>?_⟩
  obtain ⟨b',off',e,hlt,hc⟩:=h5 (by omega)
  simp only [Option.some.injEq,Addr.mk.injEq,and_true] at e
  obtain ⟨rfl,rfl⟩:=e
  refine ⟨b,off,rfl,hlt,fun j hj=>?_⟩
  rw [getDL_take _ _ _ (by omega)]
  exact hc j (by omega)
theorem NatList.drop {w:World} {b off cap:Nat} {xss:List (List Nat)} (h:NatList w (.slice (some ⟨b,off,none⟩) xss.length cap) xss) {m:Nat} (hm:m<xss.length) :
    NatList w (.slice (some ⟨b,off+m,none⟩) (xss.length - m) (cap - m)) (xss.drop m):=by
  obtain ⟨ao',cap',e,h1,h2,h3,h4,h5⟩:=h
  simp only [Value.slice.injEq,true_and] at e
  obtain ⟨rfl,rfl⟩:=e
  have hl:(xss.drop m).length=xss.length - m:=List.length_drop
  refine ⟨some ⟨b,off+m,none⟩,cap - m,by rw [hl],by omega,by omega,by omega,fun e=>by simp at e,fun hp=>?_⟩
  obtain ⟨b',off',e,hlt,hc⟩:=h5 (by omega)
  simp only [Option.some.injEq,Addr.mk.injEq,and_true] at e
  obtain ⟨rfl,rfl⟩:=e
  refine ⟨b,off+m,rfl,hlt,fun j hj=>?_⟩
  rw [getDL_drop,Nat.add_assoc]
  exact hc (m+j) (by omega)
def HNum (w:World) (v:Value) (n:Nat):Prop:=∃ ys,Sl w .u32 v ys∧Lim B16 ys∧Top ys∧val B16 ys=n
theorem HNum.below {w w':World} {v:Value} {n:Nat} (h:HNum w v n) (hb:Below w.heap.size w w'):HNum w' v n:=by
  obtain ⟨ys,h1,h2⟩:=h
  exact ⟨ys,h1.below hb,h2⟩
theorem hnum_trim {w:World} {v:Value} {xs:List Nat} (h:Sl w .u32 v (trimL xs)) (hx:Lim B16 xs):HNum w v (val B16 xs):=⟨_,h,lim_trimL hx,top_trimL xs,val_trimL _ _⟩
end Go.Proofs.YtacbkpenohcgjaaGreat
namespace Go.Proofs.YtacbkpenohcgjaaGreat
open Go.RowKit Mth
theorem trim_pos (b off cap:Nat) (xs:List Nat) (w:World) (hl:xs.length≤cap) (hm:cap≤maxLen)
    (hc:∀ j,j<xs.length→w.cell? ⟨b,off+j,none⟩=some (.int .u64 ((xs.getD j 0:Nat):Int))) :
    Calls Tryz.prog 138 #[.slice (some ⟨b,off,none⟩) xs.length cap] w fun e w' =>
      e=.returned (.slice (some ⟨b,off,none⟩) (tlen xs) cap)∧w=w':=by
  unfold maxLen at hm
  go_enter Tryz.func138,Tryz.ntmps138
  go_wp2
  go_loop [3] (fun n=>∃ k:Nat,k≤xs.length∧n=.int .i64 k∧(∀ j,k≤j→xs.getD j 0=0)) (fun n=>(intOf n).toNat)
  case atStart=>exact ⟨xs.length,Nat.le_refl _,rfl,fun j hj=>getD_ge xs j hj⟩
  case round =>
    obtain ⟨k,hk,rfl,hz⟩:=hrel
    by_cases h0:0<k
    · have hc1:=hc (k - 1) (by omega)
      have HZ:=Lib.hid hz
      clear hz hc
      go_wp2
      · have h1:((xs[k - 1]?.getD 0:Nat):Int) == 0:=by assumption
        go_round
        case rel=>exact ⟨k - 1,by omega,by congr 1; omega,fun j hj=>by
          by_cases e:j=k - 1
          · subst e; simp at h1; simpa [List.getD_eq_getElem?_getD] using h1
          · exact HZ.out j (by omega)⟩
        case measure=>simp [intOf]; omega
      · have h1:(((xs[k - 1]?.getD 0:Nat):Int) == 0)=false:=by assumption
        go_ret
        have e:tlen xs=k:=tlen_eq HZ.out (.inr (by simp at h1; simpa [List.getD_eq_getElem?_getD] using h1))
        rw [e]
        exact ⟨rfl,rfl⟩
    · have HZ:=Lib.hid hz
      clear hz hc
      go_wp2
      go_ret
      have e:tlen xs=k:=tlen_eq HZ.out (.inl (by omega))
      rw [e]
      exact ⟨rfl,rfl⟩
theorem trim_zero (ao:Option Addr) (cap:Nat) (w:World) (hm:cap≤maxLen) (hn:ao=none→cap=0) :
    Calls Tryz.prog 138 #[.slice ao 0 cap] w fun e w'=>e=.returned (.slice ao 0 cap)∧w=w':=by
  unfold maxLen at hm
  cases ao with
  | none =>
    obtain rfl:=hn rfl
    go_enter Tryz.func138,Tryz.ntmps138
    go_wp2
    refine wp_loop_rounds 1 ?_
    rw [rounds_succ]
    go_wp2
    go_ret
    exact ⟨rfl,rfl⟩
  | some a =>
    clear hn
    go_enter Tryz.func138,Tryz.ntmps138
    go_wp2
    refine wp_loop_rounds 1 ?_
    rw [rounds_succ]
    go_wp2
    go_ret
    exact ⟨rfl,rfl⟩
theorem trim_any {v:Value} {xs:List Nat} {w:World} (h:Sl w .u64 v xs) :
    Calls Tryz.prog 138 #[v] w fun e w'=>∃ v',e=.returned v'∧Sl w .u64 v' (trimL xs)∧w=w':=by
  have h':=h
  obtain ⟨ao,cap,rfl,h1,h2,h3,h4,h5⟩:=h
  have hs:Sl w .u64 (.slice ao (tlen xs) cap) (trimL xs):=h'.take (tlen_le xs)
  by_cases hp:0<xs.length
  · obtain ⟨b,off,rfl,hlt,hc⟩:=h5 hp
    exact (trim_pos b off cap xs w h1 h2 hc).mono fun e w' ⟨he,hw⟩=>⟨_,he,hs,hw⟩
  · have:xs=[]:=List.eq_nil_of_length_eq_zero (by omega)
    subst this
    exact (trim_zero ao cap w h2 h4).mono fun e w' ⟨he,hw⟩=>⟨_,he,hs,hw⟩
theorem trim_eq {ao:Option Addr} {n cap:Nat} {xs:List Nat} {w:World} (h:Sl w .u64 (.slice ao n cap) xs) :
    Calls Tryz.prog 138 #[.slice ao n cap] w fun e w'=>e=.returned (.slice ao (tlen xs) cap)∧w'=w:=by
  obtain ⟨ao',cap',e,h1,h2,h3,h4,h5⟩:=h
  simp only [Value.slice.injEq] at e
  obtain ⟨rfl,rfl,rfl⟩:=e
  by_cases hp:0<xs.length
  · obtain ⟨b,off,rfl,hlt,hc⟩:=h5 hp
    exact (trim_pos b off cap xs w h1 h2 hc).mono fun e w' ⟨he,hw⟩=>⟨he,hw.symm⟩
  · have:xs=[]:=List.eq_nil_of_length_eq_zero (by omega)
    subst this
    exact (trim_zero ao cap w h2 h4).mono fun e w' ⟨he,hw⟩=>⟨he,hw.symm⟩
theorem Sl.trim {w:World} {k:IntKind} {ao:Option Addr} {n cap:Nat} {xs:List Nat} (h:Sl w k (.slice ao n cap) xs):Sl w k (.slice ao (tlen xs) cap) (trimL xs):=by
  have h':=h
  obtain ⟨ao',cap',e,h1,h2,h3,h4,h5⟩:=h'
  simp only [Value.slice.injEq] at e
  obtain ⟨rfl,rfl,rfl⟩:=e
  exact h.take (tlen_le xs)
theorem Sl.shape {w:World} {k:IntKind} {v:Value} {xs:List Nat} (h:Sl w k v xs):∃ ao cap,v=.slice ao xs.length cap:=by
  obtain ⟨ao,cap,rfl,_⟩:=h; exact ⟨ao,cap,rfl⟩
end Go.Proofs.YtacbkpenohcgjaaGreat
namespace Go.Proofs.YtacbkpenohcgjaaGreat
open Go.RowKit Mth
theorem info_u64:(Tryz.prog.info? 37).map (fun i=>(i.zero,i.size,i.bytes))=some (some (.int .u64 0),1,8):=by kernel_rfl
theorem info_u32:(Tryz.prog.info? 108).map (fun i=>(i.zero,i.size,i.bytes))=some (some (.int .u32 0),1,4):=by kernel_rfl
theorem ret_bool {a b:Bool} (h:a=b):Ending.returned (.bool a)=.returned (.bool b):=by rw [h]
theorem ret_int {k:IntKind} {a b:Int} (h:a=b):Ending.returned (.int k a)=.returned (.int k b):=by rw [h]
theorem len_eq {n:Nat} (h:n=0):((n:Int) == 0)=true:=by rw [h]; rfl
theorem len_ne {n:Nat} (h:n≠0):((n:Int) == 0)=false:=by simp; omega
theorem make_nat {w:World} {ops:Array Oper} {rest:List Oper} {o:Oper} {a:Act} {Q:Exit→Act→World→Prop}
    (hg:o.guard=none) (l c:Operand) (hop:o.op=Op.makeSlice 26 l c) (L C:Int) (n:Nat) (hl:a.eval l=.int .i64 L) (hc:a.eval c=.int .i64 C) (hL:L=(n:Int)) (hC:C=(n:Int))
    (hn:n≤16777217)
    (hK:∀ w',Row w' 37 .u64 w.heap.size (List.replicate n 0)→Below w.heap.size w w'→wpList Tryz.prog ops Q rest (a.put o.dst (.slice (some ⟨w.heap.size,0,none⟩) n n)) w') :
    wpList Tryz.prog ops Q (o :: rest) a w:=by
  obtain ⟨i0,hi,hz0,hz1,hz2⟩:=info_parts info_u64
  refine wpList_make_full w hg l c 26 hop w.heap.size 37 i0 _ 1 Tryz.underlying26 hi hz0 hz1 .i64 .i64 L C n hl hc hL hC (by rw [hz2]; omega) (by unfold maxLen; omega) (Nat.le_refl _) ?_
  intro w' hown hgrow
  rw [zeros_own] at hown
  exact hK w' (row_of_own hown).1 ((Below.refl _ _).grown hgrow (Nat.le_refl _) (fun k e=>by simp at e))
theorem cells_one (k:IntKind) (xs:List Nat):∀ v∈cellsOf k xs,v.oneCell'=true:=by
  intro v hv
  obtain ⟨x,_,rfl⟩:=List.mem_map.1 hv
  rfl
theorem copy_nat {w w0:World} {ops:Array Oper} {rest:List Oper} {o:Oper} {a:Act} {Q:Exit→Act→World→Prop} (hgd:o.guard=none) (d s:Operand)
    (ho:o.op=.call { callee:=.builtin .copy,args:=#[d,s],argTypes:=#[26,26] }) (g n c:Nat) (v:Value) (xs zs:List Nat)
    (hd:a.eval d=.slice (some ⟨g,0,none⟩) n c) (hs:a.eval s=v) (hrow:Row w 37 .u64 g zs) (hz:zs.length=n) (hx:xs.length=n) (hsl:Sl w .u64 v xs)
    (hb:Below w0.heap.size w0 w) (hg:w0.heap.size≤g)
    (h:∀ w',Row w' 37 .u64 g xs→Below w0.heap.size w0 w'→wpList Tryz.prog ops Q rest (a.put o.dst (goInt n)) w') :
    wpList Tryz.prog ops Q (o :: rest) a w:=by
  obtain ⟨ao,cap,rfl,h1,h2,h3,h4,h5⟩:=hsl
  subst hx
  have hlen:(cellsOf .u64 xs).length=xs.length:=length_cellsOf _ _
  refine wpList_copy_splice hgd d s 26 26 ho 37 Tryz.underlying26 (by kernel_rfl) _ _ _ _ _ _ hd hs g 0 (cellsOf .u64 zs) 37 hrow (cellsOf .u64 xs) (by rw [hlen]; simp) ?_
    (by rw [hlen,length_cellsOf]; omega) (cells_one _ _) w0.heap.size w0 hb hg ?_
  · intro hp
    obtain ⟨b,off,rfl,hlt,hc⟩:=h5 (by omega)
    refine ⟨rfl,_,rfl,fun j u hj=>?_⟩
    have hjl:j<xs.length:=by have:=(List.getElem?_eq_some_iff.1 hj).1; omega
    rw [cellsOf_get _ _ _ hjl] at hj
    rw [Addr.add_lit,hc j hjl,hj]
  · intro w' hh hb'
    have e:splice (cellsOf .u64 zs) 0 (cellsOf .u64 xs)=cellsOf .u64 xs:=by
      simp only [splice,List.take_zero,List.nil_append,Nat.zero_add]
      rw [List.drop_of_length_le (by rw [length_cellsOf,length_cellsOf]; omega),List.append_nil]
    have h':=hh.out
    rw [e] at h'
    rw [hlen] at *
    exact h w' h' hb'
theorem add64_run (x y c:Nat) (hc:c≤1) (w:World) :
    (callFunc 172 #[.int .u64 x,.int .u64 y,.int .u64 c]).run Tryz.prog w =
      .ok (.value (.tuple #[.int .u64 ((aLo x y c:Nat):Int),.int .u64 ((aHi x y c:Nat):Int)])) w:=by
  unfold aLo aHi B64
  rw [run_callFunc_extern Tryz.func172 (by kernel_rfl) (by kernel_rfl) (by kernel_rfl) (e:=add64Entry) (by kernel_rfl),run_add64 x y c (by omega) (by omega) (by omega) (by omega)]
  simp only [Result.andThen]
  congr 5<;>omega
theorem add64_run0 (x y:Nat) (w:World) :
    (callFunc 172 #[.int .u64 x,.int .u64 y,.int .u64 0]).run Tryz.prog w =
      .ok (.value (.tuple #[.int .u64 ((aLo x y 0:Nat):Int),.int .u64 ((aHi x y 0:Nat):Int)])) w:=add64_run x y 0 (by omega) w
def sub64Entry:Array Value→Sem Value:=fun args=>do
  let (x, y, b) ← Extern.MathBitsCarry.three "Sub64" args
  pure (Extern.MathBitsCarry.pair ((x+Extern.MathBitsCarry.m64 - y - b) % Extern.MathBitsCarry.m64) (if x<y+b then 1 else 0))
theorem sub64_run (x y b:Nat) (hb:b≤1) (w:World) :
    (callFunc 180 #[.int .u64 x,.int .u64 y,.int .u64 b]).run Tryz.prog w =
      .ok (.value (.tuple #[.int .u64 ((sLo x y b:Nat):Int),.int .u64 ((sHi x y b:Nat):Int)])) w:=by
  unfold sLo sHi B64
  rw [run_callFunc_extern Tryz.func180 (by kernel_rfl) (by kernel_rfl) (by kernel_rfl) (e:=sub64Entry) (by kernel_rfl)]
  have:b=0∨b=1:=by omega
  rcases this with rfl | rfl<;>rfl
theorem append_nat {w:World} {ops:Array Oper} {rest:List Oper} {o:Oper} {a:Act} {Q:Exit→Act→World→Prop} (hgd:o.guard=none) (s x:Operand)
    (ho:o.op=.call { callee:=.builtin .append,args:=#[s,x],argTypes:=#[26,26] }) (base:Nat) (v:Value) (xs:List Nat) (y:Nat) (ad:Addr)
    (hs:a.eval s=v) (hx:a.eval x=.slice (some ad) 1 1) (hown:w.ownsRow base 37 1 v xs.length (cellsOf .u64 xs)) (hc:w.cell? ad=some (.int .u64 ((y:Nat):Int))) (hlen:xs.length≤16777216) (hbase:base≤w.heap.size)
    (h:∀ v' w',w'.ownsRow base 37 1 v' (xs++[y]).length (cellsOf .u64 (xs++[y]))→w.grownBy w' v.ownBlock→wpList Tryz.prog ops Q rest (a.put o.dst v') w'):wpList Tryz.prog ops Q (o :: rest) a w:=by
  obtain ⟨i0,hi,hz0,hz1,hz2⟩:=info_parts info_u64
  refine wpList_append_own w hgd s x 26 ho base 37 i0 _ 1 8 Tryz.underlying26 hi hz0 hz1 hz2 rfl (by decide) v _ _ hs hown ad 1 1 [.int .u64 ((y:Nat):Int)] hx rfl ?_ ?_
    (by unfold maxLen; omega) (by omega) hbase ?_
  · intro j u hj
    match j,hj with
    | 0,hj=>simp at hj; subst hj; simpa [Addr.add] using hc
  · intro u hu
    simp at hu; subst hu; rfl
  · intro v' w' h2 h3 _
    refine h v' w' ?_ h3
    rw [cellsOf_append,List.length_append]
    exact h2
theorem below_own {a w w':World} {B e:Nat} {v:Value} {n:Nat} {xs:List Value} (hb:Below B a w) (hown:w.ownsRow B e 1 v n xs) (hg:w.grownBy w' v.ownBlock) (hB:B≤w.heap.size):Below B a w' :=
  hb.grown hg hB (fun k e=>(hown.lt k e).1)
end Go.Proofs.YtacbkpenohcgjaaGreat
namespace Go.Proofs.YtacbkpenohcgjaaGreat
open Go.RowKit Mth
theorem append_sl {w:World} {ops:Array Oper} {rest:List Oper} {o:Oper} {a:Act} {Q:Exit→Act→World→Prop} (hgd:o.guard=none) (s x:Operand)
    (ho:o.op=.call { callee:=.builtin .append,args:=#[s,x],argTypes:=#[26,26] }) (base:Nat) (v u:Value) (xs ys:List Nat)
    (hs:a.eval s=v) (hx:a.eval x=u) (hown:w.ownsRow base 37 1 v xs.length (cellsOf .u64 xs)) (hu:Sl w .u64 u ys) (hlen:xs.length≤16777216) (hbase:base≤w.heap.size)
    (h:∀ v' w',w'.ownsRow base 37 1 v' (xs++ys).length (cellsOf .u64 (xs++ys))→w.grownBy w' v.ownBlock→wpList Tryz.prog ops Q rest (a.put o.dst v') w'):wpList Tryz.prog ops Q (o :: rest) a w:=by
  obtain ⟨i0,hi,hz0,hz1,hz2⟩:=info_parts info_u64
  have hul:=hu.len
  obtain ⟨ao,cap,rfl,_,_,_,h4,h5⟩:=hu
  cases ao with
  | none =>
    obtain rfl:=h4 rfl
    have h0:ys=[]:=by
      rcases Nat.eq_zero_or_pos ys.length with h0 | h0
      · exact List.eq_nil_of_length_eq_zero h0
      · obtain ⟨b,off,e,_⟩:=h5 h0
        cases e
    subst h0
    refine wpList_append_own_none hgd s x 26 ho base 37 i0 1 Tryz.underlying26 hi v _ _ hs hown hx ?_
    refine h v w ?_ (World.grownBy.refl _ _)
    rw [List.append_nil]; exact hown
  | some ad =>
    refine wpList_append_own w hgd s x 26 ho base 37 i0 _ 1 8 Tryz.underlying26 hi hz0 hz1 hz2 rfl (by decide) v _ _ hs hown ad ys.length cap (cellsOf .u64 ys) hx (by rw [length_cellsOf]; omega) ?_ (cells_one _ _)
      (by unfold maxLen; omega) (by omega) hbase ?_
    · intro j u hj
      have hjl:j<ys.length:=by have:=(List.getElem?_eq_some_iff.1 hj).1; rwa [length_cellsOf] at this
      rw [cellsOf_get _ _ _ hjl] at hj
      obtain ⟨b,off,e,_,hc⟩:=h5 (by omega)
      obtain rfl:=Option.some.inj e
      rw [Addr.add_lit,hc j hjl,hj]
    · intro v' w' h2 h3 _
      refine h v' w' ?_ h3
      rw [cellsOf_append,List.length_append]
      exact h2
end Go.Proofs.YtacbkpenohcgjaaGreat
