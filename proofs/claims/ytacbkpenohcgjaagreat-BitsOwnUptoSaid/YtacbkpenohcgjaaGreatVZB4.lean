import Derived.Test.YtacbkpenohcgjaaGreatVZ3
import Derived.Test.YtacbkpenohcgjaaGreatVY1
set_option linter.unusedVariables false
set_option linter.unusedSimpArgs false
set_option maxHeartbeats 16000000
set_option maxRecDepth 100000
namespace Go.Proofs.YtacbkpenohcgjaaGreat
open Go.RowKit Mth
theorem ch_new {w:World} {cs:Array Value} {T:TypeId} {g j:Nat} {v:Value} (hg:g=w.heap.size) (hv:cs[j]?=some v):(w.alloc (.cells cs T)).cell? ⟨g,j,none⟩=some v:=by
  subst hg
  have h:=heap_alloc_new w (Obj.cells cs T)
  rw [cell_of_row _ _ _ _ _ (0,0) h]; exact hv
theorem ch_lt {w:World} {o:Obj} {g j:Nat} {v:Value} (hg:g<w.heap.size) (h:w.cell? ⟨g,j,none⟩=some v):(w.alloc o).cell? ⟨g,j,none⟩=some v:=cell_new h hg
theorem ch_set {w:World} {g g' i j:Nat} {v x:Value} (hne:g≠g'∨i≠j) (h:w.cell? ⟨g,j,none⟩=some v):(w.setCell ⟨g',i,none⟩ x).cell? ⟨g,j,none⟩=some v :=
  (World.cell?_setCell_other (w:=w) (a:=⟨g',i,none⟩) (b:=⟨g,j,none⟩) (v:=x) (fun e=>by
    simp only [Addr.mk.injEq] at e
    rcases hne with h | h
    · exact h e.1.symm
    · exact h e.2.1)).trans h
theorem ch_same {w:World} {g j:Nat} {v:Value} (h:(w.cell? ⟨g,j,none⟩).isSome=true):(w.setCell ⟨g,j,none⟩ v).cell? ⟨g,j,none⟩=some v:=World.cell?_setCell_same' _ _ _ h
theorem ch_below {w w':World} {B g j:Nat} {v:Value} (hb:Below B w w') (hg:g<B) (h:w.cell? ⟨g,j,none⟩=some v):w'.cell? ⟨g,j,none⟩=some v:=(hb.cell (p:=⟨g,j,none⟩) hg).trans h
theorem ch_drew {w:World} {g j:Nat} {v:Value} (h:w.cell? ⟨g,j,none⟩=some v):w.drew.cell? ⟨g,j,none⟩=some v:=h
theorem is_of {w:World} {g j:Nat} (h:(w.cell? ⟨g,j,none⟩).isSome=true):∃ v,w.cell? ⟨g,j,none⟩=some v:=Option.isSome_iff_exists.1 h
theorem is_to {w:World} {g j:Nat} {v:Value} (h:w.cell? ⟨g,j,none⟩=some v):(w.cell? ⟨g,j,none⟩).isSome=true:=by rw [h]; rfl
theorem is_new {w:World} {cs:Array Value} {T:TypeId} {g j:Nat} (hg:g=w.heap.size) (hv:j<cs.size):((w.alloc (.cells cs T)).cell? ⟨g,j,none⟩).isSome=true:=is_to (ch_new hg (Array.getElem?_eq_getElem hv))
theorem is_lt {w:World} {o:Obj} {g j:Nat} (hg:g<w.heap.size) (h:(w.cell? ⟨g,j,none⟩).isSome=true):((w.alloc o).cell? ⟨g,j,none⟩).isSome=true:=by
  obtain ⟨v,h⟩:=is_of h; exact is_to (ch_lt hg h)
theorem is_set {w:World} {g g' i j:Nat} {x:Value} (h:(w.cell? ⟨g,j,none⟩).isSome=true):((w.setCell ⟨g',i,none⟩ x).cell? ⟨g,j,none⟩).isSome=true:=by
  obtain ⟨v,h⟩:=is_of h
  by_cases hne:g≠g'∨i≠j
  · exact is_to (ch_set hne h)
  · obtain ⟨rfl,rfl⟩:g=g'∧i=j:=by omega
    exact is_to (ch_same (is_to h))
theorem is_below {w w':World} {B g j:Nat} (hb:Below B w w') (hg:g<B) (h:(w.cell? ⟨g,j,none⟩).isSome=true):(w'.cell? ⟨g,j,none⟩).isSome=true:=by
  obtain ⟨v,h⟩:=is_of h; exact is_to (ch_below hb hg h)
theorem is_drew {w:World} {g j:Nat} (h:(w.cell? ⟨g,j,none⟩).isSome=true):(w.drew.cell? ⟨g,j,none⟩).isSome=true:=h
theorem sz_alloc (w:World) (o:Obj):(w.alloc o).heap.size=w.heap.size+1:=by simp
theorem sz_set (w:World) (p:Addr) (v:Value):(w.setCell p v).heap.size=w.heap.size:=by simp
theorem sz_drew (w:World):w.drew.heap.size=w.heap.size:=rfl
def Rd2 (w wx:World) (s1 s2 v1 v2:Value):Prop:=∃ g1 g2 x1 y1 x2 y2,s1=.pointer (some ⟨g1,0,none⟩)∧s2=.pointer (some ⟨g2,0,none⟩)∧v1=.agg #[x1,y1]∧v2=.agg #[x2,y2] ∧
  wx.cell? ⟨g1,0,none⟩=some x1∧wx.cell? ⟨g1,1,none⟩=some y1∧wx.cell? ⟨g2,0,none⟩=some x2∧wx.cell? ⟨g2,1,none⟩=some y2∧Below w.heap.size w wx
theorem cmpI_any (va vb:Value) (x y:Int) (w:World) (ha:IntV w va x) (hb:IntV w vb y):Calls Tryz.prog 53 #[va,vb] w fun e w'=>e=.returned (.int .i64 (zcmp x y))∧Below w.heap.size w w':=by
  obtain ⟨n1,a1,k1,c1,t1,rfl,N1',R1⟩:=ha.rd
  obtain ⟨n2,a2,k2,c2,t2,rfl,N2',R2⟩:=hb.rd
  have N1:=Lib.hid N1'; have N2:=Lib.hid N2'
  clear ha hb N1' N2'
  go_enter Tryz.func53,Tryz.ntmps53
  go_wp2
  obtain ⟨W,eW,h1,h2,bel,hsz⟩:=alloc2 w (Obj.cells #[Value.bool n1,Value.slice a1 k1 c1] 50) (Obj.cells #[Value.bool n2,Value.slice a2 k2 c2] 50)
  rw [eW]
  obtain ⟨p0,p1,f0,f1,_⟩:=blk2 h1
  obtain ⟨q0,q1,r0,r1,_⟩:=blk2 h2
  clear eW h1 h2
  have STAY:Hid (∀ w',Below W.heap.size W w'→w'.cell? ⟨w.heap.size,0,none⟩=some (.bool n1)∧w'.cell? ⟨w.heap.size,1,none⟩=some (.slice a1 k1 c1)∧w'.cell? ⟨w.heap.size+1,0,none⟩=some (.bool n2)∧w'.cell? ⟨w.heap.size+1,1,none⟩=some (.slice a2 k2 c2)∧Below W.heap.size W w'∧W.heap.size≤w'.heap.size) :=
    Lib.hid (fun w' h=>⟨cell_to h p0 (by omega),cell_to h p1 (by omega),cell_to h q0 (by omega),cell_to h q1 (by omega),h,h.size⟩)
  have R1':Hid (∀ v w1,v=.agg #[.bool n1,.slice a1 k1 c1]→Below W.heap.size W w1→Calls Tryz.prog 100 #[v] w1 fun e w'=>e=.returned (.agg #[.slice a1 t1 c1,.bool (sgn x)])∧Below w1.heap.size w1 w'∧w'.heap.size=w1.heap.size+3):=Lib.hid (fun v w1 e h=>by subst e; exact R1 w1 (below_of bel h))
  have R2':Hid (∀ v w1,v=.agg #[.bool n2,.slice a2 k2 c2]→Below W.heap.size W w1→Calls Tryz.prog 100 #[v] w1 fun e w'=>e=.returned (.agg #[.slice a2 t2 c2,.bool (sgn y)])∧Below w1.heap.size w1 w'∧w'.heap.size=w1.heap.size+3):=Lib.hid (fun v w1 e h=>by subst e; exact R2 w1 (below_of bel h))
  have hB0:=(Below.refl W.heap.size W).drew
  clear R1 R2
  go_cut [5,6] (fun s5 s6 wx=>Rd2 W wx s5 s6 (.agg #[.slice a1 t1 c1,.bool (sgn x)]) (.agg #[.slice a2 t2 c2,.bool (sgn y)]))
  case first =>
    clear p0 p1 q0 q1 f0 f1 r0 r1 hsz
    go_region_held3 (fun w'=>w'.cell? ⟨w.heap.size,0,none⟩=some (.bool n1)∧w'.cell? ⟨w.heap.size,1,none⟩=some (.slice a1 k1 c1)∧w'.cell? ⟨w.heap.size+1,0,none⟩=some (.bool n2)∧w'.cell? ⟨w.heap.size+1,1,none⟩=some (.slice a2 k2 c2)∧Below W.heap.size W w'∧W.heap.size≤w'.heap.size)
      ((try go_split_ands; refine STAY.out _ ?_; first | assumption | exact below_to (by assumption) (by assumption) | exact Below.alloc (by assumption) (by first | omega | (simp; done) | (simp; omega)) _ | exact Below.alloc (Below.alloc (by assumption) (by first | omega | (simp; done) | (simp; omega)) _) (by first | omega | (simp; done) | (simp; omega)) _ | exact Below.setCell (Below.setCell (by assumption) (by first | omega | (simp; done) | (simp; omega)) _) (by first | omega | (simp; done) | (simp; omega)) _ | exact Below.alloc (Below.setCell (Below.setCell (by assumption) (by first | omega | (simp; done) | (simp; omega)) _) (by first | omega | (simp; done) | (simp; omega)) _) (by first | omega | (simp; done) | (simp; omega)) _ | exact Below.setCell (Below.setCell (Below.setCell (Below.setCell (by assumption) (by first | omega | (simp; done) | (simp; omega)) _) (by first | omega | (simp; done) | (simp; omega)) _) (by first | omega | (simp; done) | (simp; omega)) _) (by first | omega | (simp; done) | (simp; omega)) _))
      (first
      | (go_at_call 100; go_split_ands; first | (refine Calls.mono (R1'.out _ _ ?_ (by assumption)) ?_; (exact rfl); rintro e w1 ⟨rfl,hbx1,hs1⟩; have hk1:=below_to hbx1 (by assumption); obtain ⟨hc1,hf1⟩:=bcell hbx1; (try simp at hs1)) | (refine Calls.mono (R2'.out _ _ ?_ (by assumption)) ?_; (exact rfl); rintro e w2 ⟨rfl,hbx2,hs2⟩; have hk2:=below_to hbx2 (by assumption); obtain ⟨hc2,hf2⟩:=bcell hbx2; (try simp at hs2); (try simp only [hs1] at hs2))))
    all_goals
      (go_wp2_with fail
       go_meet
       clear hc1 hf1 hc2 hf2
       refine ⟨_,_,_,_,_,_,rfl,rfl,rfl,rfl, ?_, ?_, ?_, ?_,by first | assumption | (go_split_ands; assumption)⟩)
    all_goals
      repeat (first
       | ((with_reducible refine ch_new ?_ ?_); (first | omega | (simp only [sz_alloc,sz_set,sz_drew]; omega) | (focus (simp only [sz_alloc,sz_set,sz_drew]; done))); exact rfl)
       | ((with_reducible refine ch_lt ?_ ?_); (first | omega | (simp only [sz_alloc,sz_set,sz_drew]; omega) | (focus (simp only [sz_alloc,sz_set,sz_drew]; done))))
       | (with_reducible refine ch_same ?_)
       | ((with_reducible refine ch_set ?_ ?_); (first | (right; decide) | (left; (first | omega | (simp only [sz_alloc,sz_set,sz_drew]; omega) | (focus (simp only [sz_alloc,sz_set,sz_drew]; done))))))
       | ((with_reducible refine ch_below hbx2 ?_ ?_); (first | omega | (simp only [sz_alloc,sz_set,sz_drew]; omega) | (focus (simp only [sz_alloc,sz_set,sz_drew]; done))))
       | ((with_reducible refine ch_below hbx1 ?_ ?_); (first | omega | (simp only [sz_alloc,sz_set,sz_drew]; omega) | (focus (simp only [sz_alloc,sz_set,sz_drew]; done))))
       | (with_reducible refine ch_drew ?_)
       | ((with_reducible refine is_new ?_ ?_); (first | omega | (simp only [sz_alloc,sz_set,sz_drew]; omega) | (focus (simp only [sz_alloc,sz_set,sz_drew]; done))); (simp; done))
       | ((with_reducible refine is_lt ?_ ?_); (first | omega | (simp only [sz_alloc,sz_set,sz_drew]; omega) | (focus (simp only [sz_alloc,sz_set,sz_drew]; done))))
       | (with_reducible refine is_set ?_)
       | ((with_reducible refine is_below hbx2 ?_ ?_); (first | omega | (simp only [sz_alloc,sz_set,sz_drew]; omega) | (focus (simp only [sz_alloc,sz_set,sz_drew]; done))))
       | ((with_reducible refine is_below hbx1 ?_ ?_); (first | omega | (simp only [sz_alloc,sz_set,sz_drew]; omega) | (focus (simp only [sz_alloc,sz_set,sz_drew]; done))))
       | (with_reducible refine is_drew ?_))
  case rest =>
    obtain ⟨g1,g2,x1,y1,x2,y2,rfl,rfl,e1,e2,p0,p1,q0,q1,hBW⟩:=hcut
    have hB:=below_of bel hBW
    clear hBW
    simp only [Value.agg.injEq,Array.mk.injEq,List.cons.injEq,and_true] at e1 e2
    obtain ⟨rfl,rfl⟩:=e1
    obtain ⟨rfl,rfl⟩:=e2
    have M1:=Lib.hid (N1.out.below hB).parts.2.2
    have M2:=Lib.hid (N2.out.below hB).parts.2.2
    have HB:=Lib.hid hB
    clear hB N1 N2 STAY R1' R2' hB0
    cases hx:sgn x
    · cases hy:sgn y
      · have C:=Lib.hid (zcmp_abs_pos (of_sgn_false hx) (of_sgn_false hy))
        rw [hx] at p1; rw [hy] at q1
        clear hx hy
        go_wp2_with fail
        refine (wcmp_any _ _ _ _ _ M1.out M2.out _ C.out.symm).mono ?_
        rintro e w3 ⟨rfl,hb3⟩
        go_wp2
        go_ret
        exact ⟨rfl,below_of HB.out hb3⟩
      · have C:=Lib.hid (zcmp_gt (a:=x) (b:=y) (by have:=of_sgn_false hx; have:=of_sgn_true hy; omega))
        rw [hx] at p1; rw [hy] at q1
        clear hx hy
        go_wp2
        go_ret
        exact ⟨by rw [C.out]; rfl,HB.out⟩
    · cases hy:sgn y
      · have C:=Lib.hid (zcmp_lt (a:=x) (b:=y) (by have:=of_sgn_true hx; have:=of_sgn_false hy; omega))
        rw [hx] at p1; rw [hy] at q1
        clear hx hy
        go_wp2
        go_ret
        exact ⟨by rw [C.out]; rfl,HB.out⟩
      · have C:=Lib.hid (zcmp_abs_neg (of_sgn_true hx) (of_sgn_true hy))
        rw [hx] at p1; rw [hy] at q1
        clear hx hy
        go_wp2_with fail
        refine (wcmp_any _ _ _ _ _ M2.out M1.out _ C.out.symm).mono ?_
        rintro e w3 ⟨rfl,hb3⟩
        go_wp2
        go_ret
        exact ⟨rfl,below_of HB.out hb3⟩
end Go.Proofs.YtacbkpenohcgjaaGreat
namespace Go.Proofs.YtacbkpenohcgjaaGreat
open Go.RowKit Mth
theorem mul_zE {x y:Int} (hx:x≠0) (hy:y≠0):mE x.natAbs y.natAbs=zE (x*y)∧mN x.natAbs y.natAbs=(zN (x*y)).natAbs∧(!(sgn x == sgn y))=sgn (x*y):=by
  have e:(x*y).natAbs=x.natAbs*y.natAbs:=Int.natAbs_mul x y
  have hx1:1≤x.natAbs:=by omega
  have hy1:1≤y.natAbs:=by omega
  refine ⟨?_, ?_, ?_⟩
  · unfold mE zE cutE
    rw [e]
    by_cases h:Big≤x.natAbs∨Big≤y.natAbs
    · rw [if_pos h,if_pos]
      rcases h with h | h
      · exact Nat.le_trans h (Nat.le_mul_of_pos_right _ hy1)
      · exact Nat.le_trans h (Nat.le_mul_of_pos_left _ hx1)
    · rw [if_neg h]
  · rw [← cutN_zN,e]
    unfold mN cutN
    by_cases h:Big≤x.natAbs∨Big≤y.natAbs
    · rw [if_pos h,if_pos]
      rcases h with h | h
      · exact Nat.le_trans h (Nat.le_mul_of_pos_right _ hy1)
      · exact Nat.le_trans h (Nat.le_mul_of_pos_left _ hx1)
    · rw [if_neg h]
  · rw [mul_sg x y,sgn_sg (Nat.mul_pos hx1 hy1)]; cases sgn x<;>cases sgn y<;>rfl
theorem z_zero:zE 0=0∧zN 0=0:=by
  have h:=z_fine (z:=0) (by have:=pow_pos' maxL; show 0<Big; exact this)
  exact ⟨h.2,h.1⟩
theorem zE_or (z:Int):zE z=5∧zN z=0∨zE z=0∧zN z=z:=by
  by_cases h:Big≤z.natAbs
  · exact .inl ⟨(z_big h).2,(z_big h).1⟩
  · exact .inr ⟨(z_fine (by omega)).2,(z_fine (by omega)).1⟩
theorem natList_at {W:World} {g:Nat} {v1 v2:Value} {xs ys:List Nat} (hg:W.heap[g]?=some (.cells #[v1,v2] 26 (0,0))) (h1:Sl W .u64 v1 xs) (h2:Sl W .u64 v2 ys):NatList W (.slice (some ⟨g,0,none⟩) 2 2) [xs,ys]:=by
  have hlt:=(Array.getElem?_eq_some_iff.1 hg).1
  obtain ⟨a1,c1,rfl⟩:=h1.shape
  obtain ⟨a2,c2,rfl⟩:=h2.shape
  refine ⟨_,_,rfl,by simp,by unfold maxLen; omega,by simp,fun e=>by simp at e,fun _=>⟨_,_,rfl,hlt,fun j hj=>?_⟩⟩
  match j,hj with
  | 0,_=>exact ⟨_,by rw [Nat.zero_add,cell_of_row _ _ _ _ _ (0,0) hg]; rfl,h1⟩
  | 1,_=>exact ⟨_,by rw [cell_of_row _ _ _ _ _ (0,0) hg]; rfl,h2⟩
theorem mul2_at {W:World} {g:Nat} {v1 v2:Value} {m n:Nat} (hg:W.heap[g]?=some (.cells #[v1,v2] 26 (0,0))) (h1:Nm W v1 m) (h2:Nm W v2 n) :
    Calls Tryz.prog 152 #[.slice (some ⟨g,0,none⟩) 2 2] W fun e w'=>∃ v',e=.returned (.tuple #[v',.int .i64 (mE m n)])∧Num w' v' (mN m n)∧Below W.heap.size W w':=by
  obtain ⟨xs,s1,l1,rfl⟩:=h1
  obtain ⟨ys,s2,l2,rfl⟩:=h2
  refine (mul_any _ _ _ (natList_at hg s1 s2) (pair_lim l1 l2)).mono ?_
  rintro e w' ⟨v',h1,h2,h3⟩
  rw [(mul2_N xs ys).1] at h2
  rw [(mul2_N xs ys).2] at h1
  exact ⟨v',h1,h2,h3⟩
theorem mulI_any (va vb:Value) (x y:Int) (w:World) (ha:IntV w va x) (hb:IntV w vb y):Calls Tryz.prog 118 #[va,vb] w fun e w'=>∃ v',e=.returned (.tuple #[v',.int .i64 (zE (x*y))])∧IntK w' v' (zN (x*y))∧Below w.heap.size w w':=by
  obtain ⟨n1,a1,k1,c1,t1,rfl,N1',R1⟩:=ha.rd
  obtain ⟨n2,a2,k2,c2,t2,rfl,N2',R2⟩:=hb.rd
  have N1:=Lib.hid N1'; have N2:=Lib.hid N2'
  clear ha hb N1' N2'
  go_enter Tryz.func118,Tryz.ntmps118
  go_wp2
  obtain ⟨W,eW,h1,h2,h3,bel,hsz⟩:=alloc3 w (Obj.cells #[Value.bool n1,Value.slice a1 k1 c1] 50) (Obj.cells #[Value.bool n2,Value.slice a2 k2 c2] 50) (Obj.cells #[Value.bool false,Value.slice none 0 0] 50)
  rw [eW]
  obtain ⟨p0,p1,f0,f1,_⟩:=blk2 h1
  obtain ⟨q0,q1,r0,r1,_⟩:=blk2 h2
  have H3:=Lib.hid h3; have HSZ:=Lib.hid hsz
  clear eW h1 h2 h3
  have STAY:Hid (∀ w',Below W.heap.size W w'→w'.cell? ⟨w.heap.size,0,none⟩=some (.bool n1)∧w'.cell? ⟨w.heap.size,1,none⟩=some (.slice a1 k1 c1)∧w'.cell? ⟨w.heap.size+1,0,none⟩=some (.bool n2)∧w'.cell? ⟨w.heap.size+1,1,none⟩=some (.slice a2 k2 c2)∧Below W.heap.size W w'∧W.heap.size≤w'.heap.size) :=
    Lib.hid (fun w' h=>⟨cell_to h p0 (by omega),cell_to h p1 (by omega),cell_to h q0 (by omega),cell_to h q1 (by omega),h,h.size⟩)
  have R1':Hid (∀ v w1,v=.agg #[.bool n1,.slice a1 k1 c1]→Below W.heap.size W w1→Calls Tryz.prog 100 #[v] w1 fun e w'=>e=.returned (.agg #[.slice a1 t1 c1,.bool (sgn x)])∧Below w1.heap.size w1 w'∧w'.heap.size=w1.heap.size+3):=Lib.hid (fun v w1 e h=>by subst e; exact R1 w1 (below_of bel h))
  have R2':Hid (∀ v w1,v=.agg #[.bool n2,.slice a2 k2 c2]→Below W.heap.size W w1→Calls Tryz.prog 100 #[v] w1 fun e w'=>e=.returned (.agg #[.slice a2 t2 c2,.bool (sgn y)])∧Below w1.heap.size w1 w'∧w'.heap.size=w1.heap.size+3):=Lib.hid (fun v w1 e h=>by subst e; exact R2 w1 (below_of bel h))
  have hB0:=(Below.refl W.heap.size W).drew
  clear R1 R2
  go_cut [6,7] (fun s5 s6 wx=>Rd2 W wx s5 s6 (.agg #[.slice a1 t1 c1,.bool (sgn x)]) (.agg #[.slice a2 t2 c2,.bool (sgn y)]))
  case first =>
    clear p0 p1 q0 q1 f0 f1 r0 r1 hsz
    go_region_held3 (fun w'=>w'.cell? ⟨w.heap.size,0,none⟩=some (.bool n1)∧w'.cell? ⟨w.heap.size,1,none⟩=some (.slice a1 k1 c1)∧w'.cell? ⟨w.heap.size+1,0,none⟩=some (.bool n2)∧w'.cell? ⟨w.heap.size+1,1,none⟩=some (.slice a2 k2 c2)∧Below W.heap.size W w'∧W.heap.size≤w'.heap.size)
      ((try go_split_ands; refine STAY.out _ ?_; first | assumption | exact below_to (by assumption) (by assumption) | exact Below.alloc (by assumption) (by first | omega | (simp; done) | (simp; omega)) _ | exact Below.alloc (Below.alloc (by assumption) (by first | omega | (simp; done) | (simp; omega)) _) (by first | omega | (simp; done) | (simp; omega)) _ | exact Below.setCell (Below.setCell (by assumption) (by first | omega | (simp; done) | (simp; omega)) _) (by first | omega | (simp; done) | (simp; omega)) _ | exact Below.alloc (Below.setCell (Below.setCell (by assumption) (by first | omega | (simp; done) | (simp; omega)) _) (by first | omega | (simp; done) | (simp; omega)) _) (by first | omega | (simp; done) | (simp; omega)) _ | exact Below.setCell (Below.setCell (Below.setCell (Below.setCell (by assumption) (by first | omega | (simp; done) | (simp; omega)) _) (by first | omega | (simp; done) | (simp; omega)) _) (by first | omega | (simp; done) | (simp; omega)) _) (by first | omega | (simp; done) | (simp; omega)) _))
      (first
      | (go_at_call 100; go_split_ands; first | (refine Calls.mono (R1'.out _ _ ?_ (by assumption)) ?_; (exact rfl); rintro e w1 ⟨rfl,hbx1,hs1⟩; have hk1:=below_to hbx1 (by assumption); obtain ⟨hc1,hf1⟩:=bcell hbx1; (try simp at hs1)) | (refine Calls.mono (R2'.out _ _ ?_ (by assumption)) ?_; (exact rfl); rintro e w2 ⟨rfl,hbx2,hs2⟩; have hk2:=below_to hbx2 (by assumption); obtain ⟨hc2,hf2⟩:=bcell hbx2; (try simp at hs2); (try simp only [hs1] at hs2))))
    all_goals
      (go_wp2_with fail
       go_meet
       clear hc1 hf1 hc2 hf2
       refine ⟨_,_,_,_,_,_,rfl,rfl,rfl,rfl, ?_, ?_, ?_, ?_,by first | assumption | (go_split_ands; assumption)⟩)
    all_goals
      repeat (first
       | ((with_reducible refine ch_new ?_ ?_); (first | omega | (simp only [sz_alloc,sz_set,sz_drew]; omega) | (focus (simp only [sz_alloc,sz_set,sz_drew]; done))); exact rfl)
       | ((with_reducible refine ch_lt ?_ ?_); (first | omega | (simp only [sz_alloc,sz_set,sz_drew]; omega) | (focus (simp only [sz_alloc,sz_set,sz_drew]; done))))
       | (with_reducible refine ch_same ?_)
       | ((with_reducible refine ch_set ?_ ?_); (first | (right; decide) | (left; (first | omega | (simp only [sz_alloc,sz_set,sz_drew]; omega) | (focus (simp only [sz_alloc,sz_set,sz_drew]; done))))))
       | ((with_reducible refine ch_below hbx2 ?_ ?_); (first | omega | (simp only [sz_alloc,sz_set,sz_drew]; omega) | (focus (simp only [sz_alloc,sz_set,sz_drew]; done))))
       | ((with_reducible refine ch_below hbx1 ?_ ?_); (first | omega | (simp only [sz_alloc,sz_set,sz_drew]; omega) | (focus (simp only [sz_alloc,sz_set,sz_drew]; done))))
       | (with_reducible refine ch_drew ?_)
       | ((with_reducible refine is_new ?_ ?_); (first | omega | (simp only [sz_alloc,sz_set,sz_drew]; omega) | (focus (simp only [sz_alloc,sz_set,sz_drew]; done))); (simp; done))
       | ((with_reducible refine is_lt ?_ ?_); (first | omega | (simp only [sz_alloc,sz_set,sz_drew]; omega) | (focus (simp only [sz_alloc,sz_set,sz_drew]; done))))
       | (with_reducible refine is_set ?_)
       | ((with_reducible refine is_below hbx2 ?_ ?_); (first | omega | (simp only [sz_alloc,sz_set,sz_drew]; omega) | (focus (simp only [sz_alloc,sz_set,sz_drew]; done))))
       | ((with_reducible refine is_below hbx1 ?_ ?_); (first | omega | (simp only [sz_alloc,sz_set,sz_drew]; omega) | (focus (simp only [sz_alloc,sz_set,sz_drew]; done))))
       | (with_reducible refine is_drew ?_))
  case rest =>
    obtain ⟨g1,g2,x1,y1,x2,y2,rfl,rfl,e1,e2,p0,p1,q0,q1,hBW⟩:=hcut
    simp only [Value.agg.injEq,Array.mk.injEq,List.cons.injEq,and_true] at e1 e2
    obtain ⟨rfl,rfl⟩:=e1
    obtain ⟨rfl,rfl⟩:=e2
    have hB:=below_of bel hBW
    obtain ⟨_,T1,M1'⟩:=(N1.out.below hB).parts
    obtain ⟨_,T2,M2'⟩:=(N2.out.below hB).parts
    have M1:=Lib.hid M1'; have M2:=Lib.hid M2'
    have hR:=(hBW.block _ HSZ.out).trans H3.out
    have hR':_[w.heap.size+1+1]?=_:=hR
    obtain ⟨k0,k1,f0,f1,hlt⟩:=blk2 hR
    obtain ⟨k0',k1',f0',f1',_⟩:=blk2 hR'
    have HR:=Lib.hid hR
    have HB:=Lib.hid hB
    clear hB hBW N1 N2 STAY R1' R2' hB0 M1' M2' hR hR' H3 HSZ
    have HL2:w.heap.size≤w.heap.size+1+1:=by omega
    by_cases hx:x=0
    · have hd:((t1:Int) == 0)=true:=by rw [T1.2 hx]; rfl
      have E:Hid (zE (x*y)=0∧zN (x*y)=0):=Lib.hid (by rw [hx,Int.zero_mul]; exact z_zero)
      clear hx T1 T2
      go_wp2_with (go_at_call 151; refine (zero_is _ _ _ _).mono ?_; rintro e w' ⟨rfl,rfl⟩)
      rw [E.out.1,E.out.2]
      refine bodyPost_ret (v:=.tuple #[.agg #[.bool false,.slice none 0 0],.int .i64 0]) ?_ rfl ⟨_,rfl,intk_zero _,(HB.out.setCell (p:=⟨w.heap.size+1+1,0,none⟩) HL2 _).setCell (p:=⟨w.heap.size+1+1,1,none⟩) HL2 _⟩
      simp [results,Tryz.results118,go_sem, *]
    · have hd:((t1:Int) == 0)=false:=by rw [beq_eq_false_iff_ne]; intro e; exact hx (T1.1 (by omega))
      by_cases hy:y=0
      · have hd2:((t2:Int) == 0)=true:=by rw [T2.2 hy]; rfl
        have E:Hid (zE (x*y)=0∧zN (x*y)=0):=Lib.hid (by rw [hy,Int.mul_zero]; exact z_zero)
        clear hx hy T1 T2
        go_wp2_with (go_at_call 151; refine (zero_is _ _ _ _).mono ?_; rintro e w' ⟨rfl,rfl⟩)
        rw [E.out.1,E.out.2]
        refine bodyPost_ret (v:=.tuple #[.agg #[.bool false,.slice none 0 0],.int .i64 0]) ?_ rfl ⟨_,rfl,intk_zero _,(HB.out.setCell (p:=⟨w.heap.size+1+1,0,none⟩) HL2 _).setCell (p:=⟨w.heap.size+1+1,1,none⟩) HL2 _⟩
        simp [results,Tryz.results118,go_sem, *]
      · have hd2:((t2:Int) == 0)=false:=by rw [beq_eq_false_iff_ne]; intro e; exact hy (T2.1 (by omega))
        obtain ⟨E1a,E2a,E3a⟩:=mul_zE hx hy
        have E1:=Lib.hid E1a; have E2:=Lib.hid E2a; have E3:=Lib.hid E3a
        clear hx hy T1 T2 E1a E2a E3a
        go_wp2_with (go_at_call 151; refine (zero_is _ _ _ _).mono ?_; rintro e w' ⟨rfl,rfl⟩)
        obtain ⟨wo,rfl⟩:∃ wo:World,wo=wc:=⟨_,rfl⟩
        have STAY2:Hid (∀ w',Below wo.heap.size wo w'→w'.cell? ⟨g1,0,none⟩=some (.slice a1 t1 c1)∧w'.cell? ⟨g2,0,none⟩=some (.slice a2 t2 c2)∧Below wo.heap.size wo w') :=
          Lib.hid (fun w' h=>⟨cell_to h p0 (World.block_lt_of_cell? wo _ p0),cell_to h q0 (World.block_lt_of_cell? wo _ q0),h⟩)
        have P1:=Lib.hid p1; have Q1:=Lib.hid q1
        have hB0:=(Below.refl wo.heap.size wo).drew
        go_cut [8,9] (fun s8 s9 wy=>s9=.int .i64 (zE (x*y))∧Num wy s8 (zN (x*y)).natAbs∧Below wo.heap.size wo wy)
        case first =>
          clear k0 k1 f0 f1 k0' k1' f0' f1' p1 q1 HR HB
          go_region_held3 (fun w'=>w'.cell? ⟨g1,0,none⟩=some (.slice a1 t1 c1)∧w'.cell? ⟨g2,0,none⟩=some (.slice a2 t2 c2)∧Below wo.heap.size wo w')
            ((try go_split_ands; refine STAY2.out _ ?_; first | assumption | exact below_to (by assumption) (by assumption) | exact Below.alloc (by assumption) (by first | omega | (simp; done) | (simp; omega)) _ | exact Below.alloc (Below.drew (by assumption)) (by first | omega | (simp; done) | (simp; omega)) _ | exact Below.drew (Below.alloc (by assumption) (by first | omega | (simp; done) | (simp; omega)) _)))
            (first
            | (go_at_call 143; refine (limbs_is _ _ _ _).mono ?_; rintro e w' ⟨rfl,rfl⟩)
            | (go_at_call 152; go_split_ands; refine Calls.mono (mul2_at (m:=x.natAbs) (n:=y.natAbs) (v1:=.slice a1 t1 c1) (v2:=.slice a2 t2 c2) ?_ ?_ ?_) ?_; (exact heap_alloc_new _ _); (exact M1.out.nm.below (by assumption)); (exact M2.out.nm.below (by assumption)); rintro e w5 ⟨v5,rfl,hn5,hb5⟩; obtain ⟨a5,k5,c5,rfl⟩:=hn5.nm.shape))
          go_wp2_with fail
          rw [E1.out]
          rw [E2.out] at hn5
          go_meet
          exact ⟨rfl,hn5,by first | assumption | (go_split_ands; assumption) | exact below_to (by assumption) (by assumption)⟩
        case rest =>
          obtain ⟨rfl,hn,hBy⟩:=hcut
          obtain ⟨a5,k5,c5,rfl⟩:=hn.nm.shape
          have u1:=cell_to hBy P1.out (World.block_lt_of_cell? wo _ P1.out)
          have u2:=cell_to hBy Q1.out (World.block_lt_of_cell? wo _ Q1.out)
          have hR:=(hBy.block _ hlt).trans HR.out
          have hR':wc.heap[w.heap.size+1+1]?=_:=hR
          clear k0 k1 f0 f1 k0' k1' f0' f1' p0 p1 q0 q1
          obtain ⟨k0,k1,f0,f1,_⟩:=blk2 hR
          obtain ⟨k0',k1',f0',f1',_⟩:=blk2 hR'
          have HRY:=Lib.hid hR
          have BY:=Lib.hid (below_of HB.out hBy)
          have HN:=Lib.hid hn
          clear hR hR' hBy hn hB0
          rcases zE_or (x*y) with ⟨z1,z2⟩ | ⟨z1,z2⟩
          · have Z:=Lib.hid z2; have Y:=Lib.hid z1
            rw [z1]
            clear z1 z2
            go_wp2
            refine bodyPost_ret (v:=.tuple #[.agg #[.bool false,.slice none 0 0],.int .i64 5]) ?_ rfl ⟨_,by rw [Y.out],by rw [Z.out]; exact intk_zero _,(BY.out.setCell (p:=⟨w.heap.size+1+1,0,none⟩) HL2 _).setCell (p:=⟨w.heap.size+1+1,1,none⟩) HL2 _⟩
            simp [results,Tryz.results118,go_sem, *]
          · have Z:=Lib.hid z2
            rw [z2] at HN
            have Y:=Lib.hid z1
            rw [z1]
            clear z1 z2
            go_wp2
            have K:IntK wc (.agg #[.bool (!(sgn x == sgn y)),.slice a5 k5 c5]) (x*y):=⟨_,by rw [E3.out],HN.out⟩
            refine bodyPost_ret (v:=.tuple #[.agg #[.bool (!(sgn x == sgn y)),.slice a5 k5 c5],.int .i64 0]) ?_ rfl ⟨_,by rw [Y.out],by rw [Z.out]; exact K.far HRY.out,(BY.out.setCell (p:=⟨w.heap.size+1+1,0,none⟩) HL2 _).setCell (p:=⟨w.heap.size+1+1,1,none⟩) HL2 _⟩
            simp [results,Tryz.results118,go_sem, *]
end Go.Proofs.YtacbkpenohcgjaaGreat
namespace Go.Proofs.YtacbkpenohcgjaaGreat
open Go.RowKit Mth
theorem nuc_to {w w':World} {b b':Nat} {v:Value} {z:Int} (h:NuC w b v z) (hb:b'≤b) (hB:Below w.heap.size w w'):NuC w' b' v z:=(h.below hB).mono hb
theorem nuc_new (w:World) (o:Obj):Below w.heap.size w (w.alloc o):=(Below.refl _ _).alloc (Nat.le_refl _) _
theorem nuc_to4 {w:World} {b b' R:Nat} {v y0 y1 y2 y3:Value} {z:Int} (h:NuC w b v z) (hR:R<b) (hb:b'≤b):NuC ((((w.setCell ⟨R,0,none⟩ y0).setCell ⟨R,1,none⟩ y1).setCell ⟨R,2,none⟩ y2).setCell ⟨R,3,none⟩ y3) b' v z:=((((h.far hR).far hR).far hR).far hR).mono hb
theorem NuC.away {w:World} {base R j:Nat} {v x:Value} {z:Int} {cs:Array Value} {T:TypeId} (h:NuC w base v z) (hR:w.heap[R]?=some (.cells cs T (0,0))) (hT:T≠37):NuC (w.setCell ⟨R,j,none⟩ x) base v z:=by
  obtain ⟨u,h0,h1⟩:=h; exact ⟨u,h0,h1.away hR hT⟩
theorem blk_set {w:World} {g i:Nat} {cs ds:Array Value} {T:TypeId} {v:Value} (h:w.heap[g]?=some (.cells cs T (0,0))) (e:cs.setIfInBounds i v=ds):(w.setCell ⟨g,i,none⟩ v).heap[g]?=some (.cells ds T (0,0)):=by
  rw [heap_setCell_same w g i cs T v h,e]
theorem blk_set4 {w:World} {g:Nat} {a b c d a' b' c' d':Value} {T:TypeId} (h:w.heap[g]?=some (.cells #[a,b,c,d] T (0,0))):((((w.setCell ⟨g,0,none⟩ a').setCell ⟨g,1,none⟩ b').setCell ⟨g,2,none⟩ c').setCell ⟨g,3,none⟩ d').heap[g]?=some (.cells #[a',b',c',d'] T (0,0)) :=
  blk_set (blk_set (blk_set (blk_set h rfl) rfl) rfl) rfl
theorem blk_new {w:World} {cs:Array Value} {T:TypeId} {g:Nat} (h:g=w.heap.size):(w.alloc (.cells cs T)).heap[g]?=some (.cells cs T (0,0)):=by subst h; exact heap_alloc_new w _
theorem blk_below {w w':World} {B g:Nat} {x:Obj} (hb:Below B w w') (hg:g<B) (h:w.heap[g]?=some x):w'.heap[g]?=some x:=(hb.block g hg).trans h
theorem blk_drew {w:World} {g:Nat} {x:Obj} (h:w.heap[g]?=some x):w.drew.heap[g]?=some x:=h
def DivO (W wx:World) (x y:Int) (s e:Value):Prop:=∃ (g:Nat) (aq:Option Addr) (kq cq:Nat) (bq:Bool) (ar:Option Addr) (kr cr:Nat) (br:Bool),s=.pointer (some ⟨g,0,none⟩)∧e=.int .i64 0∧wx.heap[g]?=some (.cells #[.slice aq kq cq,.bool bq,.slice ar kr cr,.bool br] 153 (0,0))∧W.heap.size≤g∧NuC wx W.heap.size (.agg #[.slice aq kq cq,.bool bq]) x∧NuC wx W.heap.size (.agg #[.slice ar kr cr,.bool br]) y∧Below W.heap.size W wx
theorem set_below {B g i:Nat} {w w':World} {v:Value} (h:Below B w w') (hg:B≤g):Below B w (w'.setCell ⟨g,i,none⟩ v):=h.setCell (p:=⟨g,i,none⟩) hg v
theorem divO_quo {V wc w5:World} {y z:Int} {g b:Nat} {aq:Option Addr} {kq cq:Nat} {bq:Bool} {ar:Option Addr} {kr cr:Nat} {br:Bool} {a5:Option Addr} {k5 c5:Nat} {b5:Bool} (hg:wc.heap[g]?=some (.cells #[.slice aq kq cq,.bool bq,.slice ar kr cr,.bool br] 153 (0,0))) (hV:V.heap.size≤g) (hr:NuC wc V.heap.size (.agg #[.slice ar kr cr,.bool br]) y) (hB:Below V.heap.size V wc) (h5:Below wc.heap.size wc w5) (hn:NuC w5 b (.agg #[.slice a5 k5 c5,.bool b5]) z) (hb:V.heap.size≤b) :
    DivO V ((w5.setCell ⟨g,0,none⟩ (.slice a5 k5 c5)).setCell ⟨g,1,none⟩ (.bool b5)) z y (.pointer (some ⟨g,0,none⟩)) (.int .i64 0):=by
  have hlt:=(Array.getElem?_eq_some_iff.1 hg).1
  have e5:=blk_below h5 hlt hg
  have e6:=blk_set (v:=.slice a5 k5 c5) (i:=0) e5 rfl
  exact ⟨g,a5,k5,c5,b5,ar,kr,cr,br,rfl,rfl,blk_set e6 rfl,hV,(((hn.away e5 (by decide)).away e6 (by decide)).mono hb),(((hr.below h5).away e5 (by decide)).away e6 (by decide)),set_below (set_below (hB.trans (h5.mono hB.size)) hV) hV⟩
theorem intk_four {w:World} {R S:Nat} {v x0 x1 y0 y1:Value} {z:Int} {a b:Bool} {ao bo:Option Addr} {n c m d:Nat} (h:IntK w v z) (hR:w.heap[R]?=some (.cells #[.bool a,.slice ao n c] 50 (0,0))) (hS:w.heap[S]?=some (.cells #[.bool b,.slice bo m d] 50 (0,0))) (hne:S≠R) :
    IntK ((((w.setCell ⟨R,0,none⟩ x0).setCell ⟨R,1,none⟩ x1).setCell ⟨S,0,none⟩ y0).setCell ⟨S,1,none⟩ y1) v z:=by
  refine (h.far hR (y0:=x0) (y1:=x1)).far (R:=S) (T:=50) (x:=b) (ao:=bo) (n:=m) (c:=d) ?_
  rw [heap_setCell_other _ ⟨R,1,none⟩ S _ hne,heap_setCell_other _ ⟨R,0,none⟩ S _ hne]
  exact hS
theorem dvs_bounds {x y:Int} (hx:x.natAbs<Big) (hy:y.natAbs<Big) (h0:y≠0):(qC x y).natAbs<Big∧(rC x y).natAbs<Big∧(qE x y).natAbs<Big∧(rE x y).natAbs<Big∧(qF x y).natAbs<Big∧(qU x y).natAbs<Big:=by
  have h1:=amt_qC x y
  have h2:=amt_rC x y
  have h3:=rC_bounds (a:=x) h0
  have h4:x.natAbs / y.natAbs≤x.natAbs:=Nat.div_le_self _ _
  have h5:=rE_bounds (a:=x) h0
  have h6:rC x y≠0→x.natAbs / y.natAbs+1≤x.natAbs:=by
    intro hr
    have hr':x.natAbs % y.natAbs≠0:=by rw [← h2]; omega
    have hm:=Nat.mod_add_div x.natAbs y.natAbs
    rcases Nat.eq_zero_or_pos (x.natAbs / y.natAbs) with hz | hz
    · rw [hz] at hm ⊢
      rw [Nat.mul_zero] at hm; omega
    · have h7:x.natAbs / y.natAbs≤y.natAbs*(x.natAbs / y.natAbs):=Nat.le_mul_of_pos_left _ (by omega)
      omega
  have hE:=qE_near x y
  refine ⟨by omega,by omega, ?_,by omega, ?_, ?_⟩
  · unfold qE
    by_cases h:rC x y<0
    · have:=h6 (by omega)
      rw [if_pos h]; split<;>omega
    · rw [if_neg h]; omega
  · rcases f_cases x y with ⟨_,e,_⟩ | ⟨hr,_,e,_⟩ | ⟨_,_,e,_⟩
    · rw [e]; omega
    · have:=h6 hr; rw [e]; omega
    · rw [e]; omega
  · rcases f_cases x y with ⟨_,_,e⟩ | ⟨_,_,_,e⟩ | ⟨hr,_,_,e⟩
    · rw [e]; omega
    · rw [e]; omega
    · have:=h6 hr; rw [e]; omega
theorem big_hugeN {n:Nat} (h:n<Big):n<HugeN:=Nat.lt_of_lt_of_le h big_huge
theorem one_huge (b:Bool):(sg b 1).natAbs<HugeN:=by
  rw [natAbs_sg]
  have h:B64 ^ 1≤B64 ^ Lm:=pow_mono' (by unfold Lm; omega)
  have:HugeN=B64 ^ Lm:=rfl
  have:(1:Nat)<B64 ^ 1:=by unfold B64; omega
  omega
def DvC (w:World) (s1 s2:Value) (x y:Int):Prop:=∀ w1,Below w.heap.size w w1→Calls Tryz.prog 153 #[s1,s2] w1 fun e w'=>∃ aq kq cq bq ar kr cr br,e=.returned (.tuple #[.agg #[.slice aq kq cq,.bool bq,.slice ar kr cr,.bool br],.int .i64 0])∧NuC w' w1.heap.size (.agg #[.slice aq kq cq,.bool bq]) (qC x y)∧NuC w' w1.heap.size (.agg #[.slice ar kr cr,.bool br]) (rC x y)∧Below w1.heap.size w1 w'
theorem dvc_of {w:World} {a1 a2:Option Addr} {t1 c1 t2 c2:Nat} {x y:Int} (N1:NuV w (.agg #[.slice a1 t1 c1,.bool (sgn x)]) x) (N2:NuV w (.agg #[.slice a2 t2 c2,.bool (sgn y)]) y) (hx:x.natAbs<Big) (hy:y.natAbs<Big) (h0:y≠0):DvC w (.agg #[.slice a1 t1 c1,.bool (sgn x)]) (.agg #[.slice a2 t2 c2,.bool (sgn y)]) x y:=by
  intro w1 hB
  refine Calls.mono (divide_fine _ _ x y w1 (N1.below hB) (N2.below hB) h0 ?_ (fun u v w2 _ m n=>quo_short u v _ _ w2 m n hx hy (by omega))) ?_
  rotate_left
  · rintro e w' ⟨q,b,r,d,he,hq,hr,hb⟩
    obtain ⟨aq,kq,cq,bq,e1⟩:=hq.shape
    obtain ⟨ar,kr,cr,br,e2⟩:=hr.shape
    simp only [Value.agg.injEq,Array.mk.injEq,List.cons.injEq,and_true] at e1 e2
    obtain ⟨rfl,rfl⟩:=e1
    obtain ⟨rfl,rfl⟩:=e2
    exact ⟨_,_,_,_,_,_,_,_,he,hq,hr,hb⟩
  intro a1 k1 c1 b1 a2 k2 c2 b2 e1 e2
  simp only [Value.agg.injEq,Array.mk.injEq,List.cons.injEq,Value.slice.injEq,and_true] at e1 e2
  obtain ⟨⟨_,rfl,_⟩,_⟩:=e1
  have hl:=num_long (N1.parts.2.2)
  by_cases h:4096<t1
  · have:=hl.1 h; omega
  · omega
end Go.Proofs.YtacbkpenohcgjaaGreat
namespace Go.Proofs.YtacbkpenohcgjaaGreat
open Go.RowKit Mth
end Go.Proofs.YtacbkpenohcgjaaGreat
namespace Go.Proofs.YtacbkpenohcgjaaGreat
open Go.RowKit Mth
end Go.Proofs.YtacbkpenohcgjaaGreat
namespace Go.Proofs.YtacbkpenohcgjaaGreat
open Go.RowKit Mth
theorem blk_below' {w w':World} {g:Nat} {x:Obj} (hb:Below w.heap.size w w') (h:w.heap[g]?=some x):w'.heap[g]?=some x:=(hb.block g (Array.getElem?_eq_some_iff.1 h).1).trans h
theorem TalO.below {w w':World} {base g m P N:Nat} (h:TalO w base g m P N) (hb:Below w.heap.size w w'):TalO w' base g m P N:=by
  obtain ⟨u,d,xs,ys,h1,h2,h3,h4⟩:=h
  exact ⟨u,d,xs,ys,blk_below' hb h1,own_other h2 (grown_of_below hb none) (fun _ _ e=>by cases e),own_other h3 (grown_of_below hb none) (fun _ _ e=>by cases e),h4⟩
def IntL (w:World) (v:Value) (zs:List Int):Prop:=∃ (ao:Option Addr) (cap:Nat),v=.slice ao zs.length cap∧zs.length≤cap∧cap≤maxLen∧zs.length≤4000000∧(ao=none→cap=0) ∧
  (0<zs.length→∃ b off,ao=some ⟨b,off,none⟩∧b<w.heap.size∧∀ j,j<zs.length→∃ (n:Bool) (a:Option Addr) (k c:Nat),w.cell? ⟨b,off+j*2,none⟩=some (.bool n)∧w.cell? ⟨b,off+j*2+1,none⟩=some (.slice a k c)∧IntV w (.agg #[.bool n,.slice a k c]) (zs.getD j 0))
theorem IntL.below {w w':World} {v:Value} {zs:List Int} (h:IntL w v zs) (hb:Below w.heap.size w w'):IntL w' v zs:=by
  obtain ⟨ao,cap,h0,h1,h2,h3,h4,h5⟩:=h
  refine ⟨ao,cap,h0,h1,h2,h3,h4,fun hp=>?_⟩
  obtain ⟨b,off,rfl,hlt,hc⟩:=h5 hp
  refine ⟨b,off,rfl,Nat.lt_of_lt_of_le hlt hb.size,fun j hj=>?_⟩
  obtain ⟨n,a,k,c,c0,c1,hi⟩:=hc j hj
  exact ⟨n,a,k,c,cell_to hb c0 hlt,cell_to hb c1 hlt,hi.below hb⟩
theorem IntL.shape {w:World} {v:Value} {zs:List Int} (h:IntL w v zs):∃ ao c,v=.slice ao zs.length c:=by
  obtain ⟨ao,c,h0,_⟩:=h; exact ⟨ao,c,h0⟩
end Go.Proofs.YtacbkpenohcgjaaGreat
namespace Go.Proofs.YtacbkpenohcgjaaGreat
open Go.RowKit Mth
theorem IntK.intV {w:World} {v:Value} {z:Int} (h:IntK w v z) (hz:z.natAbs<Big):IntV w v z:=by
  obtain ⟨u,rfl,xs,s,l,t,e⟩:=h
  refine ⟨_,u,xs,rfl,s,l, ?_,by rw [e,sg_sgn]⟩
  have:=length_of_val B64_pos t maxL (by rw [e]; exact hz)
  unfold maxL at this; omega
theorem small_big {n:Nat} (h:n<18446744073709551616):n<Big:=by
  have h1:B64 ^ 1≤B64 ^ maxL:=Nat.pow_le_pow_right (by have:=B64_pos; omega) (by unfold maxL; omega)
  have h2:Big=B64 ^ maxL:=rfl
  have h3:(18446744073709551616:Nat)=B64 ^ 1:=by unfold B64; rfl
  omega
end Go.Proofs.YtacbkpenohcgjaaGreat
