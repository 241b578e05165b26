import Derived.Test.YtacbkpenohcgjaaGreatVYB4
import Derived.Test.YtacbkpenohcgjaaGreatVYJ
import Derived.Test.YtacbkpenohcgjaaGreatVZB4
import Derived.Deep.RegionWith
import Derived.Deep.RegionHeld3
set_option linter.unusedVariables false
set_option linter.unusedSimpArgs false
set_option maxHeartbeats 16000000
set_option maxRecDepth 100000
namespace Go.Proofs.YtacbkpenohcgjaaGreat
open Go.RowKit Mth
theorem zv_len {w:World} {ao:Option Addr} {n:Bool} {k c:Nat} {z:Int} (h:ZV w (.agg #[.bool n,.slice ao k c]) z):k=0↔z=0:=by
  obtain ⟨_,ys,_,hl,ht,hv,rfl⟩:=h.parts
  constructor
  · intro h0; obtain rfl:ys=[]:=List.eq_nil_of_length_eq_zero h0
    have:(0:Nat)=z.natAbs:=hv
    omega
  · intro h0
    rcases Nat.eq_zero_or_pos ys.length with h1 | h1
    · exact h1
    · have h2:=val_ge_top (B:=B16) ht h1
      have h3:0<B16 ^ (ys.length - 1):=Nat.pow_pos (by unfold B16; omega)
      have h4:val B16 ys=0:=by rw [hv,h0]; rfl
      omega
def rUF (up:Bool) (x y:Int):Int:=if up=true then qU x y else qF x y
theorem rUF_t (x y:Int):rUF true x y=qU x y:=if_pos rfl
theorem rUF_f (x y:Int):rUF false x y=qF x y:=if_neg (by simp)
structure LtZ (z:Int):Prop where
  out:z.natAbs<HugeD
theorem rounded_any (va vb:Value) (x y:Int) (up:Bool) (w:World) (ha:ZV w va x) (hb:ZV w vb y) (hx:x.natAbs<HugeD) (hy:y.natAbs<HugeD) (h0:y≠0) :
    Calls Tryz.prog 49 #[va,vb,.bool up] w fun e w'=>∃ v',e=.returned v'∧ZV w' v' (rUF up x y)∧Below w.heap.size w w':=by
  obtain ⟨n1,a1,k1,c1,rfl⟩:=ha.shape
  obtain ⟨n2,a2,k2,c2,rfl⟩:=hb.shape
  obtain ⟨rfl,_⟩:=ha.parts
  obtain ⟨rfl,_⟩:=hb.parts
  have LQ:Hid (LtZ (qC x y)):=Lib.hid ⟨by rw [amt_qC]; exact Nat.lt_of_le_of_lt (Nat.div_le_self _ _) hx⟩
  have CU:Hid (∀ w1,Below w.heap.size w w1→Calls Tryz.prog 48 #[.agg #[.bool (sgn x),.slice a1 k1 c1],.agg #[.bool (sgn y),.slice a2 k2 c2]] w1 fun e w'=>∃ v1 v2,e=.returned (.tuple #[v1,v2])∧ZV w' v1 (qC x y)∧ZV w' v2 (rC x y)∧Below w1.heap.size w1 w'):=Lib.hid (fun w1 h=>cut_any _ _ x y w1 (ha.below h) (hb.below h) hy h0)
  clear ha hb hx hy h0
  go_enter Tryz.func49,Tryz.ntmps49
  go_wp2_with fail
  obtain ⟨W,eW,h1,h2,h3,bel,hsz⟩:=alloc3 w (Obj.cells #[Value.bool (sgn x),Value.slice a1 k1 c1] 61) (Obj.cells #[Value.bool (sgn y),Value.slice a2 k2 c2] 61) (Obj.cells #[Value.bool false,Value.slice none 0 0] 61)
  rw [eW]
  have hlw:w.heap.size+1+1<W.heap.size:=hsz
  have H1:=Lib.hid h1; have H2:=Lib.hid h2; have H3:Hid (W.heap[w.heap.size+1+1]?=_):=Lib.hid h3
  have BW:=Lib.hid bel
  clear eW h1 h2 h3 bel hsz
  refine (CU.out W BW.out).mono ?_
  rintro e w3 ⟨vq,vr,rfl,zq,zr,hb3⟩
  obtain ⟨nq,aq,kq,cq,rfl⟩:=zq.shape
  obtain ⟨nr,ar,kr,cr,rfl⟩:=zr.shape
  have hz3:=hb3.size
  obtain ⟨U,eU,hQ,hR,belU,hsU⟩:=alloc2 w3 (Obj.cells #[Value.bool nq,Value.slice aq kq cq] 61) (Obj.cells #[Value.bool nr,Value.slice ar kr cr] 61)
  have HL:=Lib.hid (zv_len zr)
  have ZQ:=Lib.hid (zq.below belU)
  have BU:=Lib.hid (below_of (below_of BW.out hb3) belU)
  have HRES:=Lib.hid (blk_below' belU (blk_below' hb3 H3.out))
  have HQ:=Lib.hid hQ
  obtain ⟨x0,x1,_,_,_⟩:=blk2 (blk_below' belU (blk_below' hb3 H1.out))
  obtain ⟨y0,y1,_,_,_⟩:=blk2 (blk_below' belU (blk_below' hb3 H2.out))
  obtain ⟨r0,r1,f0,f1,hlr⟩:=blk2 HRES.out
  obtain ⟨q0,q1,_,_,hlq⟩:=blk2 hQ
  obtain ⟨s0,s1,_,_,_⟩:=blk2 hR
  have hneq:w3.heap.size≠w.heap.size+1+1:=by omega
  have hl2:w.heap.size≤w.heap.size+1+1:=by omega
  clear zq zr hb3 hQ hR belU H1 H2 H3 CU
  have SAME:Hid (∀ (z:Int),qC x y=z→ZV ((U.setCell ⟨w.heap.size+1+1,0,none⟩ (.bool nq)).setCell ⟨w.heap.size+1+1,1,none⟩ (.slice aq kq cq)) (.agg #[.bool nq,.slice aq kq cq]) z∧Below w.heap.size w ((U.setCell ⟨w.heap.size+1+1,0,none⟩ (.bool nq)).setCell ⟨w.heap.size+1+1,1,none⟩ (.slice aq kq cq))):=Lib.hid (fun z e=>by
    subst e
    exact ⟨ZQ.out.far HRES.out,(BU.out.setCell (p:=⟨w.heap.size+1+1,0,none⟩) hl2 _).setCell (p:=⟨w.heap.size+1+1,1,none⟩) hl2 _⟩)
  by_cases hr:rC x y=0
  · have hk:kr=0:=HL.out.2 hr
    subst hk
    have S:=Lib.hid (SAME.out (rUF up x y) (by cases up; (rw [rUF_f]; unfold qF; rw [if_neg (fun h=>h.1 hr)]); (rw [rUF_t]; unfold qU; rw [if_neg (fun h=>h.1 hr)])))
    clear hr SAME
    go_wp2
    refine bodyPost_ret (v:=.agg #[.bool nq,.slice aq kq cq]) ?_ rfl ⟨_,rfl,S.out.1,S.out.2⟩
    simp [results,Tryz.results49,go_sem, *]
  · have hd:((kr:Int) == 0)=false:=by rw [beq_eq_false_iff_ne]; intro e; exact hr (HL.out.1 (by omega))
    have KEEP:Hid (∀ w',Below U.heap.size U w'→w'.cell? ⟨w3.heap.size,0,none⟩=some (.bool nq)∧w'.cell? ⟨w3.heap.size,1,none⟩=some (.slice aq kq cq)∧w'.heap[w.heap.size+1+1]?=some (.cells #[.bool false,.slice none 0 0] 61 (0,0))) :=
      Lib.hid (fun w' h=>⟨cell_to h q0 hlq,cell_to h q1 hlq,(h.block _ hlr).trans HRES.out⟩)
    have hone:(1:Nat)<HugeD:=Nat.lt_of_lt_of_le one_lt_big (Nat.le_trans big_huge huge_d)
    have O1:Hid (LtZ 1):=Lib.hid ⟨hone⟩
    have O2:Hid (LtZ (-1)):=Lib.hid ⟨hone⟩
    clear hone
    obtain ⟨bl,hbl⟩:∃ bl,(sgn x == sgn y)=bl:=⟨_,rfl⟩
    cases bl<;>cases up
    · have E:Hid (qC x y+(-1)=rUF false x y):=Lib.hid (by
        have e:sgn x≠sgn y:=by simpa using hbl
        rw [rUF_f]; unfold qF; rw [if_pos ⟨hr,e⟩]; omega)
      have ONE:=O2
      clear hr O1 O2 SAME
      go_wp2
      go_region_with (first
        | (go_at_call 43; refine Calls.mono (small1_any (-1) _ (by omega) (by omega)) ?_; rintro e w4 ⟨v4,rfl,z4,hb4⟩; obtain ⟨n4,a4,k4,c4,rfl⟩:=z4.shape; have hB4:=Lib.hid (below_of (Below.refl U.heap.size U).drew hb4); have HZ4:=Lib.hid z4; obtain ⟨o0,o1,hG4⟩:=KEEP.out _ hB4.out; obtain ⟨m0,m1,i0,i1,_⟩:=blk2 hG4; clear z4 hb4 hG4)
        | (go_at_call 45; refine Calls.mono (plus_any2 _ _ (qC x y) (-1) _ ?_ ?_ LQ.out.out ONE.out.out) ?_; (exact ZQ.out.below hB4.out); (exact HZ4.out); rintro e w5 ⟨v5,rfl,z5,hb5⟩; obtain ⟨n5,a5,k5,c5,rfl⟩:=z5.shape; have hB5:=Lib.hid (below_of hB4.out hb5); have HZ5:=Lib.hid z5; obtain ⟨u0,u1,hG5⟩:=KEEP.out _ hB5.out; obtain ⟨j0,j1,l0,l1,_⟩:=blk2 hG5; have HG5:=Lib.hid hG5; clear z5 hb5 hG5 m0 m1 i0 i1 o0 o1))
      all_goals
        have z6:=HZ5.out
        rw [E.out] at z6
        have Z6:=Lib.hid (z6.far (y0:=.bool n5) (y1:=.slice a5 k5 c5) HG5.out)
        have B6:=Lib.hid (((below_of BU.out hB5.out).setCell (p:=⟨w.heap.size+1+1,0,none⟩) hl2 (.bool n5)).setCell (p:=⟨w.heap.size+1+1,1,none⟩) hl2 (.slice a5 k5 c5))
        clear z6
        go_wp2
        refine bodyPost_ret (v:=.agg #[.bool n5,.slice a5 k5 c5]) ?_ rfl ⟨_,rfl,Z6.out,B6.out⟩
        simp [results,Tryz.results49,go_sem, *]
    · have S:=Lib.hid (SAME.out (rUF true x y) (by
        have e:sgn x≠sgn y:=by simpa using hbl
        rw [rUF_t]; unfold qU; rw [if_neg (fun h=>e h.2)]))
      clear hr O1 O2
      clear SAME KEEP
      go_wp2
      refine bodyPost_ret (v:=.agg #[.bool nq,.slice aq kq cq]) ?_ rfl ⟨_,rfl,S.out.1,S.out.2⟩
      simp [results,Tryz.results49,go_sem, *]
    · have S:=Lib.hid (SAME.out (rUF false x y) (by
        have e:sgn x=sgn y:=by simpa using hbl
        rw [rUF_f]; unfold qF; rw [if_neg (fun h=>h.2 e)]))
      clear hr O1 O2
      clear SAME KEEP
      go_wp2
      refine bodyPost_ret (v:=.agg #[.bool nq,.slice aq kq cq]) ?_ rfl ⟨_,rfl,S.out.1,S.out.2⟩
      simp [results,Tryz.results49,go_sem, *]
    · have E:Hid (qC x y+1=rUF true x y):=Lib.hid (by
        have e:sgn x=sgn y:=by simpa using hbl
        rw [rUF_t]; unfold qU; rw [if_pos ⟨hr,e⟩])
      have ONE:=O1
      clear hr O1 O2 SAME
      go_wp2
      go_region_with (first
        | (go_at_call 43; refine Calls.mono (small1_any (1) _ (by omega) (by omega)) ?_; rintro e w4 ⟨v4,rfl,z4,hb4⟩; obtain ⟨n4,a4,k4,c4,rfl⟩:=z4.shape; have hB4:=Lib.hid (below_of (Below.refl U.heap.size U).drew hb4); have HZ4:=Lib.hid z4; obtain ⟨o0,o1,hG4⟩:=KEEP.out _ hB4.out; obtain ⟨m0,m1,i0,i1,_⟩:=blk2 hG4; clear z4 hb4 hG4)
        | (go_at_call 45; refine Calls.mono (plus_any2 _ _ (qC x y) (1) _ ?_ ?_ LQ.out.out ONE.out.out) ?_; (exact ZQ.out.below hB4.out); (exact HZ4.out); rintro e w5 ⟨v5,rfl,z5,hb5⟩; obtain ⟨n5,a5,k5,c5,rfl⟩:=z5.shape; have hB5:=Lib.hid (below_of hB4.out hb5); have HZ5:=Lib.hid z5; obtain ⟨u0,u1,hG5⟩:=KEEP.out _ hB5.out; obtain ⟨j0,j1,l0,l1,_⟩:=blk2 hG5; have HG5:=Lib.hid hG5; clear z5 hb5 hG5 m0 m1 i0 i1 o0 o1))
      all_goals
        have z6:=HZ5.out
        rw [E.out] at z6
        have Z6:=Lib.hid (z6.far (y0:=.bool n5) (y1:=.slice a5 k5 c5) HG5.out)
        have B6:=Lib.hid (((below_of BU.out hB5.out).setCell (p:=⟨w.heap.size+1+1,0,none⟩) hl2 (.bool n5)).setCell (p:=⟨w.heap.size+1+1,1,none⟩) hl2 (.slice a5 k5 c5))
        clear z6
        go_wp2
        refine bodyPost_ret (v:=.agg #[.bool n5,.slice a5 k5 c5]) ?_ rfl ⟨_,rfl,Z6.out,B6.out⟩
        simp [results,Tryz.results49,go_sem, *]
end Go.Proofs.YtacbkpenohcgjaaGreat
namespace Go.Proofs.YtacbkpenohcgjaaGreat
open Go.RowKit Mth
def Eu (w w':World) (Q R O B R1 R2:Nat) (oq orr oo ob:Obj) (vq vr vo vb:Value) (zq zr zo zb:Int) (T:TypeId):Prop :=
  Below w.heap.size w w'∧(w'.heap[Q]?=some oq∧w'.heap[R]?=some orr∧w'.heap[O]?=some oo∧w'.heap[B]?=some ob)∧(IsB w' R1 T∧IsB w' R2 T)∧(ZV w' vq zq∧ZV w' vr zr∧ZV w' vo zo∧ZV w' vb zb)
theorem Eu.call {w w1 w2:World} {Q R O B R1 R2:Nat} {oq orr oo ob:Obj} {vq vr vo vb:Value} {zq zr zo zb:Int} {T:TypeId} (h:Eu w w1 Q R O B R1 R2 oq orr oo ob vq vr vo vb zq zr zo zb T) (hb:Below w1.heap.size w1 w2):Eu w w2 Q R O B R1 R2 oq orr oo ob vq vr vo vb zq zr zo zb T:=by
  obtain ⟨h1,⟨h2,h3,h4,h5⟩,⟨h6,h7⟩,⟨h8,h9,h10,h11⟩⟩:=h
  exact ⟨below_of h1 hb,⟨blk_below' hb h2,blk_below' hb h3,blk_below' hb h4,blk_below' hb h5⟩,⟨h6.call hb,h7.call hb⟩,⟨h8.below hb,h9.below hb,h10.below hb,h11.below hb⟩⟩
theorem Eu.drew {w w1:World} {Q R O B R1 R2:Nat} {oq orr oo ob:Obj} {vq vr vo vb:Value} {zq zr zo zb:Int} {T:TypeId} (h:Eu w w1 Q R O B R1 R2 oq orr oo ob vq vr vo vb zq zr zo zb T):Eu w w1.drew Q R O B R1 R2 oq orr oo ob vq vr vo vb zq zr zo zb T:=⟨h.1.drew,h.2⟩
theorem Eu.set1 {w w1:World} {Q R O B R1 R2:Nat} {oq orr oo ob:Obj} {vq vr vo vb:Value} {zq zr zo zb:Int} {T:TypeId} {x:Bool} {ao:Option Addr} {n c:Nat} (h:Eu w w1 Q R O B R1 R2 oq orr oo ob vq vr vo vb zq zr zo zb T) (h1:w.heap.size≤R1) (hQ:Q≠R1) (hR:R≠R1) (hO:O≠R1) (hB:B≠R1) (h2:R2≠R1) :
    Eu w ((w1.setCell ⟨R1,0,none⟩ (.bool x)).setCell ⟨R1,1,none⟩ (.slice ao n c)) Q R O B R1 R2 oq orr oo ob vq vr vo vb zq zr zo zb T:=by
  obtain ⟨g1,⟨g2,g3,g4,g5⟩,⟨g6,g7⟩,⟨g8,g9,g10,g11⟩⟩:=h
  exact ⟨(g1.setCell (p:=⟨R1,0,none⟩) h1 _).setCell (p:=⟨R1,1,none⟩) h1 _,⟨blk_two g2 hQ,blk_two g3 hR,blk_two g4 hO,blk_two g5 hB⟩,⟨g6.set _ _ _ _,g7.far h2⟩,⟨zv_two g8 g6,zv_two g9 g6,zv_two g10 g6,zv_two g11 g6⟩⟩
theorem Eu.set2 {w w1:World} {Q R O B R1 R2:Nat} {oq orr oo ob:Obj} {vq vr vo vb:Value} {zq zr zo zb:Int} {T:TypeId} {x:Bool} {ao:Option Addr} {n c:Nat} (h:Eu w w1 Q R O B R1 R2 oq orr oo ob vq vr vo vb zq zr zo zb T) (h1:w.heap.size≤R2) (hQ:Q≠R2) (hR:R≠R2) (hO:O≠R2) (hB:B≠R2) (h2:R1≠R2) :
    Eu w ((w1.setCell ⟨R2,0,none⟩ (.bool x)).setCell ⟨R2,1,none⟩ (.slice ao n c)) Q R O B R1 R2 oq orr oo ob vq vr vo vb zq zr zo zb T:=by
  obtain ⟨g1,⟨g2,g3,g4,g5⟩,⟨g6,g7⟩,⟨g8,g9,g10,g11⟩⟩:=h
  exact ⟨(g1.setCell (p:=⟨R2,0,none⟩) h1 _).setCell (p:=⟨R2,1,none⟩) h1 _,⟨blk_two g2 hQ,blk_two g3 hR,blk_two g4 hO,blk_two g5 hB⟩,⟨g6.far h2,g7.set _ _ _ _⟩,⟨zv_two g8 g7,zv_two g9 g7,zv_two g10 g7,zv_two g11 g7⟩⟩
theorem neg_lt {z:Int} (h:LtZ z):LtZ (-z):=⟨by rw [Int.natAbs_neg]; exact h.out⟩
theorem euclid_any (va vb:Value) (x y:Int) (w:World) (ha:ZV w va x) (hb:ZV w vb y) (hx:x.natAbs<HugeD) (hy:y.natAbs<HugeD) (h0:y≠0) :
    Calls Tryz.prog 37 #[va,vb] w fun e w'=>∃ v1 v2,e=.returned (.tuple #[v1,v2])∧ZV w' v1 (qE x y)∧ZV w' v2 (rE x y)∧Below w.heap.size w w':=by
  obtain ⟨n1,a1,k1,c1,rfl⟩:=ha.shape
  obtain ⟨n2,a2,k2,c2,rfl⟩:=hb.shape
  obtain ⟨rfl,_⟩:=hb.parts
  have LQ:Hid (LtZ (qC x y)):=Lib.hid ⟨by rw [amt_qC]; exact Nat.lt_of_le_of_lt (Nat.div_le_self _ _) hx⟩
  have LR:Hid (LtZ (rC x y)):=Lib.hid ⟨by rw [amt_rC]; exact Nat.lt_of_le_of_lt (Nat.mod_le _ _) hx⟩
  have LY:Hid (LtZ y):=Lib.hid ⟨hy⟩
  have hone:(1:Nat)<HugeD:=Nat.lt_of_lt_of_le one_lt_big (Nat.le_trans big_huge huge_d)
  have L1:Hid (LtZ 1):=Lib.hid ⟨hone⟩
  have CU:Hid (∀ w1,Below w.heap.size w w1→Calls Tryz.prog 48 #[.agg #[.bool n1,.slice a1 k1 c1],.agg #[.bool (sgn y),.slice a2 k2 c2]] w1 fun e w'=>∃ v1 v2,e=.returned (.tuple #[v1,v2])∧ZV w' v1 (qC x y)∧ZV w' v2 (rC x y)∧Below w1.heap.size w1 w'):=Lib.hid (fun w1 h=>cut_any _ _ x y w1 (ha.below h) (hb.below h) hy h0)
  have HB:=Lib.hid hb
  have H0:=Lib.hid h0
  clear ha hb hx hy h0 hone
  go_enter Tryz.func37,Tryz.ntmps37
  go_wp2_with fail
  obtain ⟨W,eW,h1,h2,h3,h4,bel,hsz⟩:=alloc4 w (Obj.cells #[Value.bool n1,Value.slice a1 k1 c1] 61) (Obj.cells #[Value.bool (sgn y),Value.slice a2 k2 c2] 61) (Obj.cells #[Value.bool false,Value.slice none 0 0] 61) (Obj.cells #[Value.bool false,Value.slice none 0 0] 61)
  rw [eW]
  have hlw:w.heap.size+1+1+1<W.heap.size:=(Array.getElem?_eq_some_iff.1 h4).1
  have H2:=Lib.hid h2; have H3:Hid (W.heap[w.heap.size+1+1]?=_):=Lib.hid h3; have H4:Hid (W.heap[w.heap.size+1+1+1]?=_):=Lib.hid h4
  have BW:=Lib.hid bel
  clear eW h1 h2 h3 h4 bel hsz
  refine (CU.out W BW.out).mono ?_
  rintro e w3 ⟨vq,vr,rfl,zq,zr,hb3⟩
  obtain ⟨nq,aq,kq,cq,rfl⟩:=zq.shape
  obtain ⟨nr,ar,kr,cr,rfl⟩:=zr.shape
  obtain ⟨hnr,_⟩:=zr.parts
  have hz3:=hb3.size
  obtain ⟨U,eU,hQ,hR,belU,hsU⟩:=alloc2 w3 (Obj.cells #[Value.bool nq,Value.slice aq kq cq] 61) (Obj.cells #[Value.bool nr,Value.slice ar kr cr] 61)
  have ZQ:=Lib.hid (zq.below belU); have ZR:=Lib.hid (zr.below belU)
  have BU:=Lib.hid (below_of (below_of BW.out hb3) belU)
  have HQ:=Lib.hid hQ; have HR:=Lib.hid hR
  have HBB:=Lib.hid (blk_below' belU (blk_below' hb3 H2.out))
  have HR1:=Lib.hid (blk_below' belU (blk_below' hb3 H3.out)); have HR2:=Lib.hid (blk_below' belU (blk_below' hb3 H4.out))
  obtain ⟨q0,q1,_,_,_⟩:=blk2 hQ
  obtain ⟨s0,s1,_,_,_⟩:=blk2 hR
  obtain ⟨f0,f1,f2,f3,_⟩:=blk2 HR1.out
  obtain ⟨g0,g1,g2,g3,_⟩:=blk2 HR2.out
  have l3:w.heap.size≤w.heap.size+1+1:=by omega
  have l4:w.heap.size≤w.heap.size+1+1+1:=by omega
  have hne:w.heap.size+1+1+1≠w.heap.size+1+1:=by omega
  clear zq zr hb3 hQ hR belU H2 H3 H4 CU
  by_cases hneg:rC x y<0
  · have hbt:nr=true:=by rw [hnr,sgn_neg hneg]
    clear hnr
    subst hbt
    go_wp2_with fail
    refine (small1_any 1 U (by omega) (by omega)).mono ?_
    rintro e w4 ⟨vo,rfl,zo,hb4⟩
    obtain ⟨no,ao,ko,co,rfl⟩:=zo.shape
    have hz4:=hb4.size
    obtain ⟨X,eX,hO,belX,hsX⟩:=alloc1 w4 (Obj.cells #[Value.bool no,Value.slice ao ko co] 61)
    have EU:Hid (Eu w X w3.heap.size (w3.heap.size+1) w4.heap.size (w.heap.size+1) (w.heap.size+1+1) (w.heap.size+1+1+1) (Obj.cells #[Value.bool nq,Value.slice aq kq cq] 61) (Obj.cells #[Value.bool true,Value.slice ar kr cr] 61) (Obj.cells #[Value.bool no,Value.slice ao ko co] 61) (Obj.cells #[Value.bool (sgn y),Value.slice a2 k2 c2] 61) (.agg #[.bool nq,.slice aq kq cq]) (.agg #[.bool true,.slice ar kr cr]) (.agg #[.bool no,.slice ao ko co]) (.agg #[.bool (sgn y),.slice a2 k2 c2]) (qC x y) (rC x y) 1 y 61):=Lib.hid
      ⟨below_of (below_of BU.out hb4) belX,⟨blk_below' belX (blk_below' hb4 HQ.out),blk_below' belX (blk_below' hb4 HR.out),hO,blk_below' belX (blk_below' hb4 HBB.out)⟩,⟨⟨_,_,_,_,blk_below' belX (blk_below' hb4 HR1.out)⟩,⟨_,_,_,_,blk_below' belX (blk_below' hb4 HR2.out)⟩⟩,⟨(ZQ.out.below hb4).below belX,(ZR.out.below hb4).below belX,zo.below belX,HB.out.below (below_of (below_of BU.out hb4) belX)⟩⟩
    obtain ⟨y0,y1,_,_,_⟩:=blk2 (blk_below' belX (blk_below' hb4 HBB.out))
    obtain ⟨P,hP⟩:∃ P:World→Prop,P=fun w'=>Eu w w' w3.heap.size (w3.heap.size+1) w4.heap.size (w.heap.size+1) (w.heap.size+1+1) (w.heap.size+1+1+1) (Obj.cells #[Value.bool nq,Value.slice aq kq cq] 61) (Obj.cells #[Value.bool true,Value.slice ar kr cr] 61) (Obj.cells #[Value.bool no,Value.slice ao ko co] 61) (Obj.cells #[Value.bool (sgn y),Value.slice a2 k2 c2] 61) (.agg #[.bool nq,.slice aq kq cq]) (.agg #[.bool true,.slice ar kr cr]) (.agg #[.bool no,.slice ao ko co]) (.agg #[.bool (sgn y),.slice a2 k2 c2]) (qC x y) (rC x y) 1 y 61:=⟨_,rfl⟩
    have PC:Hid (∀ u v,P u→Below u.heap.size u v→P v):=Lib.hid (by rw [hP]; exact fun u v h hb=>h.call hb)
    have PS1:Hid (∀ (u:World) (x:Bool) (ao:Option Addr) (n c:Nat),P u→P ((u.setCell ⟨w.heap.size+1+1,0,none⟩ (.bool x)).setCell ⟨w.heap.size+1+1,1,none⟩ (.slice ao n c))):=Lib.hid (by rw [hP]; exact fun u x ao n c h=>h.set1 (by omega) (by omega) (by omega) (by omega) (by omega) (by omega))
    have PS2:Hid (∀ (u:World) (x:Bool) (ao:Option Addr) (n c:Nat),P u→P ((u.setCell ⟨w.heap.size+1+1+1,0,none⟩ (.bool x)).setCell ⟨w.heap.size+1+1+1,1,none⟩ (.slice ao n c))):=Lib.hid (by rw [hP]; exact fun u x ao n c h=>h.set2 (by omega) (by omega) (by omega) (by omega) (by omega) (by omega))
    have STAY:Hid (∀ w',P w'→(w'.cell? ⟨w3.heap.size,0,none⟩=some (.bool nq)∧w'.cell? ⟨w3.heap.size,1,none⟩=some (.slice aq kq cq)∧w'.cell? ⟨w3.heap.size+1,0,none⟩=some (.bool true)∧w'.cell? ⟨w3.heap.size+1,1,none⟩=some (.slice ar kr cr)∧w'.cell? ⟨w4.heap.size,0,none⟩=some (.bool no)∧w'.cell? ⟨w4.heap.size,1,none⟩=some (.slice ao ko co)∧w'.cell? ⟨w.heap.size+1,0,none⟩=some (.bool (sgn y))∧w'.cell? ⟨w.heap.size+1,1,none⟩=some (.slice a2 k2 c2)∧P w')) :=
      Lib.hid (by rw [hP]; exact fun w' h=>⟨(blk2 h.2.1.1).1,(blk2 h.2.1.1).2.1,(blk2 h.2.1.2.1).1,(blk2 h.2.1.2.1).2.1,(blk2 h.2.1.2.2.1).1,(blk2 h.2.1.2.2.1).2.1,(blk2 h.2.1.2.2.2).1,(blk2 h.2.1.2.2.2).2.1,h⟩)
    have PR:Hid (∀ w',P w'→(Below w.heap.size w w'∧IsB w' (w.heap.size+1+1) 61∧IsB w' (w.heap.size+1+1+1) 61)):=Lib.hid (by rw [hP]; exact fun w' h=>⟨h.1,h.2.2.1.1,h.2.2.1.2⟩)
    have PZ:Hid (∀ w',P w'→(ZV w' (.agg #[.bool nq,.slice aq kq cq]) (qC x y)∧ZV w' (.agg #[.bool true,.slice ar kr cr]) (rC x y)∧ZV w' (.agg #[.bool no,.slice ao ko co]) 1∧ZV w' (.agg #[.bool (sgn y),.slice a2 k2 c2]) y)):=Lib.hid (by rw [hP]; exact fun w' h=>h.2.2.2)
    have hZ0:P X.drew:=by rw [hP]; exact EU.out.drew
    clear hP EU zo hb4 hO belX HQ HR HBB HR1 HR2 ZQ ZR BU
    have ERE:Hid (qE x y=(if y<0 then qC x y+1 else qC x y - 1)∧rE x y=rC x y+(y.natAbs:Int)):=Lib.hid (by unfold qE rE; rw [if_pos hneg,if_pos hneg]; exact ⟨rfl,rfl⟩)
    by_cases hyn:y<0
    · have hsy:sgn y=true:=sgn_neg hyn
      have E1:Hid (qC x y+1=qE x y):=Lib.hid (by rw [ERE.out.1,if_pos hyn])
      have E2:Hid (rC x y+(-y)=rE x y):=Lib.hid (by rw [ERE.out.2]; omega)
      rw [hsy] at y0
      clear q0 q1 s0 s1 f0 f1 f2 f3 g0 g1 g2 g3 hneg hyn
      go_wp2
      clear hsy y0 y1
      go_region_held3 (fun w'=>w'.cell? ⟨w3.heap.size,0,none⟩=some (.bool nq)∧w'.cell? ⟨w3.heap.size,1,none⟩=some (.slice aq kq cq)∧w'.cell? ⟨w3.heap.size+1,0,none⟩=some (.bool true)∧w'.cell? ⟨w3.heap.size+1,1,none⟩=some (.slice ar kr cr)∧w'.cell? ⟨w4.heap.size,0,none⟩=some (.bool no)∧w'.cell? ⟨w4.heap.size,1,none⟩=some (.slice ao ko co)∧w'.cell? ⟨w.heap.size+1,0,none⟩=some (.bool (sgn y))∧w'.cell? ⟨w.heap.size+1,1,none⟩=some (.slice a2 k2 c2)∧P w')
        ((try go_split_ands; refine STAY.out _ ?_; first | (with_reducible assumption) | (with_reducible exact PS1.out _ _ _ _ _ (by assumption)) | (with_reducible exact PS2.out _ _ _ _ _ (by assumption)) | (with_reducible exact PC.out _ _ (by assumption) (by assumption))))
        (first
        | (go_at_call 45; go_split_ands; first
          | (have g6:=z6; obtain ⟨_,pr,_,_⟩:=PZ.out _ (by assumption); (with_reducible refine Calls.mono (plus_any2 (.agg #[.bool true,.slice ar kr cr]) _ (rC x y) (-y) _ ?_ ?_ LR.out.out (neg_lt LY.out).out) ?_); (exact pr); (exact z6); rintro e w7 ⟨v7,rfl,z7,b7⟩; obtain ⟨n7,d7,l7,e7,rfl⟩:=z7.shape; have z5':=z5b.below b7; obtain ⟨BW7,q1,q2⟩:=PR.out _ (PC.out _ _ (by assumption) b7); have HQ1:=Lib.hid q1; have HQ2:=Lib.hid q2; have HBW:=Lib.hid BW7; obtain ⟨_,_,_,_,r1⟩:=q1; obtain ⟨_,_,_,_,r2⟩:=q2; obtain ⟨u0,u1,c0,c1',_⟩:=blk2 r1; obtain ⟨u2,u3,c2',c3,_⟩:=blk2 r2; clear r1 r2 BW7)
          | (obtain ⟨pq,_,po,_⟩:=PZ.out _ (by assumption); (with_reducible refine Calls.mono (plus_any2 (.agg #[.bool nq,.slice aq kq cq]) (.agg #[.bool no,.slice ao ko co]) (qC x y) 1 _ ?_ ?_ LQ.out.out L1.out.out) ?_); (exact pq); (exact po); rintro e w5 ⟨v5,rfl,z5,b5⟩; obtain ⟨n5,d5,l5,e5,rfl⟩:=z5.shape))
        | (go_at_call 42; go_split_ands; obtain ⟨_,_,_,pb⟩:=PZ.out _ (by assumption); (with_reducible refine Calls.mono (minus_any2 (.agg #[.bool (sgn y),.slice a2 k2 c2]) y _ ?_) ?_); (exact pb); rintro e w6 ⟨v6,rfl,z6,b6⟩; obtain ⟨n6,d6,l6,e6,rfl⟩:=z6.shape; have z5b:=z5.below b6))
      have F1:=Lib.hid (zv_two (y0:=.bool n7) (y1:=.slice d7 l7 e7) (zv_two (y0:=.bool n5) (y1:=.slice d5 l5 e5) z5' HQ1.out) (HQ2.out.far hne))
      have F2:=Lib.hid (zv_two (y0:=.bool n7) (y1:=.slice d7 l7 e7) (zv_two (y0:=.bool n5) (y1:=.slice d5 l5 e5) z7 HQ1.out) (HQ2.out.far hne))
      have F3:=Lib.hid ((((HBW.out.setCell (p:=⟨w.heap.size+1+1,0,none⟩) l3 (.bool n5)).setCell (p:=⟨w.heap.size+1+1,1,none⟩) l3 (.slice d5 l5 e5)).setCell (p:=⟨w.heap.size+1+1+1,0,none⟩) l4 (.bool n7)).setCell (p:=⟨w.heap.size+1+1+1,1,none⟩) l4 (.slice d7 l7 e7))
      go_wp2
      refine bodyPost_ret (v:=.tuple #[.agg #[.bool n5,.slice d5 l5 e5],.agg #[.bool n7,.slice d7 l7 e7]]) ?_ rfl ⟨_,_,rfl,by rw [← E1.out]; exact F1.out,by rw [← E2.out]; exact F2.out,F3.out⟩
      simp [results,Tryz.results37,go_sem, *]
    · have hsy:sgn y=false:=sgn_pos (by omega)
      have E1:Hid (qC x y+(-1)=qE x y):=Lib.hid (by rw [ERE.out.1,if_neg hyn]; omega)
      have E2:Hid (rC x y+y=rE x y):=Lib.hid (by rw [ERE.out.2]; omega)
      rw [hsy] at y0
      clear q0 q1 s0 s1 f0 f1 f2 f3 g0 g1 g2 g3 hneg hyn
      go_wp2
      clear hsy y0 y1
      go_region_held3 (fun w'=>w'.cell? ⟨w3.heap.size,0,none⟩=some (.bool nq)∧w'.cell? ⟨w3.heap.size,1,none⟩=some (.slice aq kq cq)∧w'.cell? ⟨w3.heap.size+1,0,none⟩=some (.bool true)∧w'.cell? ⟨w3.heap.size+1,1,none⟩=some (.slice ar kr cr)∧w'.cell? ⟨w4.heap.size,0,none⟩=some (.bool no)∧w'.cell? ⟨w4.heap.size,1,none⟩=some (.slice ao ko co)∧w'.cell? ⟨w.heap.size+1,0,none⟩=some (.bool (sgn y))∧w'.cell? ⟨w.heap.size+1,1,none⟩=some (.slice a2 k2 c2)∧P w')
        ((try go_split_ands; refine STAY.out _ ?_; first | (with_reducible assumption) | (with_reducible exact PS1.out _ _ _ _ _ (by assumption)) | (with_reducible exact PS2.out _ _ _ _ _ (by assumption)) | (with_reducible exact PC.out _ _ (by assumption) (by assumption))))
        (first
        | (go_at_call 45; go_split_ands; first
          | (have g5:=z5; obtain ⟨_,pr,_,pb⟩:=PZ.out _ (by assumption); (with_reducible refine Calls.mono (plus_any2 (.agg #[.bool true,.slice ar kr cr]) (.agg #[.bool (sgn y),.slice a2 k2 c2]) (rC x y) y _ ?_ ?_ LR.out.out LY.out.out) ?_); (exact pr); (exact pb); rintro e w7 ⟨v7,rfl,z7,b7⟩; obtain ⟨n7,d7,l7,e7,rfl⟩:=z7.shape; have z5':=z5.below b7; obtain ⟨BW7,q1,q2⟩:=PR.out _ (PC.out _ _ (by assumption) b7); have HQ1:=Lib.hid q1; have HQ2:=Lib.hid q2; have HBW:=Lib.hid BW7; obtain ⟨_,_,_,_,r1⟩:=q1; obtain ⟨_,_,_,_,r2⟩:=q2; obtain ⟨u0,u1,c0,c1',_⟩:=blk2 r1; obtain ⟨u2,u3,c2',c3,_⟩:=blk2 r2; clear r1 r2 BW7)
          | (obtain ⟨pq,_,_,_⟩:=PZ.out _ (by assumption); (with_reducible refine Calls.mono (plus_any2 (.agg #[.bool nq,.slice aq kq cq]) _ (qC x y) (-1) _ ?_ ?_ LQ.out.out (neg_lt L1.out).out) ?_); (exact pq); (exact z6); rintro e w5 ⟨v5,rfl,z5,b5⟩; obtain ⟨n5,d5,l5,e5,rfl⟩:=z5.shape))
        | (go_at_call 42; go_split_ands; obtain ⟨_,_,po,_⟩:=PZ.out _ (by assumption); (with_reducible refine Calls.mono (minus_any2 (.agg #[.bool no,.slice ao ko co]) 1 _ ?_) ?_); (exact po); rintro e w6 ⟨v6,rfl,z6,b6⟩; obtain ⟨n6,d6,l6,e6,rfl⟩:=z6.shape))
      have F1:=Lib.hid (zv_two (y0:=.bool n7) (y1:=.slice d7 l7 e7) (zv_two (y0:=.bool n5) (y1:=.slice d5 l5 e5) z5' HQ1.out) (HQ2.out.far hne))
      have F2:=Lib.hid (zv_two (y0:=.bool n7) (y1:=.slice d7 l7 e7) (zv_two (y0:=.bool n5) (y1:=.slice d5 l5 e5) z7 HQ1.out) (HQ2.out.far hne))
      have F3:=Lib.hid ((((HBW.out.setCell (p:=⟨w.heap.size+1+1,0,none⟩) l3 (.bool n5)).setCell (p:=⟨w.heap.size+1+1,1,none⟩) l3 (.slice d5 l5 e5)).setCell (p:=⟨w.heap.size+1+1+1,0,none⟩) l4 (.bool n7)).setCell (p:=⟨w.heap.size+1+1+1,1,none⟩) l4 (.slice d7 l7 e7))
      go_wp2
      refine bodyPost_ret (v:=.tuple #[.agg #[.bool n5,.slice d5 l5 e5],.agg #[.bool n7,.slice d7 l7 e7]]) ?_ rfl ⟨_,_,rfl,by rw [← E1.out]; exact F1.out,by rw [← E2.out]; exact F2.out,F3.out⟩
      simp [results,Tryz.results37,go_sem, *]
  · have hbt:nr=false:=by rw [hnr,sgn_pos (by omega)]
    clear hnr
    subst hbt
    have E:Hid (qE x y=qC x y∧rE x y=rC x y):=Lib.hid (by unfold qE rE; rw [if_neg hneg,if_neg hneg]; exact ⟨rfl,rfl⟩)
    have d1:w.heap.size+1+1≠w3.heap.size:=by omega
    have d2:w3.heap.size≠w.heap.size+1+1:=by omega
    have d3:w.heap.size+1+1+1≠w3.heap.size:=by omega
    have d4:w3.heap.size≠w.heap.size+1+1+1:=by omega
    have d5:w.heap.size+1+1≠w3.heap.size+1:=by omega
    have d6:w3.heap.size+1≠w.heap.size+1+1:=by omega
    have d7:w.heap.size+1+1+1≠w3.heap.size+1:=by omega
    have d8:w3.heap.size+1≠w.heap.size+1+1+1:=by omega
    have I1:Hid (IsB U (w.heap.size+1+1) 61):=Lib.hid ⟨_,_,_,_,HR1.out⟩
    have I2:Hid (IsB U (w.heap.size+1+1+1) 61):=Lib.hid ⟨_,_,_,_,HR2.out⟩
    clear hneg
    go_wp2
    go_region_with fail
    go_ways
    all_goals
      go_wp2
      refine bodyPost_ret (v:=.tuple #[.agg #[.bool nq,.slice aq kq cq],.agg #[.bool false,.slice ar kr cr]]) ?_ rfl ⟨_,_,rfl, ?_, ?_,((((BU.out.drew.setCell (p:=⟨w.heap.size+1+1,0,none⟩) l3 _).setCell (p:=⟨w.heap.size+1+1,1,none⟩) l3 _).setCell (p:=⟨w.heap.size+1+1+1,0,none⟩) l4 _).setCell (p:=⟨w.heap.size+1+1+1,1,none⟩) l4 _)⟩
      · simp [results,Tryz.results37,go_sem, *]
      · rw [E.out.1]; exact zv_two (w:=(World.setCell (World.setCell (World.drew U) _ _) _ _)) (zv_two (w:=World.drew U) ZQ.out I1.out) (IsB.far (w:=World.drew U) I2.out hne)
      · rw [E.out.2]; exact zv_two (w:=(World.setCell (World.setCell (World.drew U) _ _) _ _)) (zv_two (w:=World.drew U) ZR.out I1.out) (IsB.far (w:=World.drew U) I2.out hne)
end Go.Proofs.YtacbkpenohcgjaaGreat
