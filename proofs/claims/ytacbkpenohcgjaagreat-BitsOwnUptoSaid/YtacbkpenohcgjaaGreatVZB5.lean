import Derived.Test.YtacbkpenohcgjaaGreatVZB4
import Derived.Test.YtacbkpenohcgjaaGreatVY2
set_option linter.unusedVariables false
set_option linter.unusedSimpArgs false
set_option maxHeartbeats 16000000
set_option maxRecDepth 100000
namespace Go.Proofs.YtacbkpenohcgjaaGreat
open Go.RowKit Mth
theorem quoI_any (va vb:Value) (x y:Int) (w:World) (ha:IntV w va x) (hb:IntV w vb y) (hx:x.natAbs<Big) (hy:y.natAbs<Big) (h0:y≠0) :
    Calls Tryz.prog 120 #[va,vb] w fun e w'=>∃ v1 v2,e=.returned (.tuple #[v1,v2,.int .i64 0])∧IntK w' v1 (qC x y)∧IntK w' v2 (rC x y)∧Below w.heap.size w w':=by
  obtain ⟨n1,a1,k1,c1,t1,rfl,N1',R1'⟩:=ha.rd
  obtain ⟨n2,a2,k2,c2,t2,rfl,N2',R2'⟩:=hb.rd
  have DV:=Lib.hid (dvc_of N1' N2' hx hy h0)
  have BD:=Lib.hid (dvs_bounds hx hy h0)
  have N2:=Lib.hid N2'; have R1:=Lib.hid R1'; have R2:=Lib.hid R2'
  clear ha hb N1' N2' R1' R2' hx hy
  go_enter Tryz.func120,Tryz.ntmps120
  go_wp2_with fail
  obtain ⟨W,eW,h1,h2,h3,h4,bel,hsz⟩:=alloc4 w (Obj.cells #[Value.bool n1,Value.slice a1 k1 c1] 50) (Obj.cells #[Value.bool n2,Value.slice a2 k2 c2] 50) (Obj.cells #[Value.bool false,Value.slice none 0 0] 50) (Obj.cells #[Value.bool false,Value.slice none 0 0] 50)
  rw [eW]
  obtain ⟨p0,p1,f0,f1,_⟩:=blk2 h1
  have H3:=Lib.hid h3; have H4:=Lib.hid h4
  have QH:=Lib.hid h2
  clear eW h1 h2 h3 h4
  obtain ⟨q0,q1,_,_,_⟩:=blk2 QH.out
  clear f0 f1
  have STAY:Hid (∀ w',Below W.heap.size W w'→w'.cell? ⟨w.heap.size,0,none⟩=some (.bool n1)∧w'.cell? ⟨w.heap.size,1,none⟩=some (.slice a1 k1 c1)∧w'.cell? ⟨w.heap.size+1,0,none⟩=some (.bool n2)∧w'.cell? ⟨w.heap.size+1,1,none⟩=some (.slice a2 k2 c2)∧Below W.heap.size W w'∧W.heap.size≤w'.heap.size) :=
    Lib.hid (fun w' h=>⟨cell_to h p0 (World.block_lt_of_cell? W _ p0),cell_to h p1 (World.block_lt_of_cell? W _ p1),cell_to h q0 (by omega),cell_to h q1 (by omega),h,h.size⟩)
  have R1':Hid (∀ v w1,v=.agg #[.bool n1,.slice a1 k1 c1]→Below W.heap.size W w1→Calls Tryz.prog 100 #[v] w1 fun e w'=>e=.returned (.agg #[.slice a1 t1 c1,.bool (sgn x)])∧Below w1.heap.size w1 w'∧w'.heap.size=w1.heap.size+3):=Lib.hid (fun v w1 e h=>by subst e; exact R1.out w1 (below_of bel h))
  have R2':Hid (∀ v w1,v=.agg #[.bool n2,.slice a2 k2 c2]→Below W.heap.size W w1→Calls Tryz.prog 100 #[v] w1 fun e w'=>e=.returned (.agg #[.slice a2 t2 c2,.bool (sgn y)])∧Below w1.heap.size w1 w'∧w'.heap.size=w1.heap.size+3):=Lib.hid (fun v w1 e h=>by subst e; exact R2.out w1 (below_of bel h))
  have BV:=Lib.hid bel
  have hB0:=(Below.refl W.heap.size W).drew
  go_cut [7,8] (fun s8 s9 wx=>DivO W wx (qC x y) (rC x y) s8 s9)
  case first =>
    clear p0 p1 q0 q1
    go_region_held3 (fun w'=>w'.cell? ⟨w.heap.size,0,none⟩=some (.bool n1)∧w'.cell? ⟨w.heap.size,1,none⟩=some (.slice a1 k1 c1)∧w'.cell? ⟨w.heap.size+1,0,none⟩=some (.bool n2)∧w'.cell? ⟨w.heap.size+1,1,none⟩=some (.slice a2 k2 c2)∧Below W.heap.size W w'∧W.heap.size≤w'.heap.size)
      ((try go_split_ands; refine STAY.out _ ?_; first | assumption | exact below_to (by assumption) (by assumption) | exact Below.alloc (by assumption) (by first | omega | (simp; done) | (simp; omega)) _ | exact Below.setCell (Below.setCell (Below.setCell (Below.setCell (by assumption) (by first | omega | (simp; done) | (simp; omega)) _) (by first | omega | (simp; done) | (simp; omega)) _) (by first | omega | (simp; done) | (simp; omega)) _) (by first | omega | (simp; done) | (simp; omega)) _))
      (first
      | (go_at_call 100; go_split_ands; first | (refine Calls.mono (R1'.out _ _ ?_ (by assumption)) ?_; (exact rfl); rintro e w1 ⟨rfl,hbx1,hs1⟩; have hk1:=below_to hbx1 (by assumption); obtain ⟨hc1,hf1⟩:=bcell hbx1; (try simp at hs1)) | (refine Calls.mono (R2'.out _ _ ?_ (by assumption)) ?_; (exact rfl); rintro e w2 ⟨rfl,hbx2,hs2⟩; have hk2:=below_to hbx2 (by assumption); obtain ⟨hc2,hf2⟩:=bcell hbx2; (try simp at hs2); (try simp only [hs1] at hs2)))
      | (go_at_call 153; go_split_ands; refine (DV.out _ (below_of BV.out (by assumption))).mono ?_; rintro e w3 ⟨aq,kq,cq,bq,ar,kr,cr,br,rfl,hq,hr,hbx3⟩; have hk3:=below_to hbx3 (by assumption); obtain ⟨hc3,hf3⟩:=bcell hbx3; have hz3:=hbx3.size; (try simp only [sz_alloc,sz_set,sz_drew] at hz3)))
    all_goals
      (go_wp2_with fail
       go_meet
       clear hc1 hf1 hc2 hf2 hc3 hf3
       refine ⟨_,aq,kq,cq,bq,ar,kr,cr,br,rfl,rfl, ?_, ?_, ?_, ?_,by first | assumption | (go_split_ands; assumption)⟩)
    all_goals
      repeat (first
       | ((with_reducible refine blk_new ?_); (first | omega | (simp only [sz_alloc,sz_set,sz_drew]; omega) | (focus (simp only [sz_alloc,sz_set,sz_drew]; done))))
       | (with_reducible refine blk_set4 (a:=.slice none 0 0) (b:=.bool false) (c:=.slice none 0 0) (d:=.bool false) ?_)
       | (with_reducible refine blk_drew ?_)
       | ((with_reducible refine blk_below hbx3 ?_ ?_); (first | omega | (simp only [sz_alloc,sz_set,sz_drew]; omega) | (focus (simp only [sz_alloc,sz_set,sz_drew]; done))))
       | ((with_reducible refine blk_below hbx2 ?_ ?_); (first | omega | (simp only [sz_alloc,sz_set,sz_drew]; omega) | (focus (simp only [sz_alloc,sz_set,sz_drew]; done))))
       | ((with_reducible refine blk_below hbx1 ?_ ?_); (first | omega | (simp only [sz_alloc,sz_set,sz_drew]; omega) | (focus (simp only [sz_alloc,sz_set,sz_drew]; done))))
       | ((with_reducible refine nuc_to hq ?_ ?_); (first | omega | (simp only [sz_alloc,sz_set,sz_drew]; omega) | (focus (simp only [sz_alloc,sz_set,sz_drew]; done))); (with_reducible exact nuc_new _ _))
       | ((with_reducible refine nuc_to4 hq ?_ ?_); (first | omega | (simp only [sz_alloc,sz_set,sz_drew]; omega) | (focus (simp only [sz_alloc,sz_set,sz_drew]; done))); (first | omega | (simp only [sz_alloc,sz_set,sz_drew]; omega) | (focus (simp only [sz_alloc,sz_set,sz_drew]; done))))
       | ((with_reducible refine nuc_to hr ?_ ?_); (first | omega | (simp only [sz_alloc,sz_set,sz_drew]; omega) | (focus (simp only [sz_alloc,sz_set,sz_drew]; done))); (with_reducible exact nuc_new _ _))
       | ((with_reducible refine nuc_to4 hr ?_ ?_); (first | omega | (simp only [sz_alloc,sz_set,sz_drew]; omega) | (focus (simp only [sz_alloc,sz_set,sz_drew]; done))); (first | omega | (simp only [sz_alloc,sz_set,sz_drew]; omega) | (focus (simp only [sz_alloc,sz_set,sz_drew]; done))))
       | (first | omega | (simp only [sz_alloc,sz_set,sz_drew]; omega) | (focus (simp only [sz_alloc,sz_set,sz_drew]; done))))
  case rest =>
    obtain ⟨g,aq,kq,cq,bq,ar,kr,cr,br,rfl,rfl,hG,hgV,hq,hr,hBV⟩:=hcut
    obtain ⟨⟨s0,s1,s2,s3⟩,⟨g0,g1,g2,g3⟩⟩:=blk4 hG
    have HG:=Lib.hid hG; have HQ:=Lib.hid hq; have HR:=Lib.hid hr; have HBV:=Lib.hid hBV
    clear p0 p1 q0 q1 STAY hB0 hG hq hr hBV R1 R2 R1' R2' DV
    have a2r:=(Array.getElem?_eq_some_iff.1 HG.out).1
    have r3:=(HBV.out.block _ (show w.heap.size+2<W.heap.size by omega)).trans H3.out
    have r4:=(HBV.out.block _ (show w.heap.size+3<W.heap.size by omega)).trans H4.out
    have R3:=Lib.hid r3; have R4:=Lib.hid r4
    have l3:=(Array.getElem?_eq_some_iff.1 r3).1; have l4:=(Array.getElem?_eq_some_iff.1 r4).1
    clear r3 r4
    go_wp2_with fail
    refine (answers_fine W.heap.size _ _ _ _ (qC x y) (rC x y) _ HQ.out HR.out BD.out.1 BD.out.2.1 HBV.out.size).mono ?_
    rintro e w9 ⟨v1,v2,rfl,i1,i2,hb9⟩
    obtain ⟨m1,d1,e1,f1,rfl⟩:=i1.shape
    obtain ⟨m2,d2,e2,f2,rfl⟩:=i2.shape
    have x3:w9.heap[w.heap.size+1+1]?=_:=(hb9.block _ l3).trans R3.out
    have x4:w9.heap[w.heap.size+1+1+1]?=_:=(hb9.block _ l4).trans R4.out
    obtain ⟨k0,k1',g0',g1',_⟩:=blk2 x3
    obtain ⟨k3,k4,g3',g4',_⟩:=blk2 x4
    have X3:=Lib.hid x3; have X4:=Lib.hid x4; have I1:=Lib.hid i1.k; have I2:=Lib.hid i2.k
    have B9:=Lib.hid (below_of (below_of BV.out HBV.out) hb9)
    have hL3:w.heap.size≤w.heap.size+1+1:=by omega
    have hL4:w.heap.size≤w.heap.size+1+1+1:=by omega
    have hne:w.heap.size+1+1+1≠w.heap.size+1+1:=by omega
    clear x3 x4 i1 i2 hb9
    go_wp2
    refine bodyPost_ret (v:=.tuple #[.agg #[.bool m1,.slice d1 e1 f1],.agg #[.bool m2,.slice d2 e2 f2],.int .i64 0]) ?_ rfl ⟨_,_,rfl,intk_four I1.out X3.out X4.out hne,intk_four I2.out X3.out X4.out hne,set_below (set_below (set_below (set_below B9.out hL3) hL3) hL4) hL4⟩
    simp [results,Tryz.results120,go_sem, *]
end Go.Proofs.YtacbkpenohcgjaaGreat
namespace Go.Proofs.YtacbkpenohcgjaaGreat
open Go.RowKit Mth
theorem floorI_any (va vb:Value) (x y:Int) (w:World) (ha:IntV w va x) (hb:IntV w vb y) (hx:x.natAbs<Big) (hy:y.natAbs<Big) (h0:y≠0) :
    Calls Tryz.prog 126 #[va,vb] w fun e w'=>∃ v1,e=.returned (.tuple #[v1,.int .i64 0])∧IntK w' v1 (qF x y)∧Below w.heap.size w w':=by
  obtain ⟨n1,a1,k1,c1,t1,rfl,N1',R1'⟩:=ha.rd
  obtain ⟨n2,a2,k2,c2,t2,rfl,N2',R2'⟩:=hb.rd
  have DV:=Lib.hid (dvc_of N1' N2' hx hy h0)
  have BD:=Lib.hid (dvs_bounds hx hy h0)
  have N2:=Lib.hid N2'; have R1:=Lib.hid R1'; have R2:=Lib.hid R2'
  clear ha hb N1' N2' R1' R2' hx hy
  go_enter Tryz.func126,Tryz.ntmps126
  go_wp2_with fail
  obtain ⟨W,eW,h1,h2,h3,bel,hsz⟩:=alloc3 w (Obj.cells #[Value.bool n1,Value.slice a1 k1 c1] 50) (Obj.cells #[Value.bool n2,Value.slice a2 k2 c2] 50) (Obj.cells #[Value.bool false,Value.slice none 0 0] 50)
  rw [eW]
  obtain ⟨p0,p1,f0,f1,_⟩:=blk2 h1
  have H3:=Lib.hid h3
  clear eW h1 h2 h3
  refine (R2.out W bel).mono ?_
  rintro e w1 ⟨rfl,hb1,hs1⟩
  clear hs1
  have p0':=cell_to hb1 p0 (by omega); have p1':=cell_to hb1 p1 (by omega)
  clear p0 p1 f0 f1
  go_wp2_with fail
  obtain ⟨V,eV,hN,belV,hszV⟩:=alloc1 w1 (Obj.cells #[Value.slice a2 t2 c2,Value.bool (sgn y)] 118)
  rw [eV]
  clear eV
  obtain ⟨q0,q1,_,_,_⟩:=blk2 hN
  have p0:=cell_to belV p0' (by have:=hb1.size; omega); have p1:=cell_to belV p1' (by have:=hb1.size; omega)
  have STAY:Hid (∀ w',Below V.heap.size V w'→w'.cell? ⟨w.heap.size,0,none⟩=some (.bool n1)∧w'.cell? ⟨w.heap.size,1,none⟩=some (.slice a1 k1 c1)∧w'.cell? ⟨w1.heap.size,0,none⟩=some (.slice a2 t2 c2)∧w'.cell? ⟨w1.heap.size,1,none⟩=some (.bool (sgn y))∧Below V.heap.size V w'∧V.heap.size≤w'.heap.size) :=
    Lib.hid (fun w' h=>⟨cell_to h p0 (World.block_lt_of_cell? V _ p0),cell_to h p1 (World.block_lt_of_cell? V _ p1),cell_to h q0 hszV,cell_to h q1 hszV,h,h.size⟩)
  have BV:=Lib.hid (below_of (below_of bel hb1) belV)
  have BW:=Lib.hid (hb1.trans (belV.mono hb1.size))
  have hB0:=(Below.refl V.heap.size V).drew
  have Q0:=Lib.hid q0; have Q1:=Lib.hid q1
  clear p0' p1' hN
  go_cut [7,8] (fun s8 s9 wx=>DivO V wx (qC x y) (rC x y) s8 s9)
  case first =>
    clear p0 p1 q0 q1
    go_region_held3 (fun w'=>w'.cell? ⟨w.heap.size,0,none⟩=some (.bool n1)∧w'.cell? ⟨w.heap.size,1,none⟩=some (.slice a1 k1 c1)∧w'.cell? ⟨w1.heap.size,0,none⟩=some (.slice a2 t2 c2)∧w'.cell? ⟨w1.heap.size,1,none⟩=some (.bool (sgn y))∧Below V.heap.size V w'∧V.heap.size≤w'.heap.size)
      ((try go_split_ands; refine STAY.out _ ?_; first | assumption | exact below_to (by assumption) (by assumption) | exact Below.alloc (by assumption) (by first | omega | (simp; done) | (simp; omega)) _ | exact Below.setCell (Below.setCell (Below.setCell (Below.setCell (by assumption) (by first | omega | (simp; done) | (simp; omega)) _) (by first | omega | (simp; done) | (simp; omega)) _) (by first | omega | (simp; done) | (simp; omega)) _) (by first | omega | (simp; done) | (simp; omega)) _))
      (first
      | (go_at_call 100; go_split_ands; refine (R1.out _ (below_of BV.out (by assumption))).mono ?_; rintro e w2 ⟨rfl,hbx1,hs1⟩; have hk1:=below_to hbx1 (by assumption); obtain ⟨hc1,hf1⟩:=bcell hbx1; (try simp at hs1))
      | (go_at_call 153; go_split_ands; refine (DV.out _ (below_of BV.out (by assumption))).mono ?_; rintro e w3 ⟨aq,kq,cq,bq,ar,kr,cr,br,rfl,hq,hr,hbx2⟩; have hk2:=below_to hbx2 (by assumption); obtain ⟨hc2,hf2⟩:=bcell hbx2; have hz2:=hbx2.size; (try simp only [sz_alloc,sz_set,sz_drew] at hz2)))
    all_goals
      (go_wp2_with fail
       go_meet
       clear hc1 hf1 hc2 hf2
       refine ⟨_,aq,kq,cq,bq,ar,kr,cr,br,rfl,rfl, ?_, ?_, ?_, ?_,by first | assumption | (go_split_ands; assumption)⟩)
    all_goals
      repeat (first
       | ((with_reducible refine blk_new ?_); (first | omega | (simp only [sz_alloc,sz_set,sz_drew]; omega) | (focus (simp only [sz_alloc,sz_set,sz_drew]; done))))
       | (with_reducible refine blk_set4 (a:=.slice none 0 0) (b:=.bool false) (c:=.slice none 0 0) (d:=.bool false) ?_)
       | (with_reducible refine blk_drew ?_)
       | ((with_reducible refine blk_below hbx2 ?_ ?_); (first | omega | (simp only [sz_alloc,sz_set,sz_drew]; omega) | (focus (simp only [sz_alloc,sz_set,sz_drew]; done))))
       | ((with_reducible refine blk_below hbx1 ?_ ?_); (first | omega | (simp only [sz_alloc,sz_set,sz_drew]; omega) | (focus (simp only [sz_alloc,sz_set,sz_drew]; done))))
       | ((with_reducible refine nuc_to hq ?_ ?_); (first | omega | (simp only [sz_alloc,sz_set,sz_drew]; omega) | (focus (simp only [sz_alloc,sz_set,sz_drew]; done))); (with_reducible exact nuc_new _ _))
       | ((with_reducible refine nuc_to4 hq ?_ ?_); (first | omega | (simp only [sz_alloc,sz_set,sz_drew]; omega) | (focus (simp only [sz_alloc,sz_set,sz_drew]; done))); (first | omega | (simp only [sz_alloc,sz_set,sz_drew]; omega) | (focus (simp only [sz_alloc,sz_set,sz_drew]; done))))
       | ((with_reducible refine nuc_to hr ?_ ?_); (first | omega | (simp only [sz_alloc,sz_set,sz_drew]; omega) | (focus (simp only [sz_alloc,sz_set,sz_drew]; done))); (with_reducible exact nuc_new _ _))
       | ((with_reducible refine nuc_to4 hr ?_ ?_); (first | omega | (simp only [sz_alloc,sz_set,sz_drew]; omega) | (focus (simp only [sz_alloc,sz_set,sz_drew]; done))); (first | omega | (simp only [sz_alloc,sz_set,sz_drew]; omega) | (focus (simp only [sz_alloc,sz_set,sz_drew]; done))))
       | (first | omega | (simp only [sz_alloc,sz_set,sz_drew]; omega) | (focus (simp only [sz_alloc,sz_set,sz_drew]; done))))
  case rest =>
    obtain ⟨g,aq,kq,cq,bq,ar,kr,cr,br,rfl,rfl,hG,hgV,hq,hr,hBV⟩:=hcut
    have hbr:=hr.parts.1
    have hbq:=hq.parts.1
    have hzr:=hr.parts.2.zero
    obtain ⟨⟨s0,s1,s2,s3⟩,⟨g0,g1,g2,g3⟩⟩:=blk4 hG
    have u0:=cell_to hBV q0 hszV; have u1:=cell_to hBV q1 hszV
    have HG:=Lib.hid hG; have HQ:=Lib.hid hq; have HR:=Lib.hid hr; have HBV:=Lib.hid hBV
    have hNV:w1.heap.size<wc.heap.size:=Nat.lt_of_lt_of_le hszV hBV.size
    have HNV:=Lib.hid hNV; have HGV:=Lib.hid hgV
    clear p0 p1 q0 q1 STAY hB0 hG hq hr hBV R1 R2 DV hNV hgV
    have FB:Hid ((qF x y).natAbs<Big):=Lib.hid (BD.out.2.2.2.2.1)
    by_cases hc:rC x y≠0∧sgn x≠sgn y
    · have hd1:((kr:Int) == 0)=false:=by rw [beq_eq_false_iff_ne]; intro e; have:=hzr.1 (by omega); omega
      have hbb:br=sgn x:=by rw [hbr,sgn_rC hc.1]
      have hd2:(br == sgn y)=false:=by rw [hbb]; rw [beq_eq_false_iff_ne]; exact hc.2
      have EQE:Hid (qC x y+sg true 1=qF x y):=Lib.hid (by unfold qF; rw [if_pos hc]; rfl)
      clear hc hbb hbr
      go_wp2_with (go_at_call 151; refine (zero_is _ _ _ _).mono ?_; rintro e w' ⟨rfl,rfl⟩)
      have KEEP:Hid (∀ w',Below wc.heap.size wc w'→(w'.heap[g]?=some (.cells #[.slice aq kq cq,.bool bq,.slice ar kr cr,.bool br] 153 (0,0))∧w'.cell? ⟨w1.heap.size,0,none⟩=some (.slice a2 t2 c2)∧w'.cell? ⟨w1.heap.size,1,none⟩=some (.bool (sgn y)))) :=
        Lib.hid (fun w' h=>⟨(h.block g (Array.getElem?_eq_some_iff.1 HG.out).1).trans HG.out,cell_to h u0 HNV.out,cell_to h u1 HNV.out⟩)
      go_cut [7] (fun s8 wy=>DivO V wy (qF x y) (rC x y) s8 (.int .i64 0))
      case first =>
        have EQ:Hid (qC x y+sg true 1=qF x y):=Lib.hid (EQE.out)
        have U:Hid ((qC x y).natAbs<HugeN):=Lib.hid (big_hugeN BD.out.1)
        clear hzr hbq hd1 hd2
        go_region_with (first
          | (go_at_call 157; refine (unit_is _ _).mono ?_; rintro e w4 ⟨v4,rfl,hn4,hb4⟩; obtain ⟨a4,k4,c4,b4,rfl⟩:=hn4.shape; have hB4:=Lib.hid (below_of (Below.refl wc.heap.size wc).drew hb4); have HN4:=Lib.hid hn4; have hle4:=Lib.hid hb4.size; obtain ⟨hG4,o0,o1⟩:=KEEP.out _ hB4.out; obtain ⟨⟨m0,m1,m2,m3⟩,⟨i0,i1,i2,i3⟩⟩:=blk4 hG4; clear hn4 hb4 hG4)
          | (go_at_call 146; refine Calls.mono (sumOf_any _ _ (qC x y) (sg true 1) _ ?_ ?_ U.out (one_huge _)) ?_; (exact HQ.out.nuV.below hB4.out); (exact HN4.out.nuV); rintro e w5 ⟨v5,rfl,hn5,hb5⟩; obtain ⟨a5,k5,c5,b5,rfl⟩:=hn5.shape; have hB5:=Lib.hid (below_of hB4.out hb5); have hle5:=Lib.hid hB4.out.size; obtain ⟨hG5,y0,y1⟩:=KEEP.out _ hB5.out; obtain ⟨⟨j0,j1,j2,j3⟩,⟨l0,l1,l2,l3⟩⟩:=blk4 hG5; clear hb5 m0 m1 m2 m3 i0 i1 i2 i3 o0 o1 hG5))
        all_goals
          (rw [EQ.out] at hn5
           go_wp2_with fail
           go_meet
           exact divO_quo HG.out HGV.out HR.out HBV.out hB5.out hn5 (Nat.le_trans HBV.out.size hle5.out))
      case rest =>
        clear s0 s1 s2 s3 g0 g1 g2 g3 u0 u1 HG HQ HR HBV HNV HGV KEEP hzr hbq hd1 hd2
        obtain ⟨g,aq,kq,cq,bq,ar,kr,cr,br,rfl,_,hG,hgV,hq,hr,hBV⟩:=hcut
        have hbr:=hr.parts.1
        obtain ⟨⟨s0,s1,s2,s3⟩,⟨g0,g1,g2,g3⟩⟩:=blk4 hG
        have u0:=cell_to hBV Q0.out hszV; have u1:=cell_to hBV Q1.out hszV
        have HG:=Lib.hid hG; have HQ:=Lib.hid hq; have HR:=Lib.hid hr; have HBV:=Lib.hid hBV
        have HNV:Hid (w1.heap.size<wc.heap.size):=Lib.hid (Nat.lt_of_lt_of_le hszV hBV.size)
        have HGV:=Lib.hid hgV
        clear hG hq hr hBV hgV
        clear hbr u0 u1
        have r3:=(HBV.out.block _ (Nat.lt_of_lt_of_le (show w.heap.size+2<W.heap.size by omega) BW.out.size)).trans ((BW.out.block _ (show w.heap.size+2<W.heap.size by omega)).trans H3.out)
        have R3:=Lib.hid r3
        have l3:=(Array.getElem?_eq_some_iff.1 r3).1
        clear r3
        go_wp2_with fail
        refine (answer_number V.heap.size _ (qF x y) _ HQ.out HBV.out.size).mono ?_
        rintro e w9 ⟨v1,rfl,i1,hb9⟩
        rw [(z_fine FB.out).2]
        rw [(z_fine FB.out).1] at i1
        obtain ⟨m1,d1,e1,f1,rfl⟩:=i1.shape
        have x3:w9.heap[w.heap.size+1+1]?=_:=(hb9.block _ l3).trans R3.out
        obtain ⟨k0,k1',g0',g1',_⟩:=blk2 x3
        have X3:=Lib.hid x3; have I1:=Lib.hid i1.k
        have B9:=Lib.hid (below_of (below_of BV.out HBV.out) hb9)
        have hL3:w.heap.size≤w.heap.size+1+1:=by omega
        clear x3 i1 hb9
        go_wp2
        refine bodyPost_ret (v:=.tuple #[.agg #[.bool m1,.slice d1 e1 f1],.int .i64 0]) ?_ rfl ⟨_,rfl,I1.out.far X3.out,set_below (set_below B9.out hL3) hL3⟩
        simp [results,Tryz.results126,go_sem, *]
    · have EQE:Hid (qF x y=qC x y):=Lib.hid (by unfold qF; rw [if_neg hc])
      rw [← EQE.out] at HQ
      by_cases hr0:rC x y=0
      · have hd1:((kr:Int) == 0)=true:=by rw [hzr.2 (by omega)]; rfl
        clear hc hbr hbq hzr hr0 u0 u1
        go_wp2_with (go_at_call 151; refine (zero_is _ _ _ _).mono ?_; rintro e w' ⟨rfl,rfl⟩)
        have r3:=(HBV.out.block _ (Nat.lt_of_lt_of_le (show w.heap.size+2<W.heap.size by omega) BW.out.size)).trans ((BW.out.block _ (show w.heap.size+2<W.heap.size by omega)).trans H3.out)
        have R3:=Lib.hid r3
        have l3:=(Array.getElem?_eq_some_iff.1 r3).1
        clear r3
        go_wp2_with fail
        refine (answer_number V.heap.size _ (qF x y) _ HQ.out HBV.out.size).mono ?_
        rintro e w9 ⟨v1,rfl,i1,hb9⟩
        rw [(z_fine FB.out).2]
        rw [(z_fine FB.out).1] at i1
        obtain ⟨m1,d1,e1,f1,rfl⟩:=i1.shape
        have x3:w9.heap[w.heap.size+1+1]?=_:=(hb9.block _ l3).trans R3.out
        obtain ⟨k0,k1',g0',g1',_⟩:=blk2 x3
        have X3:=Lib.hid x3; have I1:=Lib.hid i1.k
        have B9:=Lib.hid (below_of (below_of BV.out HBV.out) hb9)
        have hL3:w.heap.size≤w.heap.size+1+1:=by omega
        clear x3 i1 hb9
        go_wp2
        refine bodyPost_ret (v:=.tuple #[.agg #[.bool m1,.slice d1 e1 f1],.int .i64 0]) ?_ rfl ⟨_,rfl,I1.out.far X3.out,set_below (set_below B9.out hL3) hL3⟩
        simp [results,Tryz.results126,go_sem, *]
      · have hd1:((kr:Int) == 0)=false:=by rw [beq_eq_false_iff_ne]; intro e; have:=hzr.1 (by omega); omega
        have hbb:br=sgn x:=by rw [hbr,sgn_rC hr0]
        have hd2:(br == sgn y)=true:=by
          rw [hbb]
          have:sgn x=sgn y:=Classical.byContradiction (fun e=>hc ⟨hr0,e⟩)
          rw [this]; simp
        clear hc hbr hbq hzr hr0 hbb
        go_wp2_with (go_at_call 151; refine (zero_is _ _ _ _).mono ?_; rintro e w' ⟨rfl,rfl⟩)
        clear u0 u1 hd2
        have r3:=(HBV.out.block _ (Nat.lt_of_lt_of_le (show w.heap.size+2<W.heap.size by omega) BW.out.size)).trans ((BW.out.block _ (show w.heap.size+2<W.heap.size by omega)).trans H3.out)
        have R3:=Lib.hid r3
        have l3:=(Array.getElem?_eq_some_iff.1 r3).1
        clear r3
        go_wp2_with fail
        refine (answer_number V.heap.size _ (qF x y) _ HQ.out HBV.out.size).mono ?_
        rintro e w9 ⟨v1,rfl,i1,hb9⟩
        rw [(z_fine FB.out).2]
        rw [(z_fine FB.out).1] at i1
        obtain ⟨m1,d1,e1,f1,rfl⟩:=i1.shape
        have x3:w9.heap[w.heap.size+1+1]?=_:=(hb9.block _ l3).trans R3.out
        obtain ⟨k0,k1',g0',g1',_⟩:=blk2 x3
        have X3:=Lib.hid x3; have I1:=Lib.hid i1.k
        have B9:=Lib.hid (below_of (below_of BV.out HBV.out) hb9)
        have hL3:w.heap.size≤w.heap.size+1+1:=by omega
        clear x3 i1 hb9
        go_wp2
        refine bodyPost_ret (v:=.tuple #[.agg #[.bool m1,.slice d1 e1 f1],.int .i64 0]) ?_ rfl ⟨_,rfl,I1.out.far X3.out,set_below (set_below B9.out hL3) hL3⟩
        simp [results,Tryz.results126,go_sem, *]
end Go.Proofs.YtacbkpenohcgjaaGreat
namespace Go.Proofs.YtacbkpenohcgjaaGreat
open Go.RowKit Mth
end Go.Proofs.YtacbkpenohcgjaaGreat
namespace Go.Proofs.YtacbkpenohcgjaaGreat
open Go.RowKit Mth
theorem IntV.far {w:World} {v y0 y1:Value} {z:Int} {R:Nat} {T:TypeId} {x:Bool} {ao:Option Addr} {n c:Nat} (h:IntV w v z) (hR:w.heap[R]?=some (.cells #[.bool x,.slice ao n c] T (0,0))):IntV ((w.setCell ⟨R,0,none⟩ y0).setCell ⟨R,1,none⟩ y1) v z:=by
  obtain ⟨b,u,xs,e,h1,h2⟩:=h
  have hne:∀ b off cap,u=.slice (some ⟨b,off,none⟩) xs.length cap→0<xs.length→b≠R:=fun b off cap e hp=>h1.ne hR e hp
  exact ⟨b,u,xs,e,(h1.set_far hne).set_far hne,h2⟩
theorem blk_far2 {w:World} {g R:Nat} {y0 y1:Value} {o:Obj} (h:w.heap[g]?=some o) (hne:g≠R):((w.setCell ⟨R,0,none⟩ y0).setCell ⟨R,1,none⟩ y1).heap[g]?=some o:=by
  rw [heap_setCell_other _ ⟨R,1,none⟩ g _ hne,heap_setCell_other _ ⟨R,0,none⟩ g _ hne]; exact h
def IntR (w:World) (v:Value) (z:Int):Prop:=IntK w v z∧IntV w v z
theorem IntR.below {w w':World} {v:Value} {z:Int} (h:IntR w v z) (hb:Below w.heap.size w w'):IntR w' v z:=⟨h.1.below hb,h.2.below hb⟩
theorem IntR.far {w:World} {v y0 y1:Value} {z:Int} {R:Nat} {T:TypeId} {x:Bool} {ao:Option Addr} {n c:Nat} (h:IntR w v z) (hR:w.heap[R]?=some (.cells #[.bool x,.slice ao n c] T (0,0))):IntR ((w.setCell ⟨R,0,none⟩ y0).setCell ⟨R,1,none⟩ y1) v z:=⟨h.1.far hR,h.2.far hR⟩
def Res1 (w w':World) (e:Ending) (z:Int):Prop:=∃ n a k c,e=.returned (.tuple #[.agg #[.bool n,.slice a k c],.int .i64 0])∧IntR w' (.agg #[.bool n,.slice a k c]) z∧Below w.heap.size w w'
def Res2 (w w':World) (e:Ending) (z y:Int):Prop:=∃ n a k c n' a' k' c',e=.returned (.tuple #[.agg #[.bool n,.slice a k c],.agg #[.bool n',.slice a' k' c'],.int .i64 0])∧IntR w' (.agg #[.bool n,.slice a k c]) z∧IntR w' (.agg #[.bool n',.slice a' k' c']) y∧Below w.heap.size w w'
def Res0 (w w':World) (e:Ending) (z:Int):Prop:=∃ n a k c,e=.returned (.agg #[.bool n,.slice a k c])∧IntR w' (.agg #[.bool n,.slice a k c]) z∧Below w.heap.size w w'
theorem IntK.r {w:World} {v:Value} {z:Int} (h:IntK w v z) (hz:z.natAbs<Big):IntR w v z:=⟨h,h.intV hz⟩
theorem addF (va vb:Value) (x y:Int) (w:World) (ha:IntV w va x) (hb:IntV w vb y) (h:(x+y).natAbs<Big):Calls Tryz.prog 117 #[va,vb] w fun e w'=>Res1 w w' e (x+y):=(addI_any va vb x y w ha hb).mono fun e w' ⟨v',he,hi,hb⟩=>by
  rw [(z_fine h).2] at he; rw [(z_fine h).1] at hi
  obtain ⟨n,a,k,c,rfl⟩:=hi.shape
  exact ⟨n,a,k,c,he,hi.k.r h,hb⟩
theorem subF (va vb:Value) (x y:Int) (w:World) (ha:IntV w va x) (hb:IntV w vb y) (h:(x - y).natAbs<Big):Calls Tryz.prog 106 #[va,vb] w fun e w'=>Res1 w w' e (x - y):=(subI_any va vb x y w ha hb).mono fun e w' ⟨v',he,hi,hb⟩=>by
  rw [(z_fine h).2] at he; rw [(z_fine h).1] at hi
  obtain ⟨n,a,k,c,rfl⟩:=hi.shape
  exact ⟨n,a,k,c,he,hi.k.r h,hb⟩
theorem mulF (va vb:Value) (x y:Int) (w:World) (ha:IntV w va x) (hb:IntV w vb y) (h:(x*y).natAbs<Big):Calls Tryz.prog 118 #[va,vb] w fun e w'=>Res1 w w' e (x*y):=(mulI_any va vb x y w ha hb).mono fun e w' ⟨v',he,hi,hb⟩=>by
  rw [(z_fine h).2] at he; rw [(z_fine h).1] at hi
  obtain ⟨n,a,k,c,rfl⟩:=hi.shape
  exact ⟨n,a,k,c,he,hi.r h,hb⟩
theorem floorF (va vb:Value) (x y:Int) (w:World) (ha:IntV w va x) (hb:IntV w vb y) (hx:x.natAbs<Big) (hy:y.natAbs<Big) (h0:y≠0):Calls Tryz.prog 126 #[va,vb] w fun e w'=>Res1 w w' e (qF x y):=(floorI_any va vb x y w ha hb hx hy h0).mono fun e w' ⟨v',he,hi,hb⟩=>by
  obtain ⟨n,a,k,c,rfl⟩:=hi.shape
  exact ⟨n,a,k,c,he,hi.r (dvs_bounds hx hy h0).2.2.2.2.1,hb⟩
theorem quoF (va vb:Value) (x y:Int) (w:World) (ha:IntV w va x) (hb:IntV w vb y) (hx:x.natAbs<Big) (hy:y.natAbs<Big) (h0:y≠0):Calls Tryz.prog 120 #[va,vb] w fun e w'=>Res2 w w' e (qC x y) (rC x y):=(quoI_any va vb x y w ha hb hx hy h0).mono fun e w' ⟨v1,v2,he,h1,h2,hb⟩=>by
  obtain ⟨n,a,k,c,rfl⟩:=h1.shape
  obtain ⟨n',a',k',c',rfl⟩:=h2.shape
  exact ⟨n,a,k,c,n',a',k',c',he,h1.r (dvs_bounds hx hy h0).1,h2.r (dvs_bounds hx hy h0).2.1,hb⟩
theorem negF (v:Value) (z:Int) (w:World) (h:IntV w v z) (hz:z.natAbs<Big):Calls Tryz.prog 108 #[v] w fun e w'=>Res0 w w' e (-z):=(neg_any v z w h).mono fun e w' ⟨v',he,hi,hb⟩=>by
  obtain ⟨n,a,k,c,rfl⟩:=hi.shape
  exact ⟨n,a,k,c,he,hi.k.r (by rw [Int.natAbs_neg]; exact hz),hb⟩
theorem ofF (n:Int) (w:World) (h1:-9223372036854775808≤n) (h2:n≤9223372036854775807):Calls Tryz.prog 107 #[.int .i64 n] w fun e w'=>Res0 w w' e n:=(ofI_any n w h1 h2).mono fun e w' ⟨v',he,hi,hb⟩=>by
  obtain ⟨m,a,k,c,rfl⟩:=hi.shape
  exact ⟨m,a,k,c,he,hi.k.r (small_big (by omega)),hb⟩
theorem signF (v:Value) (z o:Int) (w:World) (h:IntV w v z) (ho:zcmp z 0=o):Calls Tryz.prog 123 #[v] w fun e w'=>e=.returned (.int .i64 o)∧Below w.heap.size w w':=by
  subst ho; exact sign_any v z w h
theorem cmpF (va vb:Value) (x y o:Int) (w:World) (ha:IntV w va x) (hb:IntV w vb y) (ho:zcmp x y=o):Calls Tryz.prog 53 #[va,vb] w fun e w'=>e=.returned (.int .i64 o)∧Below w.heap.size w w':=by
  subst ho; exact cmpI_any va vb x y w ha hb
end Go.Proofs.YtacbkpenohcgjaaGreat
