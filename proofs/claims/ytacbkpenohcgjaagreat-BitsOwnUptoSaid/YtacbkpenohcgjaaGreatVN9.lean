import Derived.Test.YtacbkpenohcgjaaGreatVN2
import Derived.Test.YtacbkpenohcgjaaGreatVNJ9
import Derived.IntWalk
import Derived.Test.YtacbkpenohcgjaaGreatVN4
import Derived.Test.YtacbkpenohcgjaaGreatVN8
import Derived.Test.YtacbkpenohcgjaaGreatVN5
set_option linter.unusedVariables false
set_option linter.unusedSimpArgs false
set_option maxHeartbeats 16000000
set_option maxRecDepth 100000
namespace Go.Proofs.YtacbkpenohcgjaaGreat
open Go.RowKit Mth
theorem udiv_is (pv av:Value) (wd m n:Nat) (b1:1≤wd) (b2:wd≤4096) (hm:m<2 ^ wd) (hn:n<2 ^ wd) (w:World) (hp:∃ po pn pc,pv=.slice po pn pc) (h:BvL w av [(wd,m),(wd,n)]) (h0:n≠0) :
    Calls Tryz.prog 72 #[.agg #[pv,av]] w fun e w'=>∃ v',e=.returned v'∧IntV w' v' (qC (m:Int) n)∧Below w.heap.size w w':=by
  obtain ⟨po,pn,pc,rfl⟩:=hp
  obtain ⟨ao,cap,rfl⟩:=h.shape
  obtain ⟨W,eW,g1,g2,bel,hsz⟩:=alloc2 w (Obj.cells #[.slice po pn pc,.slice ao 2 cap] 46) (Obj.cells #[.bool false,.slice none 0 0] 50)
  have HW:=Lib.hid (h.below bel)
  have G1:=Lib.hid g1; have G2:=Lib.hid g2; have BL:=Lib.hid bel
  have hWs:w.heap.size+1<W.heap.size:=by rw [← eW]; simp
  have VV:Hid (∀ w1,Below W.heap.size W w1→Calls Tryz.prog 116 #[.agg #[.slice po pn pc,.slice ao 2 cap]] w1 fun e w'=>∃ v',e=.returned v'∧IntV w' v' ((n:Int))∧Below w1.heap.size w1 w'):=Lib.hid (fun w1 hw=>op_v _ _ _ 1 wd n w1 ⟨_,_,_,rfl⟩ (HW.out.below hw) rfl (by omega) rfl)
  have UU:Hid (∀ w1,Below W.heap.size W w1→Calls Tryz.prog 85 #[.agg #[.slice po pn pc,.slice ao 2 cap]] w1 fun e w'=>∃ v',e=.returned v'∧IntV w' v' ((m:Int))∧Below w1.heap.size w1 w'):=Lib.hid (fun w1 hw=>op_u _ _ _ wd m w1 ⟨_,_,_,rfl⟩ (HW.out.below hw) rfl)
  have hbm:=(vec_bound1 b2 hm).1; have hbn:=(vec_bound1 b2 hn).1
  have QQ:Hid (∀ va vb w1,Below W.heap.size W w1→IntV w1 va (m:Int)→IntV w1 vb (n:Int)→Calls Tryz.prog 120 #[va,vb] w1 fun e w'=>Res2 w1 w' e (qC (m:Int) n) (rC (m:Int) n)):=Lib.hid (fun va vb w1 _ h1 h2=>quoF va vb _ _ w1 h1 h2 hbm hbn (by omega))
  have IZ:Hid (∀ v w1,IntV w1 v (n:Int)→Calls Tryz.prog 119 #[v] w1 fun e w'=>e=.returned (.bool false)∧Below w1.heap.size w1 w'):=Lib.hid (fun v w1 hv=>isZero_any v _ false (decide_eq_false (by omega)) w1 hv)
  generalize qC (m:Int) n=z at *
  generalize rC (m:Int) n=zr at *
  obtain ⟨c0,c1,-,-,_⟩:=blk2 g1
  clear h g1 g2 bel hbm hbn h0 hm hn
  go_enter Tryz.func72,Tryz.ntmps72
  go_wp2_with fail
  try rw [eW]
  refine (VV.out W (Below.refl _ _)).mono ?_
  rintro e u1 ⟨v1,rfl,hi1,hb1⟩
  have B1:=Lib.hid hb1
  have J1:=Lib.hid hi1
  obtain ⟨n1,a1,k1,k1',rfl⟩:=hi1.shape
  clear hi1 hb1 c0 c1
  go_wp2_with fail
  refine (IZ.out _ _ J1.out).mono ?_
  rintro e X ⟨rfl,hb2⟩
  have BX:=Lib.hid (below_of B1.out hb2)
  have GA:=Lib.hid (car BX.out G1.out)
  have hWX:=BX.out.size
  clear hb2
  go_upto_region 3 with fail
  have UX:Hid (∀ w1,Below X.heap.size X w1→_):=Lib.hid (fun w1 hw=>UU.out w1 (below_of BX.out hw))
  have VX:Hid (∀ w1,Below X.heap.size X w1→_):=Lib.hid (fun w1 hw=>VV.out w1 (below_of BX.out hw))
  have QX:Hid (∀ va vb w1,Below X.heap.size X w1→IntV w1 va (m:Int)→IntV w1 vb (n:Int)→_):=Lib.hid (fun va vb w1 hw h1 h2=>QQ.out va vb w1 (below_of BX.out hw) h1 h2)
  have STAYq:Hid (∀ w',Below X.heap.size X w'→w'.cell? ⟨w.heap.size,0,none⟩=some (.slice po pn pc)∧w'.cell? ⟨w.heap.size,1,none⟩=some (.slice ao 2 cap)∧Below X.heap.size X w'∧X.heap.size≤w'.heap.size):=Lib.hid (fun w' hb=>by
    obtain ⟨e0,e1,-,-,-⟩:=blk2 (car hb GA.out)
    exact ⟨e0,e1,hb,hb.size⟩)
  have hBq:=(Below.refl X.heap.size X).drew
  clear UU VV QQ IZ J1 B1
  go_cut [3] (fun s wx=>BoxI X wx z s)
  case first =>
    go_region_held3 (fun w'=>w'.cell? ⟨w.heap.size,0,none⟩=some (.slice po pn pc)∧w'.cell? ⟨w.heap.size,1,none⟩=some (.slice ao 2 cap)∧Below X.heap.size X w'∧X.heap.size≤w'.heap.size)
      (((try go_split_ands); refine STAYq.out _ ?_; repeat (first | (with_reducible assumption) | (with_reducible exact Below.refl _ _) | (with_reducible refine Below.drew ?_) | (with_reducible exact below_to (by with_reducible assumption) (by with_reducible assumption)) | ((with_reducible refine Below.alloc ?_ ?_ _); rotate_left; (focus (first | omega | (simp; done) | (simp; omega)))) | ((with_reducible refine Below.setCell ?_ ?_ _); rotate_left; (focus (first | omega | (simp; done) | (simp; omega)))))))
      (first
      | (have tk:=TKq_2; go_at_call 120; go_split_ands; (with_reducible refine Calls.mono (QX.out _ _ _ (by with_reducible assumption) ?_ ?_) ?_); (repeat (first | (with_reducible assumption) | (with_reducible refine intv_alloc ?_) | (with_reducible refine intv_drew ?_))); (repeat (first | (with_reducible assumption) | (with_reducible refine intv_alloc ?_) | (with_reducible refine intv_drew ?_))); rintro e wq_3 ⟨nq_3,aq_3,kq_3,cq_3,mq_3,bq_3,lq_3,dq_3,rfl,rrq_3,qqq_3,hbq_3⟩; have iiq_3:=rrq_3.2; have jjq_3:=qqq_3.2; clear rrq_3 qqq_3; have hkq_3:=below_to hbq_3 (by with_reducible assumption); have hzq_3:=hkq_3.size; obtain ⟨hcq_3,hfq_3⟩:=bcell hbq_3; have hyq_3:=hbq_3.size; (try simp only [sz_alloc,sz_set,sz_drew] at hyq_3); (try (have hqq_3:X.heap.size<wq_3.heap.size:=by omega)); (try (have hrq_3:X.heap.size+1<wq_3.heap.size:=by omega)); (try (have hpq_3_1:wq_1.heap.size<wq_3.heap.size:=by omega)); (try (have hsq_3_1:wq_1.heap.size+1<wq_3.heap.size:=by omega)); (try (have hpq_3_2:wq_2.heap.size<wq_3.heap.size:=by omega)); (try (have hsq_3_2:wq_2.heap.size+1<wq_3.heap.size:=by omega)); have TKq_3:True:=trivial)
      | (have tk:=TKq_1; go_at_call 116; go_split_ands; (with_reducible refine Calls.mono (VX.out _ (by with_reducible assumption)) ?_); rintro e wq_2 ⟨vq_2,rfl,iiq_2,hbq_2⟩; have hkq_2:=below_to hbq_2 (by with_reducible assumption); have hzq_2:=hkq_2.size; obtain ⟨hcq_2,hfq_2⟩:=bcell hbq_2; have hyq_2:=hbq_2.size; (try simp only [sz_alloc,sz_set,sz_drew] at hyq_2); (try (have hqq_2:X.heap.size<wq_2.heap.size:=by omega)); (try (have hrq_2:X.heap.size+1<wq_2.heap.size:=by omega)); (try (have hpq_2_1:wq_1.heap.size<wq_2.heap.size:=by omega)); (try (have hsq_2_1:wq_1.heap.size+1<wq_2.heap.size:=by omega)); (first | (have ijq_1:=intv_call hbq_2 iiq_1) | (have ijq_1:=intv_call hbq_2 (intv_alloc iiq_1)) | (have ijq_1:=intv_call hbq_2 (intv_alloc (intv_alloc iiq_1))) | (have ijq_1:=intv_call hbq_2 (intv_drew iiq_1)) | (have ijq_1:=intv_call hbq_2 (intv_alloc (intv_drew iiq_1))) | (have ijq_1:=intv_call hbq_2 (intv_drew (intv_alloc iiq_1))) | (have ijq_1:=intv_call hbq_2 (intv_alloc (intv_alloc (intv_drew iiq_1)))) | (have ijq_1:=intv_call hbq_2 (intv_drew (intv_alloc (intv_alloc iiq_1))))); clear iiq_1; have iiq_1:=ijq_1; clear ijq_1; obtain ⟨nq_2,aq_2,kq_2,cq_2,rfl⟩:=iiq_2.shape; have TKq_2:True:=trivial)
      | (go_at_call 85; go_split_ands; (with_reducible refine Calls.mono (UX.out _ (by with_reducible assumption)) ?_); rintro e wq_1 ⟨vq_1,rfl,iiq_1,hbq_1⟩; have hkq_1:=below_to hbq_1 (by with_reducible assumption); have hzq_1:=hkq_1.size; obtain ⟨hcq_1,hfq_1⟩:=bcell hbq_1; have hyq_1:=hbq_1.size; (try simp only [sz_alloc,sz_set,sz_drew] at hyq_1); (try (have hqq_1:X.heap.size<wq_1.heap.size:=by omega)); (try (have hrq_1:X.heap.size+1<wq_1.heap.size:=by omega)); obtain ⟨nq_1,aq_1,kq_1,cq_1,rfl⟩:=iiq_1.shape; have TKq_1:True:=trivial))
    all_goals
      (go_wp2_with fail
       go_meet
       clear hcq_1 hfq_1 hcq_2 hfq_2 hcq_3 hfq_3
       refine ⟨_,nq_3,aq_3,kq_3,cq_3,rfl, ?_, ?_, ?_, ?_⟩)
    all_goals
      repeat (first | (with_reducible assumption) | ((with_reducible refine nblk_new ?_); (first | omega | (simp only [sz_alloc,sz_set,sz_drew]; omega) | (focus (simp only [sz_alloc,sz_set,sz_drew]; done)))) | ((with_reducible refine nblk_lt ?_ ?_); (first | omega | (simp only [sz_alloc,sz_set,sz_drew]; omega) | (focus (simp only [sz_alloc,sz_set,sz_drew]; done)))) | (with_reducible refine nblk_own ?_) | ((with_reducible refine nblk_two ?_ ?_); (first | omega | (simp only [sz_alloc,sz_set,sz_drew]; omega) | (focus (simp only [sz_alloc,sz_set,sz_drew]; done)))) | (with_reducible refine nblk_drew ?_) | (with_reducible refine nblk_call hbq_3 ?_) | (with_reducible refine nblk_call hbq_2 ?_) | (with_reducible refine nblk_call hbq_1 ?_) | (with_reducible refine intv_alloc ?_) | (with_reducible refine intv_drew ?_) | (with_reducible refine intv_set ?_ ?_) | (with_reducible refine intv_call hbq_3 ?_) | (with_reducible refine intv_call hbq_2 ?_) | (with_reducible refine intv_call hbq_1 ?_) | (with_reducible exact Below.refl _ _) | (with_reducible refine Below.drew ?_) | ((with_reducible refine Below.alloc ?_ ?_ _); rotate_left; (focus (first | omega | (simp; done) | (simp; omega)))) | ((with_reducible refine Below.setCell ?_ ?_ _); rotate_left; (focus (first | omega | (simp; done) | (simp; omega)))) | (with_reducible refine bel_call hbq_3 ?_) | (with_reducible refine bel_call hbq_2 ?_) | (with_reducible refine bel_call hbq_1 ?_) | (first | omega | (simp only [sz_alloc,sz_set,sz_drew]; omega) | (focus (simp only [sz_alloc,sz_set,sz_drew]; done))))
  case rest =>
    have BB:=Lib.hid (below_of BL.out BX.out)
    have GB:=Lib.hid (car BX.out G2.out)
    obtain ⟨g,ng,ag,kg,cg,rfl,hg,hG,hI,hb⟩:=hcut
    generalize wc=wx at *
    have HI:=Lib.hid hI
    have BX:=Lib.hid (below_of BB.out hb)
    have GR:=Lib.hid (car hb GB.out)
    obtain ⟨z0,z1,-,-,_⟩:=blk2 hG
    obtain ⟨q0,q1,r0,r1,_⟩:=blk2 GR.out
    clear hG hI hb
    go_wp2
    exact bodyPost_ret (results_it rfl rfl (set2_row _ _ GR.out)) rfl ⟨_,rfl,HI.out.far GR.out,(BX.out.setCell (by show w.heap.size≤w.heap.size+1; omega) _).setCell (by show w.heap.size≤w.heap.size+1; omega) _⟩
end Go.Proofs.YtacbkpenohcgjaaGreat
namespace Go.Proofs.YtacbkpenohcgjaaGreat
open Go.RowKit Mth
def leftZ (a b:Int):Int:=if b=0 then a else rC a b
theorem left_zero (va vb:Value) (a:Int) (w:World) (ha:IntV w va a) (hb:IntV w vb 0):Calls Tryz.prog 121 #[va,vb] w fun e w'=>∃ v',e=.returned v'∧IntV w' v' a∧Below w.heap.size w w':=by
  obtain ⟨na,aa,ka,ca,rfl⟩:=ha.shape
  obtain ⟨nb,ab,kb,cb,rfl⟩:=hb.shape
  obtain ⟨W,eW,g1,g2,g3,bel,hsz⟩:=alloc3 w (Obj.cells #[.bool na,.slice aa ka ca] 50) (Obj.cells #[.bool nb,.slice ab kb cb] 50) (Obj.cells #[.bool false,.slice none 0 0] 50)
  have HA:=Lib.hid (ha.below bel); have HB:=Lib.hid (hb.below bel)
  have G1:=Lib.hid g1; have G2:=Lib.hid g2; have G3:=Lib.hid g3; have BL:=Lib.hid bel
  obtain ⟨p0,p1,-,-,_⟩:=blk2 g2
  have IZ:=Lib.hid (isZero_any _ 0 true rfl W HB.out)
  clear ha hb g1 g2 g3 bel
  go_enter Tryz.func121,Tryz.ntmps121
  go_wp2_with fail
  try rw [eW]
  refine IZ.out.mono ?_
  rintro e w2 ⟨rfl,hb2⟩
  have H2:=Lib.hid (HA.out.below hb2)
  have B2:=Lib.hid (below_of BL.out hb2)
  have GR:=Lib.hid (car hb2 G3.out)
  obtain ⟨c0,c1,-,-,_⟩:=blk2 (car hb2 G1.out)
  obtain ⟨q0,q1,r0,r1,_⟩:=blk2 GR.out
  clear hb2 p0 p1
  go_wp2
  exact bodyPost_ret (results_it rfl rfl (set2_row _ _ GR.out)) rfl ⟨_,rfl,H2.out.far GR.out,(B2.out.setCell (by show w.heap.size≤w.heap.size+1+1; omega) _).setCell (by show w.heap.size≤w.heap.size+1+1; omega) _⟩
theorem left_some (va vb:Value) (a b:Int) (w:World) (ha:IntV w va a) (hb:IntV w vb b) (h0:b≠0) (hx:a.natAbs<Big) (hy:b.natAbs<Big):Calls Tryz.prog 121 #[va,vb] w fun e w'=>∃ v',e=.returned v'∧IntV w' v' (rC a b)∧Below w.heap.size w w':=by
  obtain ⟨na,aa,ka,ca,rfl⟩:=ha.shape
  obtain ⟨nb,ab,kb,cb,rfl⟩:=hb.shape
  obtain ⟨W,eW,g1,g2,g3,bel,hsz⟩:=alloc3 w (Obj.cells #[.bool na,.slice aa ka ca] 50) (Obj.cells #[.bool nb,.slice ab kb cb] 50) (Obj.cells #[.bool false,.slice none 0 0] 50)
  have HA:=Lib.hid (ha.below bel); have HB:=Lib.hid (hb.below bel)
  have G1:=Lib.hid g1; have G2:=Lib.hid g2; have G3:=Lib.hid g3; have BL:=Lib.hid bel
  obtain ⟨p0,p1,-,-,_⟩:=blk2 g2
  have IZ:=Lib.hid (isZero_any _ b false (decide_eq_false h0) W HB.out)
  have QQ:Hid (∀ va vb w1,IntV w1 va a→IntV w1 vb b→Calls Tryz.prog 120 #[va,vb] w1 fun e w'=>Res2 w1 w' e (qC a b) (rC a b)):=Lib.hid (fun va vb w1 h1 h2=>quoF va vb _ _ w1 h1 h2 hx hy h0)
  generalize qC a b=zq at *
  generalize rC a b=z at *
  clear ha hb g1 g2 g3 bel h0 hx hy
  go_enter Tryz.func121,Tryz.ntmps121
  go_wp2_with fail
  try rw [eW]
  refine IZ.out.mono ?_
  rintro e w2 ⟨rfl,hb2⟩
  have HA2:=Lib.hid (HA.out.below hb2); have HB2:=Lib.hid (HB.out.below hb2)
  have B2:=Lib.hid (below_of BL.out hb2)
  have GR:=Lib.hid (car hb2 G3.out)
  obtain ⟨c0,c1,-,-,_⟩:=blk2 (car hb2 G1.out)
  obtain ⟨d0,d1,-,-,_⟩:=blk2 (car hb2 G2.out)
  clear hb2 p0 p1
  go_wp2_with fail
  refine (QQ.out _ _ _ HA2.out HB2.out).mono ?_
  rintro e w3 ⟨n3,a3,k3,c3,m3,b3,l3,d3,rfl,hq3,hr3,hb3⟩
  obtain ⟨V,eV,gV0,gV,bV,hVs⟩:=alloc2 w3 (Obj.cells #[.bool n3,.slice a3 k3 c3] 50) (Obj.cells #[.bool m3,.slice b3 l3 d3] 50)
  have H3:=Lib.hid (hr3.2.below bV)
  have B3:=Lib.hid (below_of B2.out (below_of hb3 bV))
  have GS:=Lib.hid (car bV (car hb3 GR.out))
  obtain ⟨e0,e1,-,-,_⟩:=blk2 gV
  obtain ⟨q0,q1,r0,r1,_⟩:=blk2 GS.out
  clear hb3 hq3 hr3 gV0 gV bV c0 c1 d0 d1
  have EV:=Lib.hid eV
  clear eV
  go_upto_region 4 with fail
  try rw [EV.out]
  go_wp2
  exact bodyPost_ret (results_it rfl rfl (set2_row _ _ GS.out)) rfl ⟨_,rfl,H3.out.far GS.out,(B3.out.setCell (by show w.heap.size≤w.heap.size+1+1; omega) _).setCell (by show w.heap.size≤w.heap.size+1+1; omega) _⟩
theorem left_any (va vb:Value) (a b:Int) (w:World) (ha:IntV w va a) (hb:IntV w vb b) (hx:a.natAbs<Big) (hy:b.natAbs<Big):Calls Tryz.prog 121 #[va,vb] w fun e w'=>∃ v',e=.returned v'∧IntV w' v' (leftZ a b)∧Below w.heap.size w w':=by
  unfold leftZ
  by_cases h:b=0
  · rw [if_pos h]; subst h; exact left_zero va vb a w ha hb
  · rw [if_neg h]; exact left_some va vb a b w ha hb h hx hy
theorem sgV_big {wd n:Nat} (h2:wd≤4096) (hn:n<2 ^ wd):(sgV wd n).natAbs<Big:=by
  have:=(two_big h2).1
  unfold sgV
  split<;>omega
theorem urem_is (pv av:Value) (wd m n:Nat) (b1:1≤wd) (b2:wd≤4096) (hm:m<2 ^ wd) (hn:n<2 ^ wd) (w:World) (hp:∃ po pn pc,pv=.slice po pn pc) (h:BvL w av [(wd,m),(wd,n)]) :
    Calls Tryz.prog 73 #[.agg #[pv,av]] w fun e w'=>∃ v',e=.returned v'∧IntV w' v' (leftZ ((m:Int)) ((n:Int)))∧Below w.heap.size w w':=by
  obtain ⟨po,pn,pc,rfl⟩:=hp
  obtain ⟨ao,cap,rfl⟩:=h.shape
  obtain ⟨W,eW,g1,g2,bel,hsz⟩:=alloc2 w (Obj.cells #[.slice po pn pc,.slice ao 2 cap] 46) (Obj.cells #[.bool false,.slice none 0 0] 50)
  have HW:=Lib.hid (h.below bel)
  have G1:=Lib.hid g1; have G2:=Lib.hid g2; have BL:=Lib.hid bel
  have hWs:w.heap.size+1<W.heap.size:=by rw [← eW]; simp
  have UU:Hid (∀ w1,Below W.heap.size W w1→Calls Tryz.prog 85 #[.agg #[.slice po pn pc,.slice ao 2 cap]] w1 fun e w'=>∃ v',e=.returned v'∧IntV w' v' ((m:Int))∧Below w1.heap.size w1 w'):=Lib.hid (fun w1 hw=>op_u _ _ _ wd m w1 ⟨_,_,_,rfl⟩ (HW.out.below hw) rfl)
  have VV:Hid (∀ w1,Below W.heap.size W w1→Calls Tryz.prog 116 #[.agg #[.slice po pn pc,.slice ao 2 cap]] w1 fun e w'=>∃ v',e=.returned v'∧IntV w' v' ((n:Int))∧Below w1.heap.size w1 w'):=Lib.hid (fun w1 hw=>op_v _ _ _ 1 wd n w1 ⟨_,_,_,rfl⟩ (HW.out.below hw) rfl (by omega) rfl)
  have hbx:((m:Int):Int).natAbs<Big∧((n:Int):Int).natAbs<Big:=⟨(vec_bound1 b2 hm).1,(vec_bound1 b2 hn).1⟩
  have LL:Hid (∀ va vb w1,IntV w1 va ((m:Int))→IntV w1 vb ((n:Int))→Calls Tryz.prog 121 #[va,vb] w1 fun e w'=>∃ v',e=.returned v'∧IntV w' v' (leftZ ((m:Int)) ((n:Int)))∧Below w1.heap.size w1 w'):=Lib.hid (fun va vb w1 h1 h2=>left_any va vb _ _ w1 h1 h2 hbx.1 hbx.2)
  generalize leftZ ((m:Int)) ((n:Int))=z at *
  have STAY:Hid (∀ w',Below W.heap.size W w'→w'.cell? ⟨w.heap.size,0,none⟩=some (.slice po pn pc)∧w'.cell? ⟨w.heap.size,1,none⟩=some (.slice ao 2 cap)):=Lib.hid (fun w' hb=>by
    obtain ⟨e0,e1,-,-,_⟩:=blk2 (car hb G1.out)
    exact ⟨e0,e1⟩)
  have STAY2:Hid (∀ w' y0 y1,Below W.heap.size W w'→((w'.setCell ⟨w.heap.size+1,0,none⟩ y0).setCell ⟨w.heap.size+1,1,none⟩ y1).cell? ⟨w.heap.size,0,none⟩=some (.slice po pn pc)∧((w'.setCell ⟨w.heap.size+1,0,none⟩ y0).setCell ⟨w.heap.size+1,1,none⟩ y1).cell? ⟨w.heap.size,1,none⟩=some (.slice ao 2 cap)):=Lib.hid (fun w' y0 y1 hb=>by
    obtain ⟨e0,e1,-,-,_⟩:=blk2 (blk_far2 (R:=w.heap.size+1) (y0:=y0) (y1:=y1) (car hb G1.out) (by omega))
    exact ⟨e0,e1⟩)
  have hk0:=Below.refl W.heap.size W
  clear h g1 g2 bel hbx hm hn
  go_enter Tryz.func73,Tryz.ntmps73
  go_upto_region 1 with fail
  try rw [eW]
  go_region_held3 (fun w'=>w'.cell? ⟨w.heap.size,0,none⟩=some (.slice po pn pc)∧w'.cell? ⟨w.heap.size,1,none⟩=some (.slice ao 2 cap))
    ((first | (refine STAY.out _ ?_; first | exact hk3 | exact hk3.drew | exact hk2 | exact hk2.drew | exact hk1 | exact hk1.drew | exact hk0 | exact hk0.drew) | exact STAY2.out _ _ _ hk3 | exact STAY2.out _ _ _ hk3.drew))
    (first
    | (have tk:=I2; go_at_call 121; (with_reducible refine Calls.mono (LL.out _ _ _ ?_ ?_) ?_); (first | exact I1.out | exact intv_drew I1.out); (first | exact I2.out | exact intv_drew I2.out); rintro e w3 ⟨v3,rfl,hi3,hb3⟩; have hk3:Below W.heap.size W w3:=(by first | exact below_of hk2 hb3 | exact below_of hk2.drew hb3); have I3:=Lib.hid hi3; obtain ⟨n3,a3,k3,c3,rfl⟩:=hi3.shape; have GR:=Lib.hid (car hk3 G2.out); obtain ⟨q0,q1,r0,r1,_⟩:=blk2 GR.out; have hz3:=hk3.size; clear hi3 hb3)
    | (have tk:=I1; go_at_call 116; (with_reducible refine Calls.mono (VV.out _ (by first | exact hk1 | exact hk1.drew)) ?_); rintro e w2 ⟨v2,rfl,hi2,hb2⟩; have hk2:Below W.heap.size W w2:=(by first | exact below_of hk1 hb2 | exact below_of hk1.drew hb2); have I2:=Lib.hid hi2; (first | (have I1':=Lib.hid (intv_call hb2 I1.out)) | (have I1':=Lib.hid (intv_call hb2 (intv_drew I1.out)))); clear I1; have I1:=I1'; clear I1'; obtain ⟨n2,a2,k2,c2,rfl⟩:=hi2.shape; clear hi2 hb2)
    | (go_at_call 85; (with_reducible refine Calls.mono (UU.out _ (by first | exact hk0 | exact hk0.drew)) ?_); rintro e w1 ⟨v1,rfl,hi1,hb1⟩; have hk1:Below W.heap.size W w1:=(by first | exact below_of hk0 hb1 | exact below_of hk0.drew hb1); have I1:=Lib.hid hi1; obtain ⟨n1,a1,k1,c1,rfl⟩:=hi1.shape; clear hi1 hb1))
  all_goals
    go_wp2
    exact bodyPost_ret (results_it rfl rfl (set2_row _ _ GR.out)) rfl ⟨_,rfl,I3.out.far GR.out,((below_of BL.out hk3).setCell (by show w.heap.size≤w.heap.size+1; omega) _).setCell (by show w.heap.size≤w.heap.size+1; omega) _⟩
theorem srem_is (pv av:Value) (wd m n:Nat) (b1:1≤wd) (b2:wd≤4096) (hm:m<2 ^ wd) (hn:n<2 ^ wd) (w:World) (hp:∃ po pn pc,pv=.slice po pn pc) (h:BvL w av [(wd,m),(wd,n)]) :
    Calls Tryz.prog 75 #[.agg #[pv,av]] w fun e w'=>∃ v',e=.returned v'∧IntV w' v' (leftZ (sgV wd m) (sgV wd n))∧Below w.heap.size w w':=by
  obtain ⟨po,pn,pc,rfl⟩:=hp
  obtain ⟨ao,cap,rfl⟩:=h.shape
  obtain ⟨W,eW,g1,g2,bel,hsz⟩:=alloc2 w (Obj.cells #[.slice po pn pc,.slice ao 2 cap] 46) (Obj.cells #[.bool false,.slice none 0 0] 50)
  have HW:=Lib.hid (h.below bel)
  have G1:=Lib.hid g1; have G2:=Lib.hid g2; have BL:=Lib.hid bel
  have hWs:w.heap.size+1<W.heap.size:=by rw [← eW]; simp
  have UU:Hid (∀ w1,Below W.heap.size W w1→Calls Tryz.prog 86 #[.agg #[.slice po pn pc,.slice ao 2 cap]] w1 fun e w'=>∃ v',e=.returned v'∧IntV w' v' (sgV wd m)∧Below w1.heap.size w1 w'):=Lib.hid (fun w1 hw=>op_s _ _ _ wd m b1 b2 hm w1 ⟨_,_,_,rfl⟩ (HW.out.below hw) rfl)
  have VV:Hid (∀ w1,Below W.heap.size W w1→Calls Tryz.prog 122 #[.agg #[.slice po pn pc,.slice ao 2 cap]] w1 fun e w'=>∃ v',e=.returned v'∧IntV w' v' (sgV wd n)∧Below w1.heap.size w1 w'):=Lib.hid (fun w1 hw=>op_t _ _ _ 1 wd n b1 b2 hn w1 ⟨_,_,_,rfl⟩ (HW.out.below hw) rfl (by omega) rfl)
  have hbx:(sgV wd m:Int).natAbs<Big∧(sgV wd n:Int).natAbs<Big:=⟨sgV_big b2 hm,sgV_big b2 hn⟩
  have LL:Hid (∀ va vb w1,IntV w1 va (sgV wd m)→IntV w1 vb (sgV wd n)→Calls Tryz.prog 121 #[va,vb] w1 fun e w'=>∃ v',e=.returned v'∧IntV w' v' (leftZ (sgV wd m) (sgV wd n))∧Below w1.heap.size w1 w'):=Lib.hid (fun va vb w1 h1 h2=>left_any va vb _ _ w1 h1 h2 hbx.1 hbx.2)
  generalize leftZ (sgV wd m) (sgV wd n)=z at *
  have STAY:Hid (∀ w',Below W.heap.size W w'→w'.cell? ⟨w.heap.size,0,none⟩=some (.slice po pn pc)∧w'.cell? ⟨w.heap.size,1,none⟩=some (.slice ao 2 cap)):=Lib.hid (fun w' hb=>by
    obtain ⟨e0,e1,-,-,_⟩:=blk2 (car hb G1.out)
    exact ⟨e0,e1⟩)
  have STAY2:Hid (∀ w' y0 y1,Below W.heap.size W w'→((w'.setCell ⟨w.heap.size+1,0,none⟩ y0).setCell ⟨w.heap.size+1,1,none⟩ y1).cell? ⟨w.heap.size,0,none⟩=some (.slice po pn pc)∧((w'.setCell ⟨w.heap.size+1,0,none⟩ y0).setCell ⟨w.heap.size+1,1,none⟩ y1).cell? ⟨w.heap.size,1,none⟩=some (.slice ao 2 cap)):=Lib.hid (fun w' y0 y1 hb=>by
    obtain ⟨e0,e1,-,-,_⟩:=blk2 (blk_far2 (R:=w.heap.size+1) (y0:=y0) (y1:=y1) (car hb G1.out) (by omega))
    exact ⟨e0,e1⟩)
  have hk0:=Below.refl W.heap.size W
  clear h g1 g2 bel hbx hm hn
  go_enter Tryz.func75,Tryz.ntmps75
  go_upto_region 1 with fail
  try rw [eW]
  go_region_held3 (fun w'=>w'.cell? ⟨w.heap.size,0,none⟩=some (.slice po pn pc)∧w'.cell? ⟨w.heap.size,1,none⟩=some (.slice ao 2 cap))
    ((first | (refine STAY.out _ ?_; first | exact hk3 | exact hk3.drew | exact hk2 | exact hk2.drew | exact hk1 | exact hk1.drew | exact hk0 | exact hk0.drew) | exact STAY2.out _ _ _ hk3 | exact STAY2.out _ _ _ hk3.drew))
    (first
    | (have tk:=I2; go_at_call 121; (with_reducible refine Calls.mono (LL.out _ _ _ ?_ ?_) ?_); (first | exact I1.out | exact intv_drew I1.out); (first | exact I2.out | exact intv_drew I2.out); rintro e w3 ⟨v3,rfl,hi3,hb3⟩; have hk3:Below W.heap.size W w3:=(by first | exact below_of hk2 hb3 | exact below_of hk2.drew hb3); have I3:=Lib.hid hi3; obtain ⟨n3,a3,k3,c3,rfl⟩:=hi3.shape; have GR:=Lib.hid (car hk3 G2.out); obtain ⟨q0,q1,r0,r1,_⟩:=blk2 GR.out; have hz3:=hk3.size; clear hi3 hb3)
    | (have tk:=I1; go_at_call 122; (with_reducible refine Calls.mono (VV.out _ (by first | exact hk1 | exact hk1.drew)) ?_); rintro e w2 ⟨v2,rfl,hi2,hb2⟩; have hk2:Below W.heap.size W w2:=(by first | exact below_of hk1 hb2 | exact below_of hk1.drew hb2); have I2:=Lib.hid hi2; (first | (have I1':=Lib.hid (intv_call hb2 I1.out)) | (have I1':=Lib.hid (intv_call hb2 (intv_drew I1.out)))); clear I1; have I1:=I1'; clear I1'; obtain ⟨n2,a2,k2,c2,rfl⟩:=hi2.shape; clear hi2 hb2)
    | (go_at_call 86; (with_reducible refine Calls.mono (UU.out _ (by first | exact hk0 | exact hk0.drew)) ?_); rintro e w1 ⟨v1,rfl,hi1,hb1⟩; have hk1:Below W.heap.size W w1:=(by first | exact below_of hk0 hb1 | exact below_of hk0.drew hb1); have I1:=Lib.hid hi1; obtain ⟨n1,a1,k1,c1,rfl⟩:=hi1.shape; clear hi1 hb1))
  all_goals
    go_wp2
    exact bodyPost_ret (results_it rfl rfl (set2_row _ _ GR.out)) rfl ⟨_,rfl,I3.out.far GR.out,((below_of BL.out hk3).setCell (by show w.heap.size≤w.heap.size+1; omega) _).setCell (by show w.heap.size≤w.heap.size+1; omega) _⟩
theorem udiv_zero (pv av:Value) (wd m:Nat) (w:World) (hp:∃ po pn pc,pv=.slice po pn pc) (h:BvL w av [(wd,m),(wd,0)]) :
    Calls Tryz.prog 72 #[.agg #[pv,av]] w fun e w'=>∃ v',e=.returned v'∧IntV w' v' (-1)∧Below w.heap.size w w':=by
  obtain ⟨po,pn,pc,rfl⟩:=hp
  obtain ⟨ao,cap,rfl⟩:=h.shape
  obtain ⟨W,eW,g1,g2,bel,hsz⟩:=alloc2 w (Obj.cells #[.slice po pn pc,.slice ao 2 cap] 46) (Obj.cells #[.bool false,.slice none 0 0] 50)
  have HW:=Lib.hid (h.below bel)
  have G1:=Lib.hid g1; have G2:=Lib.hid g2; have BL:=Lib.hid bel
  have hWs:w.heap.size+1<W.heap.size:=by rw [← eW]; simp
  have VV:Hid (∀ w1,Below W.heap.size W w1→Calls Tryz.prog 116 #[.agg #[.slice po pn pc,.slice ao 2 cap]] w1 fun e w'=>∃ v',e=.returned v'∧IntV w' v' (((0:Nat):Int))∧Below w1.heap.size w1 w'):=Lib.hid (fun w1 hw=>op_v _ _ _ 1 wd 0 w1 ⟨_,_,_,rfl⟩ (HW.out.below hw) rfl (by omega) rfl)
  have IZ:Hid (∀ v w1,IntV w1 v ((0:Nat):Int)→Calls Tryz.prog 119 #[v] w1 fun e w'=>e=.returned (.bool true)∧Below w1.heap.size w1 w'):=Lib.hid (fun v w1 hv=>isZero_any v _ true rfl w1 hv)
  have OF:Hid (∀ w1,Calls Tryz.prog 107 #[.int .i64 (-1)] w1 fun e w'=>Res0 w1 w' e (-1)):=Lib.hid (fun w1=>ofF (-1) w1 (by omega) (by omega))
  obtain ⟨c0,c1,-,-,_⟩:=blk2 g1
  clear h g1 g2 bel
  go_enter Tryz.func72,Tryz.ntmps72
  go_wp2_with fail
  try rw [eW]
  refine (VV.out W (Below.refl _ _)).mono ?_
  rintro e u1 ⟨v1,rfl,hi1,hb1⟩
  have B1:=Lib.hid hb1
  have J1:=Lib.hid hi1
  obtain ⟨n1,a1,k1,k1',rfl⟩:=hi1.shape
  clear hi1 hb1 c0 c1
  go_wp2_with fail
  refine (IZ.out _ _ J1.out).mono ?_
  rintro e X ⟨rfl,hb2⟩
  have BX:=Lib.hid (below_of B1.out hb2)
  clear hb2
  go_wp2_with fail
  refine (OF.out _).mono ?_
  rintro e w4 ⟨n4,a4,k4,k4',rfl,hr4,hb4⟩
  have H4:=Lib.hid hr4.2
  have B4:=Lib.hid (below_of BL.out (below_of BX.out hb4))
  have G4:=Lib.hid (car hb4 (car BX.out G2.out))
  obtain ⟨q0,q1,r0,r1,_⟩:=blk2 G4.out
  clear hr4 hb4
  go_wp2
  exact bodyPost_ret (results_it rfl rfl (set2_row _ _ G4.out)) rfl ⟨_,rfl,H4.out.far G4.out,(B4.out.setCell (by show w.heap.size≤w.heap.size+1; omega) _).setCell (by show w.heap.size≤w.heap.size+1; omega) _⟩
end Go.Proofs.YtacbkpenohcgjaaGreat
namespace Go.Proofs.YtacbkpenohcgjaaGreat
open Go.RowKit Mth
def sdivZ (s t:Int):Int:=if t=0 then (if s<0 then 1 else -1) else qC s t
def Box2 (W wx:World) (z1 z2:Int) (s t:Value):Prop:=∃ (g1:Nat) (n1:Bool) (a1:Option Addr) (k1 c1:Nat) (g2:Nat) (n2:Bool) (a2:Option Addr) (k2 c2:Nat),s=.pointer (some ⟨g1,0,none⟩)∧t=.pointer (some ⟨g2,0,none⟩)∧W.heap.size≤g1∧W.heap.size≤g2∧wx.heap[g1]?=some (.cells #[.bool n1,.slice a1 k1 c1] 50 (0,0))∧wx.heap[g2]?=some (.cells #[.bool n2,.slice a2 k2 c2] 50 (0,0))∧IntV wx (.agg #[.bool n1,.slice a1 k1 c1]) z1∧IntV wx (.agg #[.bool n2,.slice a2 k2 c2]) z2∧Below W.heap.size W wx
theorem sdiv_q (pv av:Value) (wd m n:Nat) (b1:1≤wd) (b2:wd≤4096) (hm:m<2 ^ wd) (hn:n<2 ^ wd) (w:World) (hp:∃ po pn pc,pv=.slice po pn pc) (h:BvL w av [(wd,m),(wd,n)]) (h0:sgV wd n≠0) :
    Calls Tryz.prog 74 #[.agg #[pv,av]] w fun e w'=>∃ v',e=.returned v'∧IntV w' v' (qC (sgV wd m) (sgV wd n))∧Below w.heap.size w w':=by
  obtain ⟨po,pn,pc,rfl⟩:=hp
  obtain ⟨ao,cap,rfl⟩:=h.shape
  obtain ⟨W,eW,g1,g2,bel,hsz⟩:=alloc2 w (Obj.cells #[.slice po pn pc,.slice ao 2 cap] 46) (Obj.cells #[.bool false,.slice none 0 0] 50)
  have HW:=Lib.hid (h.below bel)
  have G1:=Lib.hid g1; have G2:=Lib.hid g2; have BL:=Lib.hid bel
  have hWs:w.heap.size+1<W.heap.size:=by rw [← eW]; simp
  have SS:Hid (∀ w1,Below W.heap.size W w1→Calls Tryz.prog 86 #[.agg #[.slice po pn pc,.slice ao 2 cap]] w1 fun e w'=>∃ v',e=.returned v'∧IntV w' v' (sgV wd m)∧Below w1.heap.size w1 w'):=Lib.hid (fun w1 hw=>op_s _ _ _ wd m b1 b2 hm w1 ⟨_,_,_,rfl⟩ (HW.out.below hw) rfl)
  have TT:Hid (∀ w1,Below W.heap.size W w1→Calls Tryz.prog 122 #[.agg #[.slice po pn pc,.slice ao 2 cap]] w1 fun e w'=>∃ v',e=.returned v'∧IntV w' v' (sgV wd n)∧Below w1.heap.size w1 w'):=Lib.hid (fun w1 hw=>op_t _ _ _ 1 wd n b1 b2 hn w1 ⟨_,_,_,rfl⟩ (HW.out.below hw) rfl (by omega) rfl)
  have hbs:=sgV_big b2 hm; have hbt:=sgV_big b2 hn
  generalize sgV wd m=s at *
  generalize sgV wd n=t at *
  have IZ:Hid (∀ v w1,IntV w1 v t→Calls Tryz.prog 119 #[v] w1 fun e w'=>e=.returned (.bool false)∧Below w1.heap.size w1 w'):=Lib.hid (fun v w1 hv=>isZero_any v _ false (decide_eq_false h0) w1 hv)
  have QQ:Hid (∀ va vb w1,IntV w1 va s→IntV w1 vb t→Calls Tryz.prog 120 #[va,vb] w1 fun e w'=>Res2 w1 w' e (qC s t) (rC s t)):=Lib.hid (fun va vb w1 h1 h2=>quoF va vb _ _ w1 h1 h2 hbs hbt h0)
  generalize qC s t=z at *
  generalize rC s t=zr at *
  have STAYq:Hid (∀ w',Below W.heap.size W w'→w'.cell? ⟨w.heap.size,0,none⟩=some (.slice po pn pc)∧w'.cell? ⟨w.heap.size,1,none⟩=some (.slice ao 2 cap)∧Below W.heap.size W w'∧W.heap.size≤w'.heap.size):=Lib.hid (fun w' hb=>by
    obtain ⟨e0,e1,-,-,-⟩:=blk2 (car hb G1.out)
    exact ⟨e0,e1,hb,hb.size⟩)
  have hBq:=(Below.refl W.heap.size W).drew
  clear h g1 g2 bel hbs hbt h0 hm hn
  go_enter Tryz.func74,Tryz.ntmps74
  go_upto_region 1 with fail
  try rw [eW]
  go_cut [3,4] (fun sa sb wx=>Box2 W wx s t sa sb)
  case first =>
    go_region_held3 (fun w'=>w'.cell? ⟨w.heap.size,0,none⟩=some (.slice po pn pc)∧w'.cell? ⟨w.heap.size,1,none⟩=some (.slice ao 2 cap)∧Below W.heap.size W w'∧W.heap.size≤w'.heap.size)
      (((try go_split_ands); refine STAYq.out _ ?_; repeat (first | (with_reducible assumption) | (with_reducible exact Below.refl _ _) | (with_reducible refine Below.drew ?_) | (with_reducible exact below_to (by with_reducible assumption) (by with_reducible assumption)) | ((with_reducible refine Below.alloc ?_ ?_ _); rotate_left; (focus (first | omega | (simp; done) | (simp; omega)))) | ((with_reducible refine Below.setCell ?_ ?_ _); rotate_left; (focus (first | omega | (simp; done) | (simp; omega)))))))
      (first
      | (have tk:=TKq_1; go_at_call 122; go_split_ands; (with_reducible refine Calls.mono (TT.out _ (by with_reducible assumption)) ?_); rintro e wq_2 ⟨vq_2,rfl,iiq_2,hbq_2⟩; have hkq_2:=below_to hbq_2 (by with_reducible assumption); have hzq_2:=hkq_2.size; obtain ⟨hcq_2,hfq_2⟩:=bcell hbq_2; have hyq_2:=hbq_2.size; (try simp only [sz_alloc,sz_set,sz_drew] at hyq_2); (try (have hqq_2:W.heap.size<wq_2.heap.size:=by omega)); (try (have hrq_2:W.heap.size+1<wq_2.heap.size:=by omega)); (try (have hpq_2_1:wq_1.heap.size<wq_2.heap.size:=by omega)); (try (have hsq_2_1:wq_1.heap.size+1<wq_2.heap.size:=by omega)); (first | (have ijq_1:=intv_call hbq_2 iiq_1) | (have ijq_1:=intv_call hbq_2 (intv_alloc iiq_1)) | (have ijq_1:=intv_call hbq_2 (intv_alloc (intv_alloc iiq_1))) | (have ijq_1:=intv_call hbq_2 (intv_drew iiq_1)) | (have ijq_1:=intv_call hbq_2 (intv_alloc (intv_drew iiq_1))) | (have ijq_1:=intv_call hbq_2 (intv_drew (intv_alloc iiq_1))) | (have ijq_1:=intv_call hbq_2 (intv_alloc (intv_alloc (intv_drew iiq_1)))) | (have ijq_1:=intv_call hbq_2 (intv_drew (intv_alloc (intv_alloc iiq_1))))); clear iiq_1; have iiq_1:=ijq_1; clear ijq_1; obtain ⟨nq_2,aq_2,kq_2,cq_2,rfl⟩:=iiq_2.shape; have TKq_2:True:=trivial)
      | (go_at_call 86; go_split_ands; (with_reducible refine Calls.mono (SS.out _ (by with_reducible assumption)) ?_); rintro e wq_1 ⟨vq_1,rfl,iiq_1,hbq_1⟩; have hkq_1:=below_to hbq_1 (by with_reducible assumption); have hzq_1:=hkq_1.size; obtain ⟨hcq_1,hfq_1⟩:=bcell hbq_1; have hyq_1:=hbq_1.size; (try simp only [sz_alloc,sz_set,sz_drew] at hyq_1); (try (have hqq_1:W.heap.size<wq_1.heap.size:=by omega)); (try (have hrq_1:W.heap.size+1<wq_1.heap.size:=by omega)); obtain ⟨nq_1,aq_1,kq_1,cq_1,rfl⟩:=iiq_1.shape; have TKq_1:True:=trivial))
    all_goals
      (go_wp2_with fail
       go_meet
       clear hcq_1 hfq_1 hcq_2 hfq_2
       refine ⟨_,nq_1,aq_1,kq_1,cq_1,_,nq_2,aq_2,kq_2,cq_2,rfl,rfl, ?_, ?_, ?_, ?_, ?_, ?_, ?_⟩)
    all_goals
      repeat (first | (with_reducible assumption) | ((with_reducible refine nblk_new ?_); (first | omega | (simp only [sz_alloc,sz_set,sz_drew]; omega) | (focus (simp only [sz_alloc,sz_set,sz_drew]; done)))) | ((with_reducible refine nblk_lt ?_ ?_); (first | omega | (simp only [sz_alloc,sz_set,sz_drew]; omega) | (focus (simp only [sz_alloc,sz_set,sz_drew]; done)))) | (with_reducible refine nblk_own ?_) | ((with_reducible refine nblk_two ?_ ?_); (first | omega | (simp only [sz_alloc,sz_set,sz_drew]; omega) | (focus (simp only [sz_alloc,sz_set,sz_drew]; done)))) | (with_reducible refine nblk_drew ?_) | (with_reducible refine nblk_call hbq_2 ?_) | (with_reducible refine nblk_call hbq_1 ?_) | (with_reducible refine intv_alloc ?_) | (with_reducible refine intv_drew ?_) | (with_reducible refine intv_set ?_ ?_) | (with_reducible refine intv_call hbq_2 ?_) | (with_reducible refine intv_call hbq_1 ?_) | (with_reducible exact Below.refl _ _) | (with_reducible refine Below.drew ?_) | ((with_reducible refine Below.alloc ?_ ?_ _); rotate_left; (focus (first | omega | (simp; done) | (simp; omega)))) | ((with_reducible refine Below.setCell ?_ ?_ _); rotate_left; (focus (first | omega | (simp; done) | (simp; omega)))) | (with_reducible refine bel_call hbq_2 ?_) | (with_reducible refine bel_call hbq_1 ?_) | (first | omega | (simp only [sz_alloc,sz_set,sz_drew]; omega) | (focus (simp only [sz_alloc,sz_set,sz_drew]; done))))
  case rest =>
    obtain ⟨y1,n1,a1,k1,c1,y2,n2,a2,k2,c2,rfl,rfl,hy1,hy2,hG1,hG2,hI1,hI2,hb⟩:=hcut
    generalize wc=X at *
    have GA:=Lib.hid hG1; have GB:=Lib.hid hG2; have I1:=Lib.hid hI1; have I2:=Lib.hid hI2
    have BX:=Lib.hid (below_of BL.out hb)
    have GR:=Lib.hid (car hb G2.out)
    obtain ⟨e0,e1,-,-,_⟩:=blk2 hG2
    clear hG1 hG2 hI1 hI2 hb STAYq hBq
    go_wp2_with fail
    refine (IZ.out _ _ I2.out).mono ?_
    rintro e X2 ⟨rfl,hb⟩
    have GA2:=Lib.hid (car hb GA.out); have GB2:=Lib.hid (car hb GB.out); have J1:=Lib.hid (I1.out.below hb); have J2:=Lib.hid (I2.out.below hb)
    have BX2:=Lib.hid (below_of BX.out hb)
    have GR2:=Lib.hid (car hb GR.out)
    obtain ⟨f0,f1,-,-,_⟩:=blk2 GA2.out
    obtain ⟨h0,h1,-,-,_⟩:=blk2 GB2.out
    clear hb e0 e1 GA GB I1 I2 BX GR
    go_wp2_with fail
    refine (QQ.out _ _ _ J1.out J2.out).mono ?_
    rintro e w3 ⟨n3,a3,k3,c3,m3,b3,l3,d3,rfl,hq3,hr3,hb3⟩
    obtain ⟨V,eV,gV0,gV,bV,hVs⟩:=alloc2 w3 (Obj.cells #[.bool n3,.slice a3 k3 c3] 50) (Obj.cells #[.bool m3,.slice b3 l3 d3] 50)
    have H3:=Lib.hid (hq3.2.below bV)
    have B3:=Lib.hid (below_of BX2.out (below_of hb3 bV))
    have GS:=Lib.hid (car bV (car hb3 GR2.out))
    obtain ⟨e0,e1,-,-,_⟩:=blk2 gV0
    obtain ⟨q0,q1,r0,r1,_⟩:=blk2 GS.out
    clear hb3 hq3 hr3 gV0 gV bV f0 f1 h0 h1
    have EV:=Lib.hid eV
    clear eV
    go_upto_region 4 with fail
    try rw [EV.out]
    go_wp2
    exact bodyPost_ret (results_it rfl rfl (set2_row _ _ GS.out)) rfl ⟨_,rfl,H3.out.far GS.out,(B3.out.setCell (by show w.heap.size≤w.heap.size+1; omega) _).setCell (by show w.heap.size≤w.heap.size+1; omega) _⟩
theorem sdiv_n (pv av:Value) (wd m n:Nat) (b1:1≤wd) (b2:wd≤4096) (hm:m<2 ^ wd) (hn:n<2 ^ wd) (w:World) (hp:∃ po pn pc,pv=.slice po pn pc) (h:BvL w av [(wd,m),(wd,n)]) (h0:sgV wd n=0) (hs:sgV wd m<0) :
    Calls Tryz.prog 74 #[.agg #[pv,av]] w fun e w'=>∃ v',e=.returned v'∧IntV w' v' (1)∧Below w.heap.size w w':=by
  obtain ⟨po,pn,pc,rfl⟩:=hp
  obtain ⟨ao,cap,rfl⟩:=h.shape
  obtain ⟨W,eW,g1,g2,bel,hsz⟩:=alloc2 w (Obj.cells #[.slice po pn pc,.slice ao 2 cap] 46) (Obj.cells #[.bool false,.slice none 0 0] 50)
  have HW:=Lib.hid (h.below bel)
  have G1:=Lib.hid g1; have G2:=Lib.hid g2; have BL:=Lib.hid bel
  have hWs:w.heap.size+1<W.heap.size:=by rw [← eW]; simp
  have SS:Hid (∀ w1,Below W.heap.size W w1→Calls Tryz.prog 86 #[.agg #[.slice po pn pc,.slice ao 2 cap]] w1 fun e w'=>∃ v',e=.returned v'∧IntV w' v' (sgV wd m)∧Below w1.heap.size w1 w'):=Lib.hid (fun w1 hw=>op_s _ _ _ wd m b1 b2 hm w1 ⟨_,_,_,rfl⟩ (HW.out.below hw) rfl)
  have TT:Hid (∀ w1,Below W.heap.size W w1→Calls Tryz.prog 122 #[.agg #[.slice po pn pc,.slice ao 2 cap]] w1 fun e w'=>∃ v',e=.returned v'∧IntV w' v' (sgV wd n)∧Below w1.heap.size w1 w'):=Lib.hid (fun w1 hw=>op_t _ _ _ 1 wd n b1 b2 hn w1 ⟨_,_,_,rfl⟩ (HW.out.below hw) rfl (by omega) rfl)
  have hbs:=sgV_big b2 hm; have hbt:=sgV_big b2 hn
  generalize sgV wd m=s at *
  generalize sgV wd n=t at *
  have IZ:Hid (∀ v w1,IntV w1 v t→Calls Tryz.prog 119 #[v] w1 fun e w'=>e=.returned (.bool true)∧Below w1.heap.size w1 w'):=Lib.hid (fun v w1 hv=>isZero_any v _ true (decide_eq_true h0) w1 hv)
  have SG:Hid (∀ v w1,IntV w1 v s→Calls Tryz.prog 123 #[v] w1 fun e w'=>e=.returned (.int .i64 (zcmp s 0))∧Below w1.heap.size w1 w'):=Lib.hid (fun v w1 hv=>signF v _ _ w1 hv rfl)
  have OF:Hid (∀ w1,Calls Tryz.prog 107 #[.int .i64 (1)] w1 fun e w'=>Res0 w1 w' e (1)):=Lib.hid (fun w1=>ofF (1) w1 (by omega) (by omega))
  have hzs:zcmp s 0<0:=by unfold zcmp; (repeat' split)<;>omega
  generalize zcmp s 0=o at *
  have STAYq:Hid (∀ w',Below W.heap.size W w'→w'.cell? ⟨w.heap.size,0,none⟩=some (.slice po pn pc)∧w'.cell? ⟨w.heap.size,1,none⟩=some (.slice ao 2 cap)∧Below W.heap.size W w'∧W.heap.size≤w'.heap.size):=Lib.hid (fun w' hb=>by
    obtain ⟨e0,e1,-,-,-⟩:=blk2 (car hb G1.out)
    exact ⟨e0,e1,hb,hb.size⟩)
  have hBq:=(Below.refl W.heap.size W).drew
  clear h g1 g2 bel hbs hbt h0 hm hn hs
  go_enter Tryz.func74,Tryz.ntmps74
  go_upto_region 1 with fail
  try rw [eW]
  go_cut [3,4] (fun sa sb wx=>Box2 W wx s t sa sb)
  case first =>
    go_region_held3 (fun w'=>w'.cell? ⟨w.heap.size,0,none⟩=some (.slice po pn pc)∧w'.cell? ⟨w.heap.size,1,none⟩=some (.slice ao 2 cap)∧Below W.heap.size W w'∧W.heap.size≤w'.heap.size)
      (((try go_split_ands); refine STAYq.out _ ?_; repeat (first | (with_reducible assumption) | (with_reducible exact Below.refl _ _) | (with_reducible refine Below.drew ?_) | (with_reducible exact below_to (by with_reducible assumption) (by with_reducible assumption)) | ((with_reducible refine Below.alloc ?_ ?_ _); rotate_left; (focus (first | omega | (simp; done) | (simp; omega)))) | ((with_reducible refine Below.setCell ?_ ?_ _); rotate_left; (focus (first | omega | (simp; done) | (simp; omega)))))))
      (first
      | (have tk:=TKq_1; go_at_call 122; go_split_ands; (with_reducible refine Calls.mono (TT.out _ (by with_reducible assumption)) ?_); rintro e wq_2 ⟨vq_2,rfl,iiq_2,hbq_2⟩; have hkq_2:=below_to hbq_2 (by with_reducible assumption); have hzq_2:=hkq_2.size; obtain ⟨hcq_2,hfq_2⟩:=bcell hbq_2; have hyq_2:=hbq_2.size; (try simp only [sz_alloc,sz_set,sz_drew] at hyq_2); (try (have hqq_2:W.heap.size<wq_2.heap.size:=by omega)); (try (have hrq_2:W.heap.size+1<wq_2.heap.size:=by omega)); (try (have hpq_2_1:wq_1.heap.size<wq_2.heap.size:=by omega)); (try (have hsq_2_1:wq_1.heap.size+1<wq_2.heap.size:=by omega)); (first | (have ijq_1:=intv_call hbq_2 iiq_1) | (have ijq_1:=intv_call hbq_2 (intv_alloc iiq_1)) | (have ijq_1:=intv_call hbq_2 (intv_alloc (intv_alloc iiq_1))) | (have ijq_1:=intv_call hbq_2 (intv_drew iiq_1)) | (have ijq_1:=intv_call hbq_2 (intv_alloc (intv_drew iiq_1))) | (have ijq_1:=intv_call hbq_2 (intv_drew (intv_alloc iiq_1))) | (have ijq_1:=intv_call hbq_2 (intv_alloc (intv_alloc (intv_drew iiq_1)))) | (have ijq_1:=intv_call hbq_2 (intv_drew (intv_alloc (intv_alloc iiq_1))))); clear iiq_1; have iiq_1:=ijq_1; clear ijq_1; obtain ⟨nq_2,aq_2,kq_2,cq_2,rfl⟩:=iiq_2.shape; have TKq_2:True:=trivial)
      | (go_at_call 86; go_split_ands; (with_reducible refine Calls.mono (SS.out _ (by with_reducible assumption)) ?_); rintro e wq_1 ⟨vq_1,rfl,iiq_1,hbq_1⟩; have hkq_1:=below_to hbq_1 (by with_reducible assumption); have hzq_1:=hkq_1.size; obtain ⟨hcq_1,hfq_1⟩:=bcell hbq_1; have hyq_1:=hbq_1.size; (try simp only [sz_alloc,sz_set,sz_drew] at hyq_1); (try (have hqq_1:W.heap.size<wq_1.heap.size:=by omega)); (try (have hrq_1:W.heap.size+1<wq_1.heap.size:=by omega)); obtain ⟨nq_1,aq_1,kq_1,cq_1,rfl⟩:=iiq_1.shape; have TKq_1:True:=trivial))
    all_goals
      (go_wp2_with fail
       go_meet
       clear hcq_1 hfq_1 hcq_2 hfq_2
       refine ⟨_,nq_1,aq_1,kq_1,cq_1,_,nq_2,aq_2,kq_2,cq_2,rfl,rfl, ?_, ?_, ?_, ?_, ?_, ?_, ?_⟩)
    all_goals
      repeat (first | (with_reducible assumption) | ((with_reducible refine nblk_new ?_); (first | omega | (simp only [sz_alloc,sz_set,sz_drew]; omega) | (focus (simp only [sz_alloc,sz_set,sz_drew]; done)))) | ((with_reducible refine nblk_lt ?_ ?_); (first | omega | (simp only [sz_alloc,sz_set,sz_drew]; omega) | (focus (simp only [sz_alloc,sz_set,sz_drew]; done)))) | (with_reducible refine nblk_own ?_) | ((with_reducible refine nblk_two ?_ ?_); (first | omega | (simp only [sz_alloc,sz_set,sz_drew]; omega) | (focus (simp only [sz_alloc,sz_set,sz_drew]; done)))) | (with_reducible refine nblk_drew ?_) | (with_reducible refine nblk_call hbq_2 ?_) | (with_reducible refine nblk_call hbq_1 ?_) | (with_reducible refine intv_alloc ?_) | (with_reducible refine intv_drew ?_) | (with_reducible refine intv_set ?_ ?_) | (with_reducible refine intv_call hbq_2 ?_) | (with_reducible refine intv_call hbq_1 ?_) | (with_reducible exact Below.refl _ _) | (with_reducible refine Below.drew ?_) | ((with_reducible refine Below.alloc ?_ ?_ _); rotate_left; (focus (first | omega | (simp; done) | (simp; omega)))) | ((with_reducible refine Below.setCell ?_ ?_ _); rotate_left; (focus (first | omega | (simp; done) | (simp; omega)))) | (with_reducible refine bel_call hbq_2 ?_) | (with_reducible refine bel_call hbq_1 ?_) | (first | omega | (simp only [sz_alloc,sz_set,sz_drew]; omega) | (focus (simp only [sz_alloc,sz_set,sz_drew]; done))))
  case rest =>
    obtain ⟨y1,n1,a1,k1,c1,y2,n2,a2,k2,c2,rfl,rfl,hy1,hy2,hG1,hG2,hI1,hI2,hb⟩:=hcut
    generalize wc=X at *
    have GA:=Lib.hid hG1; have GB:=Lib.hid hG2; have I1:=Lib.hid hI1; have I2:=Lib.hid hI2
    have BX:=Lib.hid (below_of BL.out hb)
    have GR:=Lib.hid (car hb G2.out)
    obtain ⟨e0,e1,-,-,_⟩:=blk2 hG2
    clear hG1 hG2 hI1 hI2 hb STAYq hBq
    go_wp2_with fail
    refine (IZ.out _ _ I2.out).mono ?_
    rintro e X2 ⟨rfl,hb⟩
    have GA2:=Lib.hid (car hb GA.out); have GB2:=Lib.hid (car hb GB.out); have J1:=Lib.hid (I1.out.below hb); have J2:=Lib.hid (I2.out.below hb)
    have BX2:=Lib.hid (below_of BX.out hb)
    have GR2:=Lib.hid (car hb GR.out)
    obtain ⟨f0,f1,-,-,_⟩:=blk2 GA2.out
    obtain ⟨h0,h1,-,-,_⟩:=blk2 GB2.out
    clear hb e0 e1 GA GB I1 I2 BX GR
    go_wp2_with fail
    refine (SG.out _ _ J1.out).mono ?_
    rintro e w3 ⟨rfl,hb3⟩
    have B3:=Lib.hid (below_of BX2.out hb3)
    have GS:=Lib.hid (car hb3 GR2.out)
    clear hb3 f0 f1 h0 h1
    go_wp2_with fail
    refine (OF.out _).mono ?_
    rintro e w4 ⟨n4,a4,k4,k4',rfl,hr4,hb4⟩
    have H4:=Lib.hid hr4.2
    have B4:=Lib.hid (below_of B3.out hb4)
    have G4:=Lib.hid (car hb4 GS.out)
    obtain ⟨q0,q1,r0,r1,_⟩:=blk2 G4.out
    clear hr4 hb4
    go_wp2
    exact bodyPost_ret (results_it rfl rfl (set2_row _ _ G4.out)) rfl ⟨_,rfl,H4.out.far G4.out,(B4.out.setCell (by show w.heap.size≤w.heap.size+1; omega) _).setCell (by show w.heap.size≤w.heap.size+1; omega) _⟩
theorem sdiv_p (pv av:Value) (wd m n:Nat) (b1:1≤wd) (b2:wd≤4096) (hm:m<2 ^ wd) (hn:n<2 ^ wd) (w:World) (hp:∃ po pn pc,pv=.slice po pn pc) (h:BvL w av [(wd,m),(wd,n)]) (h0:sgV wd n=0) (hs:¬ sgV wd m<0) :
    Calls Tryz.prog 74 #[.agg #[pv,av]] w fun e w'=>∃ v',e=.returned v'∧IntV w' v' (-1)∧Below w.heap.size w w':=by
  obtain ⟨po,pn,pc,rfl⟩:=hp
  obtain ⟨ao,cap,rfl⟩:=h.shape
  obtain ⟨W,eW,g1,g2,bel,hsz⟩:=alloc2 w (Obj.cells #[.slice po pn pc,.slice ao 2 cap] 46) (Obj.cells #[.bool false,.slice none 0 0] 50)
  have HW:=Lib.hid (h.below bel)
  have G1:=Lib.hid g1; have G2:=Lib.hid g2; have BL:=Lib.hid bel
  have hWs:w.heap.size+1<W.heap.size:=by rw [← eW]; simp
  have SS:Hid (∀ w1,Below W.heap.size W w1→Calls Tryz.prog 86 #[.agg #[.slice po pn pc,.slice ao 2 cap]] w1 fun e w'=>∃ v',e=.returned v'∧IntV w' v' (sgV wd m)∧Below w1.heap.size w1 w'):=Lib.hid (fun w1 hw=>op_s _ _ _ wd m b1 b2 hm w1 ⟨_,_,_,rfl⟩ (HW.out.below hw) rfl)
  have TT:Hid (∀ w1,Below W.heap.size W w1→Calls Tryz.prog 122 #[.agg #[.slice po pn pc,.slice ao 2 cap]] w1 fun e w'=>∃ v',e=.returned v'∧IntV w' v' (sgV wd n)∧Below w1.heap.size w1 w'):=Lib.hid (fun w1 hw=>op_t _ _ _ 1 wd n b1 b2 hn w1 ⟨_,_,_,rfl⟩ (HW.out.below hw) rfl (by omega) rfl)
  have hbs:=sgV_big b2 hm; have hbt:=sgV_big b2 hn
  generalize sgV wd m=s at *
  generalize sgV wd n=t at *
  have IZ:Hid (∀ v w1,IntV w1 v t→Calls Tryz.prog 119 #[v] w1 fun e w'=>e=.returned (.bool true)∧Below w1.heap.size w1 w'):=Lib.hid (fun v w1 hv=>isZero_any v _ true (decide_eq_true h0) w1 hv)
  have SG:Hid (∀ v w1,IntV w1 v s→Calls Tryz.prog 123 #[v] w1 fun e w'=>e=.returned (.int .i64 (zcmp s 0))∧Below w1.heap.size w1 w'):=Lib.hid (fun v w1 hv=>signF v _ _ w1 hv rfl)
  have OF:Hid (∀ w1,Calls Tryz.prog 107 #[.int .i64 (-1)] w1 fun e w'=>Res0 w1 w' e (-1)):=Lib.hid (fun w1=>ofF (-1) w1 (by omega) (by omega))
  have hzs:0≤zcmp s 0:=by unfold zcmp; (repeat' split)<;>omega
  generalize zcmp s 0=o at *
  have STAYq:Hid (∀ w',Below W.heap.size W w'→w'.cell? ⟨w.heap.size,0,none⟩=some (.slice po pn pc)∧w'.cell? ⟨w.heap.size,1,none⟩=some (.slice ao 2 cap)∧Below W.heap.size W w'∧W.heap.size≤w'.heap.size):=Lib.hid (fun w' hb=>by
    obtain ⟨e0,e1,-,-,-⟩:=blk2 (car hb G1.out)
    exact ⟨e0,e1,hb,hb.size⟩)
  have hBq:=(Below.refl W.heap.size W).drew
  clear h g1 g2 bel hbs hbt h0 hm hn hs
  go_enter Tryz.func74,Tryz.ntmps74
  go_upto_region 1 with fail
  try rw [eW]
  go_cut [3,4] (fun sa sb wx=>Box2 W wx s t sa sb)
  case first =>
    go_region_held3 (fun w'=>w'.cell? ⟨w.heap.size,0,none⟩=some (.slice po pn pc)∧w'.cell? ⟨w.heap.size,1,none⟩=some (.slice ao 2 cap)∧Below W.heap.size W w'∧W.heap.size≤w'.heap.size)
      (((try go_split_ands); refine STAYq.out _ ?_; repeat (first | (with_reducible assumption) | (with_reducible exact Below.refl _ _) | (with_reducible refine Below.drew ?_) | (with_reducible exact below_to (by with_reducible assumption) (by with_reducible assumption)) | ((with_reducible refine Below.alloc ?_ ?_ _); rotate_left; (focus (first | omega | (simp; done) | (simp; omega)))) | ((with_reducible refine Below.setCell ?_ ?_ _); rotate_left; (focus (first | omega | (simp; done) | (simp; omega)))))))
      (first
      | (have tk:=TKq_1; go_at_call 122; go_split_ands; (with_reducible refine Calls.mono (TT.out _ (by with_reducible assumption)) ?_); rintro e wq_2 ⟨vq_2,rfl,iiq_2,hbq_2⟩; have hkq_2:=below_to hbq_2 (by with_reducible assumption); have hzq_2:=hkq_2.size; obtain ⟨hcq_2,hfq_2⟩:=bcell hbq_2; have hyq_2:=hbq_2.size; (try simp only [sz_alloc,sz_set,sz_drew] at hyq_2); (try (have hqq_2:W.heap.size<wq_2.heap.size:=by omega)); (try (have hrq_2:W.heap.size+1<wq_2.heap.size:=by omega)); (try (have hpq_2_1:wq_1.heap.size<wq_2.heap.size:=by omega)); (try (have hsq_2_1:wq_1.heap.size+1<wq_2.heap.size:=by omega)); (first | (have ijq_1:=intv_call hbq_2 iiq_1) | (have ijq_1:=intv_call hbq_2 (intv_alloc iiq_1)) | (have ijq_1:=intv_call hbq_2 (intv_alloc (intv_alloc iiq_1))) | (have ijq_1:=intv_call hbq_2 (intv_drew iiq_1)) | (have ijq_1:=intv_call hbq_2 (intv_alloc (intv_drew iiq_1))) | (have ijq_1:=intv_call hbq_2 (intv_drew (intv_alloc iiq_1))) | (have ijq_1:=intv_call hbq_2 (intv_alloc (intv_alloc (intv_drew iiq_1)))) | (have ijq_1:=intv_call hbq_2 (intv_drew (intv_alloc (intv_alloc iiq_1))))); clear iiq_1; have iiq_1:=ijq_1; clear ijq_1; obtain ⟨nq_2,aq_2,kq_2,cq_2,rfl⟩:=iiq_2.shape; have TKq_2:True:=trivial)
      | (go_at_call 86; go_split_ands; (with_reducible refine Calls.mono (SS.out _ (by with_reducible assumption)) ?_); rintro e wq_1 ⟨vq_1,rfl,iiq_1,hbq_1⟩; have hkq_1:=below_to hbq_1 (by with_reducible assumption); have hzq_1:=hkq_1.size; obtain ⟨hcq_1,hfq_1⟩:=bcell hbq_1; have hyq_1:=hbq_1.size; (try simp only [sz_alloc,sz_set,sz_drew] at hyq_1); (try (have hqq_1:W.heap.size<wq_1.heap.size:=by omega)); (try (have hrq_1:W.heap.size+1<wq_1.heap.size:=by omega)); obtain ⟨nq_1,aq_1,kq_1,cq_1,rfl⟩:=iiq_1.shape; have TKq_1:True:=trivial))
    all_goals
      (go_wp2_with fail
       go_meet
       clear hcq_1 hfq_1 hcq_2 hfq_2
       refine ⟨_,nq_1,aq_1,kq_1,cq_1,_,nq_2,aq_2,kq_2,cq_2,rfl,rfl, ?_, ?_, ?_, ?_, ?_, ?_, ?_⟩)
    all_goals
      repeat (first | (with_reducible assumption) | ((with_reducible refine nblk_new ?_); (first | omega | (simp only [sz_alloc,sz_set,sz_drew]; omega) | (focus (simp only [sz_alloc,sz_set,sz_drew]; done)))) | ((with_reducible refine nblk_lt ?_ ?_); (first | omega | (simp only [sz_alloc,sz_set,sz_drew]; omega) | (focus (simp only [sz_alloc,sz_set,sz_drew]; done)))) | (with_reducible refine nblk_own ?_) | ((with_reducible refine nblk_two ?_ ?_); (first | omega | (simp only [sz_alloc,sz_set,sz_drew]; omega) | (focus (simp only [sz_alloc,sz_set,sz_drew]; done)))) | (with_reducible refine nblk_drew ?_) | (with_reducible refine nblk_call hbq_2 ?_) | (with_reducible refine nblk_call hbq_1 ?_) | (with_reducible refine intv_alloc ?_) | (with_reducible refine intv_drew ?_) | (with_reducible refine intv_set ?_ ?_) | (with_reducible refine intv_call hbq_2 ?_) | (with_reducible refine intv_call hbq_1 ?_) | (with_reducible exact Below.refl _ _) | (with_reducible refine Below.drew ?_) | ((with_reducible refine Below.alloc ?_ ?_ _); rotate_left; (focus (first | omega | (simp; done) | (simp; omega)))) | ((with_reducible refine Below.setCell ?_ ?_ _); rotate_left; (focus (first | omega | (simp; done) | (simp; omega)))) | (with_reducible refine bel_call hbq_2 ?_) | (with_reducible refine bel_call hbq_1 ?_) | (first | omega | (simp only [sz_alloc,sz_set,sz_drew]; omega) | (focus (simp only [sz_alloc,sz_set,sz_drew]; done))))
  case rest =>
    obtain ⟨y1,n1,a1,k1,c1,y2,n2,a2,k2,c2,rfl,rfl,hy1,hy2,hG1,hG2,hI1,hI2,hb⟩:=hcut
    generalize wc=X at *
    have GA:=Lib.hid hG1; have GB:=Lib.hid hG2; have I1:=Lib.hid hI1; have I2:=Lib.hid hI2
    have BX:=Lib.hid (below_of BL.out hb)
    have GR:=Lib.hid (car hb G2.out)
    obtain ⟨e0,e1,-,-,_⟩:=blk2 hG2
    clear hG1 hG2 hI1 hI2 hb STAYq hBq
    go_wp2_with fail
    refine (IZ.out _ _ I2.out).mono ?_
    rintro e X2 ⟨rfl,hb⟩
    have GA2:=Lib.hid (car hb GA.out); have GB2:=Lib.hid (car hb GB.out); have J1:=Lib.hid (I1.out.below hb); have J2:=Lib.hid (I2.out.below hb)
    have BX2:=Lib.hid (below_of BX.out hb)
    have GR2:=Lib.hid (car hb GR.out)
    obtain ⟨f0,f1,-,-,_⟩:=blk2 GA2.out
    obtain ⟨h0,h1,-,-,_⟩:=blk2 GB2.out
    clear hb e0 e1 GA GB I1 I2 BX GR
    go_wp2_with fail
    refine (SG.out _ _ J1.out).mono ?_
    rintro e w3 ⟨rfl,hb3⟩
    have B3:=Lib.hid (below_of BX2.out hb3)
    have GS:=Lib.hid (car hb3 GR2.out)
    clear hb3 f0 f1 h0 h1
    go_wp2_with fail
    refine (OF.out _).mono ?_
    rintro e w4 ⟨n4,a4,k4,k4',rfl,hr4,hb4⟩
    have H4:=Lib.hid hr4.2
    have B4:=Lib.hid (below_of B3.out hb4)
    have G4:=Lib.hid (car hb4 GS.out)
    obtain ⟨q0,q1,r0,r1,_⟩:=blk2 G4.out
    clear hr4 hb4
    go_wp2
    exact bodyPost_ret (results_it rfl rfl (set2_row _ _ G4.out)) rfl ⟨_,rfl,H4.out.far G4.out,(B4.out.setCell (by show w.heap.size≤w.heap.size+1; omega) _).setCell (by show w.heap.size≤w.heap.size+1; omega) _⟩
theorem sdiv_is (pv av:Value) (wd m n:Nat) (b1:1≤wd) (b2:wd≤4096) (hm:m<2 ^ wd) (hn:n<2 ^ wd) (w:World) (hp:∃ po pn pc,pv=.slice po pn pc) (h:BvL w av [(wd,m),(wd,n)]) :
    Calls Tryz.prog 74 #[.agg #[pv,av]] w fun e w'=>∃ v',e=.returned v'∧IntV w' v' (sdivZ (sgV wd m) (sgV wd n))∧Below w.heap.size w w':=by
  unfold sdivZ
  by_cases h0:sgV wd n=0
  · rw [if_pos h0]
    by_cases hs:sgV wd m<0
    · rw [if_pos hs]; exact sdiv_n pv av wd m n b1 b2 hm hn w hp h h0 hs
    · rw [if_neg hs]; exact sdiv_p pv av wd m n b1 b2 hm hn w hp h h0 hs
  · rw [if_neg h0]; exact sdiv_q pv av wd m n b1 b2 hm hn w hp h h0
end Go.Proofs.YtacbkpenohcgjaaGreat
namespace Go.Proofs.YtacbkpenohcgjaaGreat
open Go.RowKit Mth
def smodZ (s t:Int):Int:=if zcmp (leftZ s t) 0*zcmp t 0<0 then leftZ s t+t else leftZ s t
theorem leftZ_le (s t:Int):(leftZ s t).natAbs≤s.natAbs:=by
  unfold leftZ
  split
  · omega
  · rw [amt_rC]; exact Nat.mod_le _ _
theorem smod_y (pv av:Value) (wd m n:Nat) (b1:1≤wd) (b2:wd≤4096) (hm:m<2 ^ wd) (hn:n<2 ^ wd) (w:World) (hp:∃ po pn pc,pv=.slice po pn pc) (h:BvL w av [(wd,m),(wd,n)]) (hc:zcmp (leftZ (sgV wd m) (sgV wd n)) 0*zcmp (sgV wd n) 0<0) :
    Calls Tryz.prog 76 #[.agg #[pv,av]] w fun e w'=>∃ v',e=.returned v'∧IntV w' v' (leftZ (sgV wd m) (sgV wd n)+sgV wd n)∧Below w.heap.size w w':=by
  obtain ⟨po,pn,pc,rfl⟩:=hp
  obtain ⟨ao,cap,rfl⟩:=h.shape
  obtain ⟨W,eW,g1,g2,bel,hsz⟩:=alloc2 w (Obj.cells #[.slice po pn pc,.slice ao 2 cap] 46) (Obj.cells #[.bool false,.slice none 0 0] 50)
  have HW:=Lib.hid (h.below bel)
  have G1:=Lib.hid g1; have G2:=Lib.hid g2; have BL:=Lib.hid bel
  have hWs:w.heap.size+1<W.heap.size:=by rw [← eW]; simp
  have SS:Hid (∀ w1,Below W.heap.size W w1→Calls Tryz.prog 86 #[.agg #[.slice po pn pc,.slice ao 2 cap]] w1 fun e w'=>∃ v',e=.returned v'∧IntV w' v' (sgV wd m)∧Below w1.heap.size w1 w'):=Lib.hid (fun w1 hw=>op_s _ _ _ wd m b1 b2 hm w1 ⟨_,_,_,rfl⟩ (HW.out.below hw) rfl)
  have TT:Hid (∀ w1,Below W.heap.size W w1→Calls Tryz.prog 122 #[.agg #[.slice po pn pc,.slice ao 2 cap]] w1 fun e w'=>∃ v',e=.returned v'∧IntV w' v' (sgV wd n)∧Below w1.heap.size w1 w'):=Lib.hid (fun w1 hw=>op_t _ _ _ 1 wd n b1 b2 hn w1 ⟨_,_,_,rfl⟩ (HW.out.below hw) rfl (by omega) rfl)
  have hbs:=sgV_big b2 hm; have hbt:=sgV_big b2 hn
  have hbz:(leftZ (sgV wd m) (sgV wd n)+sgV wd n).natAbs<Big:=by
    have h1:=leftZ_le (sgV wd m) (sgV wd n)
    have h2:(sgV wd m).natAbs≤2 ^ wd:=by unfold sgV; split<;>omega
    have h3:(sgV wd n).natAbs≤2 ^ wd:=by unfold sgV; split<;>omega
    have h4:2 ^ wd+2 ^ wd<Big:=by
      have h5:2 ^ (wd+1)<Big:=by
        unfold Big
        rw [b64_two]
        exact Nat.pow_lt_pow_right (by omega) (by unfold maxL; omega)
      rw [Nat.pow_succ] at h5
      omega
    omega
  generalize sgV wd m=s at *
  generalize sgV wd n=t at *
  have LL:Hid (∀ va vb w1,IntV w1 va s→IntV w1 vb t→Calls Tryz.prog 121 #[va,vb] w1 fun e w'=>∃ v',e=.returned v'∧IntV w' v' (leftZ s t)∧Below w1.heap.size w1 w'):=Lib.hid (fun va vb w1 h1 h2=>left_any va vb s t w1 h1 h2 hbs hbt)
  generalize leftZ s t=y at *
  have AA:Hid (∀ va vb w1,IntV w1 va y→IntV w1 vb t→Calls Tryz.prog 117 #[va,vb] w1 fun e w'=>Res1 w1 w' e (y+t)):=Lib.hid (fun va vb w1 h1 h2=>addF va vb y t w1 h1 h2 hbz)
  have SG:Hid (∀ v z w1,IntV w1 v z→Calls Tryz.prog 123 #[v] w1 fun e w'=>e=.returned (.int .i64 (zcmp z 0))∧Below w1.heap.size w1 w'):=Lib.hid (fun v z w1 hv=>signF v _ _ w1 hv rfl)
  have hy1:-1≤zcmp y 0∧zcmp y 0≤1:=by unfold zcmp; (repeat' split)<;>omega
  have ht1:-1≤zcmp t 0∧zcmp t 0≤1:=by unfold zcmp; (repeat' split)<;>omega
  have hmul:-1≤zcmp y 0*zcmp t 0∧zcmp y 0*zcmp t 0≤1:=by
    obtain ⟨p1,p2⟩:=hy1; obtain ⟨p3,p4⟩:=ht1
    generalize zcmp y 0=p at *
    generalize zcmp t 0=q at *
    rcases (show p=-1∨p=0∨p=1 by omega) with rfl | rfl | rfl<;>omega
  have hdec:decide (zcmp y 0*zcmp t 0<0)=true:=decide_eq_true hc
  have hwr:IntKind.i64.wrap (zcmp y 0*zcmp t 0)=zcmp y 0*zcmp t 0:=by
    have:=hmul
    generalize zcmp y 0*zcmp t 0=pq at *
    exact IntWalk.i64_in _ (by omega)
  have hdec':Hid (decide (IntKind.i64.wrap (zcmp y 0*zcmp t 0)<0)=true):=Lib.hid (by rw [hwr]; exact hdec)
  clear hwr hmul hdec
  have HY:Hid (∀ va w1,IntV w1 va y→_):=Lib.hid (fun va w1 h1=>SG.out va y w1 h1)
  have HT:Hid (∀ va w1,IntV w1 va t→_):=Lib.hid (fun va w1 h1=>SG.out va t w1 h1)
  generalize zcmp y 0=oy at *
  generalize zcmp t 0=ot at *
  obtain ⟨c0,c1,-,-,_⟩:=blk2 g1
  clear h g1 g2 bel hbs hbt hbz hm hn hc SG
  go_enter Tryz.func76,Tryz.ntmps76
  go_wp2_with fail
  try rw [eW]
  refine (TT.out W (Below.refl _ _)).mono ?_
  rintro e u1 ⟨v1,rfl,hi1,hb1⟩
  obtain ⟨nt,at',kt,ct,rfl⟩:=hi1.shape
  obtain ⟨X,eX,gX,iX,bX⟩:=intv_box t u1 hi1
  have IT:=Lib.hid iX
  have BX:=Lib.hid (below_of hb1 bX)
  have GA:=Lib.hid (car BX.out G1.out)
  have GT:=Lib.hid gX
  have hWX:W.heap.size≤u1.heap.size:=hb1.size
  have hux:u1.heap.size<X.heap.size:=(Array.getElem?_eq_some_iff.1 gX).1
  have EX:=Lib.hid eX
  clear hi1 hb1 gX iX bX eX c0 c1
  go_upto_region 2 with fail
  try rw [EX.out]
  have SX:Hid (∀ w1,Below X.heap.size X w1→_):=Lib.hid (fun w1 hw=>SS.out w1 (below_of BX.out hw))
  have LX:Hid (∀ va w1,Below X.heap.size X w1→IntV w1 va s→_):=Lib.hid (fun va w1 hw h1=>LL.out va _ w1 h1 (IT.out.below hw))
  have STAYq:Hid (∀ w',Below X.heap.size X w'→w'.cell? ⟨w.heap.size,0,none⟩=some (.slice po pn pc)∧w'.cell? ⟨w.heap.size,1,none⟩=some (.slice ao 2 cap)∧w'.cell? ⟨u1.heap.size,0,none⟩=some (.bool nt)∧w'.cell? ⟨u1.heap.size,1,none⟩=some (Value.slice at' kt ct)∧Below X.heap.size X w'∧X.heap.size≤w'.heap.size):=Lib.hid (fun w' hb=>by
    obtain ⟨e0,e1,-,-,-⟩:=blk2 (car hb GA.out)
    obtain ⟨e2,e3,-,-,-⟩:=blk2 (car hb GT.out)
    exact ⟨e0,e1,e2,e3,hb,hb.size⟩)
  have hBq:=(Below.refl X.heap.size X).drew
  clear SS LL TT
  go_cut [4] (fun sa wx=>BoxI X wx y sa)
  case first =>
    go_region_held3 (fun w'=>w'.cell? ⟨w.heap.size,0,none⟩=some (.slice po pn pc)∧w'.cell? ⟨w.heap.size,1,none⟩=some (.slice ao 2 cap)∧w'.cell? ⟨u1.heap.size,0,none⟩=some (.bool nt)∧w'.cell? ⟨u1.heap.size,1,none⟩=some (Value.slice at' kt ct)∧Below X.heap.size X w'∧X.heap.size≤w'.heap.size)
      (((try go_split_ands); refine STAYq.out _ ?_; repeat (first | (with_reducible assumption) | (with_reducible exact Below.refl _ _) | (with_reducible refine Below.drew ?_) | (with_reducible exact below_to (by with_reducible assumption) (by with_reducible assumption)) | ((with_reducible refine Below.alloc ?_ ?_ _); rotate_left; (focus (first | omega | (simp; done) | (simp; omega)))) | ((with_reducible refine Below.setCell ?_ ?_ _); rotate_left; (focus (first | omega | (simp; done) | (simp; omega)))))))
      (first
      | (have tk:=TKq_1; go_at_call 121; go_split_ands; (with_reducible refine Calls.mono (LX.out _ _ (by with_reducible assumption) ?_) ?_); (repeat (first | (with_reducible assumption) | (with_reducible refine intv_alloc ?_) | (with_reducible refine intv_drew ?_))); rintro e wq_2 ⟨vq_2,rfl,iiq_2,hbq_2⟩; have hkq_2:=below_to hbq_2 (by with_reducible assumption); have hzq_2:=hkq_2.size; obtain ⟨hcq_2,hfq_2⟩:=bcell hbq_2; have hyq_2:=hbq_2.size; (try simp only [sz_alloc,sz_set,sz_drew] at hyq_2); (try (have hqq_2:X.heap.size<wq_2.heap.size:=by omega)); (try (have hrq_2:X.heap.size+1<wq_2.heap.size:=by omega)); (try (have hpq_2_1:wq_1.heap.size<wq_2.heap.size:=by omega)); (try (have hsq_2_1:wq_1.heap.size+1<wq_2.heap.size:=by omega)); obtain ⟨nq_2,aq_2,kq_2,cq_2,rfl⟩:=iiq_2.shape; have TKq_2:True:=trivial)
      | (go_at_call 86; go_split_ands; (with_reducible refine Calls.mono (SX.out _ (by with_reducible assumption)) ?_); rintro e wq_1 ⟨vq_1,rfl,iiq_1,hbq_1⟩; have hkq_1:=below_to hbq_1 (by with_reducible assumption); have hzq_1:=hkq_1.size; obtain ⟨hcq_1,hfq_1⟩:=bcell hbq_1; have hyq_1:=hbq_1.size; (try simp only [sz_alloc,sz_set,sz_drew] at hyq_1); (try (have hqq_1:X.heap.size<wq_1.heap.size:=by omega)); (try (have hrq_1:X.heap.size+1<wq_1.heap.size:=by omega)); obtain ⟨nq_1,aq_1,kq_1,cq_1,rfl⟩:=iiq_1.shape; have TKq_1:True:=trivial))
    all_goals
      (go_wp2_with fail
       go_meet
       clear hcq_1 hfq_1 hcq_2 hfq_2
       refine ⟨_,nq_2,aq_2,kq_2,cq_2,rfl, ?_, ?_, ?_, ?_⟩)
    all_goals
      repeat (first | (with_reducible assumption) | ((with_reducible refine nblk_new ?_); (first | omega | (simp only [sz_alloc,sz_set,sz_drew]; omega) | (focus (simp only [sz_alloc,sz_set,sz_drew]; done)))) | ((with_reducible refine nblk_lt ?_ ?_); (first | omega | (simp only [sz_alloc,sz_set,sz_drew]; omega) | (focus (simp only [sz_alloc,sz_set,sz_drew]; done)))) | (with_reducible refine nblk_own ?_) | ((with_reducible refine nblk_two ?_ ?_); (first | omega | (simp only [sz_alloc,sz_set,sz_drew]; omega) | (focus (simp only [sz_alloc,sz_set,sz_drew]; done)))) | (with_reducible refine nblk_drew ?_) | (with_reducible refine nblk_call hbq_2 ?_) | (with_reducible refine nblk_call hbq_1 ?_) | (with_reducible refine intv_alloc ?_) | (with_reducible refine intv_drew ?_) | (with_reducible refine intv_set ?_ ?_) | (with_reducible refine intv_call hbq_2 ?_) | (with_reducible refine intv_call hbq_1 ?_) | (with_reducible exact Below.refl _ _) | (with_reducible refine Below.drew ?_) | ((with_reducible refine Below.alloc ?_ ?_ _); rotate_left; (focus (first | omega | (simp; done) | (simp; omega)))) | ((with_reducible refine Below.setCell ?_ ?_ _); rotate_left; (focus (first | omega | (simp; done) | (simp; omega)))) | (with_reducible refine bel_call hbq_2 ?_) | (with_reducible refine bel_call hbq_1 ?_) | (first | omega | (simp only [sz_alloc,sz_set,sz_drew]; omega) | (focus (simp only [sz_alloc,sz_set,sz_drew]; done))))
  case rest =>
    obtain ⟨g,ng,ag,kg,cg,rfl,hg,hG,hI,hb⟩:=hcut
    generalize wc=Y at *
    have BY:=Lib.hid (below_of BX.out hb)
    have GY:=Lib.hid hG; have GTY:=Lib.hid (car hb GT.out)
    have IY:=Lib.hid hI; have ITY:=Lib.hid (IT.out.below hb)
    have GRY:=Lib.hid (car BY.out G2.out)
    clear hG hI hb STAYq hBq GA GT IT BX
    have YY:Hid (∀ w1,Below Y.heap.size Y w1→_):=Lib.hid (fun w1 hw=>HY.out _ w1 (IY.out.below hw))
    have TY:Hid (∀ w1,Below Y.heap.size Y w1→_):=Lib.hid (fun w1 hw=>HT.out _ w1 (ITY.out.below hw))
    go_upto_region 3 with fail
    have STAYr:Hid (∀ w',Below Y.heap.size Y w'→w'.cell? ⟨g,0,none⟩=some (.bool ng)∧w'.cell? ⟨g,1,none⟩=some (.slice ag kg cg)∧w'.cell? ⟨u1.heap.size,0,none⟩=some (.bool nt)∧w'.cell? ⟨u1.heap.size,1,none⟩=some (Value.slice at' kt ct)∧Below Y.heap.size Y w'∧Y.heap.size≤w'.heap.size):=Lib.hid (fun w' hb=>by
      obtain ⟨e0,e1,-,-,-⟩:=blk2 (car hb GY.out)
      obtain ⟨e2,e3,-,-,-⟩:=blk2 (car hb GTY.out)
      exact ⟨e0,e1,e2,e3,hb,hb.size⟩)
    have hBr:=(Below.refl Y.heap.size Y).drew
    go_cut [16] (fun sb wx=>sb=.bool true∧Below Y.heap.size Y wx)
    case first =>
      go_region_held3 (fun w'=>w'.cell? ⟨g,0,none⟩=some (.bool ng)∧w'.cell? ⟨g,1,none⟩=some (.slice ag kg cg)∧w'.cell? ⟨u1.heap.size,0,none⟩=some (.bool nt)∧w'.cell? ⟨u1.heap.size,1,none⟩=some (Value.slice at' kt ct)∧Below Y.heap.size Y w'∧Y.heap.size≤w'.heap.size)
        (((try go_split_ands); refine STAYr.out _ ?_; repeat (first | (with_reducible assumption) | (with_reducible exact Below.refl _ _) | (with_reducible refine Below.drew ?_) | (with_reducible exact below_to (by with_reducible assumption) (by with_reducible assumption)) | ((with_reducible refine Below.alloc ?_ ?_ _); rotate_left; (focus (first | omega | (simp; done) | (simp; omega)))) | ((with_reducible refine Below.setCell ?_ ?_ _); rotate_left; (focus (first | omega | (simp; done) | (simp; omega)))))))
        (first
        | (have tk:=TKr_1; go_at_call 123; go_split_ands; (with_reducible refine Calls.mono (TY.out _ (by with_reducible assumption)) ?_); rintro e wr_2 ⟨rfl,hbr_2⟩; have hkr_2:=below_to hbr_2 (by with_reducible assumption); have hzr_2:=hkr_2.size; obtain ⟨hcr_2,hfr_2⟩:=bcell hbr_2; have hyr_2:=hbr_2.size; (try simp only [sz_alloc,sz_set,sz_drew] at hyr_2); (try (have hqr_2:Y.heap.size<wr_2.heap.size:=by omega)); (try (have hrr_2:Y.heap.size+1<wr_2.heap.size:=by omega)); (try (have hpr_2_1:wr_1.heap.size<wr_2.heap.size:=by omega)); (try (have hsr_2_1:wr_1.heap.size+1<wr_2.heap.size:=by omega)); have TKr_2:True:=trivial)
        | (go_at_call 123; go_split_ands; (with_reducible refine Calls.mono (YY.out _ (by with_reducible assumption)) ?_); rintro e wr_1 ⟨rfl,hbr_1⟩; have hkr_1:=below_to hbr_1 (by with_reducible assumption); have hzr_1:=hkr_1.size; obtain ⟨hcr_1,hfr_1⟩:=bcell hbr_1; have hyr_1:=hbr_1.size; (try simp only [sz_alloc,sz_set,sz_drew] at hyr_1); (try (have hqr_1:Y.heap.size<wr_1.heap.size:=by omega)); (try (have hrr_1:Y.heap.size+1<wr_1.heap.size:=by omega)); have TKr_1:True:=trivial))
      all_goals
        go_wp2_with fail
        go_meet
        exact ⟨congrArg Value.bool hdec'.out,by first | exact hkr_2 | exact hkr_2.drew⟩
    case rest =>
      obtain ⟨rfl,hb⟩:=hcut
      generalize wc=Z at *
      have BZ:=Lib.hid (below_of BY.out hb)
      have GZ:=Lib.hid (car hb GY.out); have GTZ:=Lib.hid (car hb GTY.out)
      have IZ:=Lib.hid (IY.out.below hb); have ITZ:=Lib.hid (ITY.out.below hb)
      have GRZ:=Lib.hid (car hb GRY.out)
      obtain ⟨p0,p1,p2,p3,_⟩:=blk2 GZ.out
      obtain ⟨q0,q1,-,-,_⟩:=blk2 GTZ.out
      clear hb STAYr hBr GY GTY IY ITY GRY BY
      go_wp2_with fail
      refine (AA.out _ _ _ IZ.out ITZ.out).mono ?_
      rintro e w5 ⟨n5,a5,k5,c5,rfl,hr5,hb5⟩
      have H5:=Lib.hid hr5.2
      have B5:=Lib.hid (below_of BL.out (below_of BZ.out hb5))
      have G5:=Lib.hid (car hb5 GZ.out)
      have GR5:=Lib.hid (car hb5 GRZ.out)
      have hgr:g≠w.heap.size+1:=by omega
      clear hr5 hb5 p0 p1 p2 p3 q0 q1
      obtain ⟨V,eV,g7,h7,b7,o7⟩:=two_set B5.out (by omega) G5.out H5.out (.bool n5) (.slice a5 k5 c5)
      have EV:=Lib.hid eV
      have F7:=Lib.hid (o7 _ _ (by omega) GR5.out)
      have H7:=Lib.hid h7; have B7:=Lib.hid b7
      obtain ⟨s0,s1,-,-,_⟩:=blk2 g7
      obtain ⟨u0,u1',v0,v1',_⟩:=blk2 F7.out
      obtain ⟨x0,x1,x2,x3,_⟩:=blk2 G5.out
      clear g7 h7 b7 o7 eV
      go_upto_region 5 with fail
      rw [EV.out]
      go_wp2
      exact bodyPost_ret (results_it rfl rfl (set2_row _ _ F7.out)) rfl ⟨_,rfl,H7.out.far F7.out,(B7.out.setCell (by show w.heap.size≤w.heap.size+1; omega) _).setCell (by show w.heap.size≤w.heap.size+1; omega) _⟩
theorem smod_n (pv av:Value) (wd m n:Nat) (b1:1≤wd) (b2:wd≤4096) (hm:m<2 ^ wd) (hn:n<2 ^ wd) (w:World) (hp:∃ po pn pc,pv=.slice po pn pc) (h:BvL w av [(wd,m),(wd,n)]) (hc:¬ zcmp (leftZ (sgV wd m) (sgV wd n)) 0*zcmp (sgV wd n) 0<0) :
    Calls Tryz.prog 76 #[.agg #[pv,av]] w fun e w'=>∃ v',e=.returned v'∧IntV w' v' (leftZ (sgV wd m) (sgV wd n))∧Below w.heap.size w w':=by
  obtain ⟨po,pn,pc,rfl⟩:=hp
  obtain ⟨ao,cap,rfl⟩:=h.shape
  obtain ⟨W,eW,g1,g2,bel,hsz⟩:=alloc2 w (Obj.cells #[.slice po pn pc,.slice ao 2 cap] 46) (Obj.cells #[.bool false,.slice none 0 0] 50)
  have HW:=Lib.hid (h.below bel)
  have G1:=Lib.hid g1; have G2:=Lib.hid g2; have BL:=Lib.hid bel
  have hWs:w.heap.size+1<W.heap.size:=by rw [← eW]; simp
  have SS:Hid (∀ w1,Below W.heap.size W w1→Calls Tryz.prog 86 #[.agg #[.slice po pn pc,.slice ao 2 cap]] w1 fun e w'=>∃ v',e=.returned v'∧IntV w' v' (sgV wd m)∧Below w1.heap.size w1 w'):=Lib.hid (fun w1 hw=>op_s _ _ _ wd m b1 b2 hm w1 ⟨_,_,_,rfl⟩ (HW.out.below hw) rfl)
  have TT:Hid (∀ w1,Below W.heap.size W w1→Calls Tryz.prog 122 #[.agg #[.slice po pn pc,.slice ao 2 cap]] w1 fun e w'=>∃ v',e=.returned v'∧IntV w' v' (sgV wd n)∧Below w1.heap.size w1 w'):=Lib.hid (fun w1 hw=>op_t _ _ _ 1 wd n b1 b2 hn w1 ⟨_,_,_,rfl⟩ (HW.out.below hw) rfl (by omega) rfl)
  have hbs:=sgV_big b2 hm; have hbt:=sgV_big b2 hn
  have hbz:(leftZ (sgV wd m) (sgV wd n)+sgV wd n).natAbs<Big:=by
    have h1:=leftZ_le (sgV wd m) (sgV wd n)
    have h2:(sgV wd m).natAbs≤2 ^ wd:=by unfold sgV; split<;>omega
    have h3:(sgV wd n).natAbs≤2 ^ wd:=by unfold sgV; split<;>omega
    have h4:2 ^ wd+2 ^ wd<Big:=by
      have h5:2 ^ (wd+1)<Big:=by
        unfold Big
        rw [b64_two]
        exact Nat.pow_lt_pow_right (by omega) (by unfold maxL; omega)
      rw [Nat.pow_succ] at h5
      omega
    omega
  generalize sgV wd m=s at *
  generalize sgV wd n=t at *
  have LL:Hid (∀ va vb w1,IntV w1 va s→IntV w1 vb t→Calls Tryz.prog 121 #[va,vb] w1 fun e w'=>∃ v',e=.returned v'∧IntV w' v' (leftZ s t)∧Below w1.heap.size w1 w'):=Lib.hid (fun va vb w1 h1 h2=>left_any va vb s t w1 h1 h2 hbs hbt)
  generalize leftZ s t=y at *
  have AA:Hid (∀ va vb w1,IntV w1 va y→IntV w1 vb t→Calls Tryz.prog 117 #[va,vb] w1 fun e w'=>Res1 w1 w' e (y+t)):=Lib.hid (fun va vb w1 h1 h2=>addF va vb y t w1 h1 h2 hbz)
  have SG:Hid (∀ v z w1,IntV w1 v z→Calls Tryz.prog 123 #[v] w1 fun e w'=>e=.returned (.int .i64 (zcmp z 0))∧Below w1.heap.size w1 w'):=Lib.hid (fun v z w1 hv=>signF v _ _ w1 hv rfl)
  have hy1:-1≤zcmp y 0∧zcmp y 0≤1:=by unfold zcmp; (repeat' split)<;>omega
  have ht1:-1≤zcmp t 0∧zcmp t 0≤1:=by unfold zcmp; (repeat' split)<;>omega
  have hmul:-1≤zcmp y 0*zcmp t 0∧zcmp y 0*zcmp t 0≤1:=by
    obtain ⟨p1,p2⟩:=hy1; obtain ⟨p3,p4⟩:=ht1
    generalize zcmp y 0=p at *
    generalize zcmp t 0=q at *
    rcases (show p=-1∨p=0∨p=1 by omega) with rfl | rfl | rfl<;>omega
  have hdec:decide (zcmp y 0*zcmp t 0<0)=false:=decide_eq_false hc
  have hwr:IntKind.i64.wrap (zcmp y 0*zcmp t 0)=zcmp y 0*zcmp t 0:=by
    have:=hmul
    generalize zcmp y 0*zcmp t 0=pq at *
    exact IntWalk.i64_in _ (by omega)
  have hdec':Hid (decide (IntKind.i64.wrap (zcmp y 0*zcmp t 0)<0)=false):=Lib.hid (by rw [hwr]; exact hdec)
  clear hwr hmul hdec
  have HY:Hid (∀ va w1,IntV w1 va y→_):=Lib.hid (fun va w1 h1=>SG.out va y w1 h1)
  have HT:Hid (∀ va w1,IntV w1 va t→_):=Lib.hid (fun va w1 h1=>SG.out va t w1 h1)
  generalize zcmp y 0=oy at *
  generalize zcmp t 0=ot at *
  obtain ⟨c0,c1,-,-,_⟩:=blk2 g1
  clear h g1 g2 bel hbs hbt hbz hm hn hc SG
  go_enter Tryz.func76,Tryz.ntmps76
  go_wp2_with fail
  try rw [eW]
  refine (TT.out W (Below.refl _ _)).mono ?_
  rintro e u1 ⟨v1,rfl,hi1,hb1⟩
  obtain ⟨nt,at',kt,ct,rfl⟩:=hi1.shape
  obtain ⟨X,eX,gX,iX,bX⟩:=intv_box t u1 hi1
  have IT:=Lib.hid iX
  have BX:=Lib.hid (below_of hb1 bX)
  have GA:=Lib.hid (car BX.out G1.out)
  have GT:=Lib.hid gX
  have hWX:W.heap.size≤u1.heap.size:=hb1.size
  have hux:u1.heap.size<X.heap.size:=(Array.getElem?_eq_some_iff.1 gX).1
  have EX:=Lib.hid eX
  clear hi1 hb1 gX iX bX eX c0 c1
  go_upto_region 2 with fail
  try rw [EX.out]
  have SX:Hid (∀ w1,Below X.heap.size X w1→_):=Lib.hid (fun w1 hw=>SS.out w1 (below_of BX.out hw))
  have LX:Hid (∀ va w1,Below X.heap.size X w1→IntV w1 va s→_):=Lib.hid (fun va w1 hw h1=>LL.out va _ w1 h1 (IT.out.below hw))
  have STAYq:Hid (∀ w',Below X.heap.size X w'→w'.cell? ⟨w.heap.size,0,none⟩=some (.slice po pn pc)∧w'.cell? ⟨w.heap.size,1,none⟩=some (.slice ao 2 cap)∧w'.cell? ⟨u1.heap.size,0,none⟩=some (.bool nt)∧w'.cell? ⟨u1.heap.size,1,none⟩=some (Value.slice at' kt ct)∧Below X.heap.size X w'∧X.heap.size≤w'.heap.size):=Lib.hid (fun w' hb=>by
    obtain ⟨e0,e1,-,-,-⟩:=blk2 (car hb GA.out)
    obtain ⟨e2,e3,-,-,-⟩:=blk2 (car hb GT.out)
    exact ⟨e0,e1,e2,e3,hb,hb.size⟩)
  have hBq:=(Below.refl X.heap.size X).drew
  clear SS LL TT
  go_cut [4] (fun sa wx=>BoxI X wx y sa)
  case first =>
    go_region_held3 (fun w'=>w'.cell? ⟨w.heap.size,0,none⟩=some (.slice po pn pc)∧w'.cell? ⟨w.heap.size,1,none⟩=some (.slice ao 2 cap)∧w'.cell? ⟨u1.heap.size,0,none⟩=some (.bool nt)∧w'.cell? ⟨u1.heap.size,1,none⟩=some (Value.slice at' kt ct)∧Below X.heap.size X w'∧X.heap.size≤w'.heap.size)
      (((try go_split_ands); refine STAYq.out _ ?_; repeat (first | (with_reducible assumption) | (with_reducible exact Below.refl _ _) | (with_reducible refine Below.drew ?_) | (with_reducible exact below_to (by with_reducible assumption) (by with_reducible assumption)) | ((with_reducible refine Below.alloc ?_ ?_ _); rotate_left; (focus (first | omega | (simp; done) | (simp; omega)))) | ((with_reducible refine Below.setCell ?_ ?_ _); rotate_left; (focus (first | omega | (simp; done) | (simp; omega)))))))
      (first
      | (have tk:=TKq_1; go_at_call 121; go_split_ands; (with_reducible refine Calls.mono (LX.out _ _ (by with_reducible assumption) ?_) ?_); (repeat (first | (with_reducible assumption) | (with_reducible refine intv_alloc ?_) | (with_reducible refine intv_drew ?_))); rintro e wq_2 ⟨vq_2,rfl,iiq_2,hbq_2⟩; have hkq_2:=below_to hbq_2 (by with_reducible assumption); have hzq_2:=hkq_2.size; obtain ⟨hcq_2,hfq_2⟩:=bcell hbq_2; have hyq_2:=hbq_2.size; (try simp only [sz_alloc,sz_set,sz_drew] at hyq_2); (try (have hqq_2:X.heap.size<wq_2.heap.size:=by omega)); (try (have hrq_2:X.heap.size+1<wq_2.heap.size:=by omega)); (try (have hpq_2_1:wq_1.heap.size<wq_2.heap.size:=by omega)); (try (have hsq_2_1:wq_1.heap.size+1<wq_2.heap.size:=by omega)); obtain ⟨nq_2,aq_2,kq_2,cq_2,rfl⟩:=iiq_2.shape; have TKq_2:True:=trivial)
      | (go_at_call 86; go_split_ands; (with_reducible refine Calls.mono (SX.out _ (by with_reducible assumption)) ?_); rintro e wq_1 ⟨vq_1,rfl,iiq_1,hbq_1⟩; have hkq_1:=below_to hbq_1 (by with_reducible assumption); have hzq_1:=hkq_1.size; obtain ⟨hcq_1,hfq_1⟩:=bcell hbq_1; have hyq_1:=hbq_1.size; (try simp only [sz_alloc,sz_set,sz_drew] at hyq_1); (try (have hqq_1:X.heap.size<wq_1.heap.size:=by omega)); (try (have hrq_1:X.heap.size+1<wq_1.heap.size:=by omega)); obtain ⟨nq_1,aq_1,kq_1,cq_1,rfl⟩:=iiq_1.shape; have TKq_1:True:=trivial))
    all_goals
      (go_wp2_with fail
       go_meet
       clear hcq_1 hfq_1 hcq_2 hfq_2
       refine ⟨_,nq_2,aq_2,kq_2,cq_2,rfl, ?_, ?_, ?_, ?_⟩)
    all_goals
      repeat (first | (with_reducible assumption) | ((with_reducible refine nblk_new ?_); (first | omega | (simp only [sz_alloc,sz_set,sz_drew]; omega) | (focus (simp only [sz_alloc,sz_set,sz_drew]; done)))) | ((with_reducible refine nblk_lt ?_ ?_); (first | omega | (simp only [sz_alloc,sz_set,sz_drew]; omega) | (focus (simp only [sz_alloc,sz_set,sz_drew]; done)))) | (with_reducible refine nblk_own ?_) | ((with_reducible refine nblk_two ?_ ?_); (first | omega | (simp only [sz_alloc,sz_set,sz_drew]; omega) | (focus (simp only [sz_alloc,sz_set,sz_drew]; done)))) | (with_reducible refine nblk_drew ?_) | (with_reducible refine nblk_call hbq_2 ?_) | (with_reducible refine nblk_call hbq_1 ?_) | (with_reducible refine intv_alloc ?_) | (with_reducible refine intv_drew ?_) | (with_reducible refine intv_set ?_ ?_) | (with_reducible refine intv_call hbq_2 ?_) | (with_reducible refine intv_call hbq_1 ?_) | (with_reducible exact Below.refl _ _) | (with_reducible refine Below.drew ?_) | ((with_reducible refine Below.alloc ?_ ?_ _); rotate_left; (focus (first | omega | (simp; done) | (simp; omega)))) | ((with_reducible refine Below.setCell ?_ ?_ _); rotate_left; (focus (first | omega | (simp; done) | (simp; omega)))) | (with_reducible refine bel_call hbq_2 ?_) | (with_reducible refine bel_call hbq_1 ?_) | (first | omega | (simp only [sz_alloc,sz_set,sz_drew]; omega) | (focus (simp only [sz_alloc,sz_set,sz_drew]; done))))
  case rest =>
    obtain ⟨g,ng,ag,kg,cg,rfl,hg,hG,hI,hb⟩:=hcut
    generalize wc=Y at *
    have BY:=Lib.hid (below_of BX.out hb)
    have GY:=Lib.hid hG; have GTY:=Lib.hid (car hb GT.out)
    have IY:=Lib.hid hI; have ITY:=Lib.hid (IT.out.below hb)
    have GRY:=Lib.hid (car BY.out G2.out)
    clear hG hI hb STAYq hBq GA GT IT BX
    have YY:Hid (∀ w1,Below Y.heap.size Y w1→_):=Lib.hid (fun w1 hw=>HY.out _ w1 (IY.out.below hw))
    have TY:Hid (∀ w1,Below Y.heap.size Y w1→_):=Lib.hid (fun w1 hw=>HT.out _ w1 (ITY.out.below hw))
    go_upto_region 3 with fail
    have STAYr:Hid (∀ w',Below Y.heap.size Y w'→w'.cell? ⟨g,0,none⟩=some (.bool ng)∧w'.cell? ⟨g,1,none⟩=some (.slice ag kg cg)∧w'.cell? ⟨u1.heap.size,0,none⟩=some (.bool nt)∧w'.cell? ⟨u1.heap.size,1,none⟩=some (Value.slice at' kt ct)∧Below Y.heap.size Y w'∧Y.heap.size≤w'.heap.size):=Lib.hid (fun w' hb=>by
      obtain ⟨e0,e1,-,-,-⟩:=blk2 (car hb GY.out)
      obtain ⟨e2,e3,-,-,-⟩:=blk2 (car hb GTY.out)
      exact ⟨e0,e1,e2,e3,hb,hb.size⟩)
    have hBr:=(Below.refl Y.heap.size Y).drew
    go_cut [16] (fun sb wx=>sb=.bool false∧Below Y.heap.size Y wx)
    case first =>
      go_region_held3 (fun w'=>w'.cell? ⟨g,0,none⟩=some (.bool ng)∧w'.cell? ⟨g,1,none⟩=some (.slice ag kg cg)∧w'.cell? ⟨u1.heap.size,0,none⟩=some (.bool nt)∧w'.cell? ⟨u1.heap.size,1,none⟩=some (Value.slice at' kt ct)∧Below Y.heap.size Y w'∧Y.heap.size≤w'.heap.size)
        (((try go_split_ands); refine STAYr.out _ ?_; repeat (first | (with_reducible assumption) | (with_reducible exact Below.refl _ _) | (with_reducible refine Below.drew ?_) | (with_reducible exact below_to (by with_reducible assumption) (by with_reducible assumption)) | ((with_reducible refine Below.alloc ?_ ?_ _); rotate_left; (focus (first | omega | (simp; done) | (simp; omega)))) | ((with_reducible refine Below.setCell ?_ ?_ _); rotate_left; (focus (first | omega | (simp; done) | (simp; omega)))))))
        (first
        | (have tk:=TKr_1; go_at_call 123; go_split_ands; (with_reducible refine Calls.mono (TY.out _ (by with_reducible assumption)) ?_); rintro e wr_2 ⟨rfl,hbr_2⟩; have hkr_2:=below_to hbr_2 (by with_reducible assumption); have hzr_2:=hkr_2.size; obtain ⟨hcr_2,hfr_2⟩:=bcell hbr_2; have hyr_2:=hbr_2.size; (try simp only [sz_alloc,sz_set,sz_drew] at hyr_2); (try (have hqr_2:Y.heap.size<wr_2.heap.size:=by omega)); (try (have hrr_2:Y.heap.size+1<wr_2.heap.size:=by omega)); (try (have hpr_2_1:wr_1.heap.size<wr_2.heap.size:=by omega)); (try (have hsr_2_1:wr_1.heap.size+1<wr_2.heap.size:=by omega)); have TKr_2:True:=trivial)
        | (go_at_call 123; go_split_ands; (with_reducible refine Calls.mono (YY.out _ (by with_reducible assumption)) ?_); rintro e wr_1 ⟨rfl,hbr_1⟩; have hkr_1:=below_to hbr_1 (by with_reducible assumption); have hzr_1:=hkr_1.size; obtain ⟨hcr_1,hfr_1⟩:=bcell hbr_1; have hyr_1:=hbr_1.size; (try simp only [sz_alloc,sz_set,sz_drew] at hyr_1); (try (have hqr_1:Y.heap.size<wr_1.heap.size:=by omega)); (try (have hrr_1:Y.heap.size+1<wr_1.heap.size:=by omega)); have TKr_1:True:=trivial))
      all_goals
        go_wp2_with fail
        go_meet
        exact ⟨congrArg Value.bool hdec'.out,by first | exact hkr_2 | exact hkr_2.drew⟩
    case rest =>
      obtain ⟨rfl,hb⟩:=hcut
      generalize wc=Z at *
      have BZ:=Lib.hid (below_of BY.out hb)
      have GZ:=Lib.hid (car hb GY.out); have GTZ:=Lib.hid (car hb GTY.out)
      have IZ:=Lib.hid (IY.out.below hb); have ITZ:=Lib.hid (ITY.out.below hb)
      have GRZ:=Lib.hid (car hb GRY.out)
      obtain ⟨p0,p1,p2,p3,_⟩:=blk2 GZ.out
      obtain ⟨q0,q1,-,-,_⟩:=blk2 GTZ.out
      clear hb STAYr hBr GY GTY IY ITY GRY BY
      obtain ⟨u0,u1',v0,v1',_⟩:=blk2 GRZ.out
      go_wp2
      exact bodyPost_ret (results_it rfl rfl (set2_row _ _ GRZ.out)) rfl ⟨_,rfl,IZ.out.far GRZ.out,((below_of BL.out BZ.out).setCell (by show w.heap.size≤w.heap.size+1; omega) _).setCell (by show w.heap.size≤w.heap.size+1; omega) _⟩
theorem smod_is (pv av:Value) (wd m n:Nat) (b1:1≤wd) (b2:wd≤4096) (hm:m<2 ^ wd) (hn:n<2 ^ wd) (w:World) (hp:∃ po pn pc,pv=.slice po pn pc) (h:BvL w av [(wd,m),(wd,n)]) :
    Calls Tryz.prog 76 #[.agg #[pv,av]] w fun e w'=>∃ v',e=.returned v'∧IntV w' v' (smodZ (sgV wd m) (sgV wd n))∧Below w.heap.size w w':=by
  unfold smodZ
  by_cases hc:zcmp (leftZ (sgV wd m) (sgV wd n)) 0*zcmp (sgV wd n) 0<0
  · rw [if_pos hc]; exact smod_y pv av wd m n b1 b2 hm hn w hp h hc
  · rw [if_neg hc]; exact smod_n pv av wd m n b1 b2 hm hn w hp h hc
end Go.Proofs.YtacbkpenohcgjaaGreat
namespace Go.Proofs.YtacbkpenohcgjaaGreat
open Go.RowKit Mth
def udivZ (m n:Nat):Int:=if n=0 then -1 else qC (m:Int) n
end Go.Proofs.YtacbkpenohcgjaaGreat
namespace Go.Proofs.YtacbkpenohcgjaaGreat
open Go.RowKit Mth
theorem udiv_all (pv av:Value) (wd m n:Nat) (b1:1≤wd) (b2:wd≤4096) (hm:m<2 ^ wd) (hn:n<2 ^ wd) (w:World) (hp:∃ po pn pc,pv=.slice po pn pc) (h:BvL w av [(wd,m),(wd,n)]) :
    Calls Tryz.prog 72 #[.agg #[pv,av]] w fun e w'=>∃ v',e=.returned v'∧IntV w' v' (udivZ m n)∧Below w.heap.size w w':=by
  unfold udivZ
  by_cases h0:n=0
  · rw [if_pos h0]; subst h0; exact udiv_zero pv av wd m w hp h
  · rw [if_neg h0]; exact udiv_is pv av wd m n b1 b2 hm hn w hp h h0
theorem apply_udiv (pv av:Value) (wd m n:Nat) (h1:1≤wd) (h2:wd≤4096) (hm:m<2 ^ wd) (hn:n<2 ^ wd) (w:World) (hp:∃ po pn pc,pv=.slice po pn pc) (h:BvL w av [(wd,m),(wd,n)]) :
    Calls Tryz.prog 5 #[.int .i64 55,pv,av] w fun e w'=>∃ v',e=.returned (.tuple #[v',.int .i64 0])∧BvO w' w.heap.size v' wd (vecN wd (udivZ m n))∧Below w.heap.size w w' :=
  apply_two 55 72 (fun args W=>enters_of Tryz.func72 (by kernel_rfl) rfl args W) (operatorOf_at 55 (by omega) 2 .nilFunc .nilFunc false 72 rfl rfl (by kernel_rfl) (by kernel_rfl) (by kernel_rfl) (by kernel_rfl) (by kernel_rfl)) pv av wd m n _ h1 h2 hm hn w hp h (fun w1 hw=>udiv_all pv av wd m n h1 h2 hm hn w1 hp hw)
theorem apply_urem (pv av:Value) (wd m n:Nat) (h1:1≤wd) (h2:wd≤4096) (hm:m<2 ^ wd) (hn:n<2 ^ wd) (w:World) (hp:∃ po pn pc,pv=.slice po pn pc) (h:BvL w av [(wd,m),(wd,n)]) :
    Calls Tryz.prog 5 #[.int .i64 56,pv,av] w fun e w'=>∃ v',e=.returned (.tuple #[v',.int .i64 0])∧BvO w' w.heap.size v' wd (vecN wd (leftZ (m:Int) n))∧Below w.heap.size w w' :=
  apply_two 56 73 (fun args W=>enters_of Tryz.func73 (by kernel_rfl) rfl args W) (operatorOf_at 56 (by omega) 2 .nilFunc .nilFunc false 73 rfl rfl (by kernel_rfl) (by kernel_rfl) (by kernel_rfl) (by kernel_rfl) (by kernel_rfl)) pv av wd m n _ h1 h2 hm hn w hp h (fun w1 hw=>urem_is pv av wd m n h1 h2 hm hn w1 hp hw)
theorem apply_sdiv (pv av:Value) (wd m n:Nat) (h1:1≤wd) (h2:wd≤4096) (hm:m<2 ^ wd) (hn:n<2 ^ wd) (w:World) (hp:∃ po pn pc,pv=.slice po pn pc) (h:BvL w av [(wd,m),(wd,n)]) :
    Calls Tryz.prog 5 #[.int .i64 57,pv,av] w fun e w'=>∃ v',e=.returned (.tuple #[v',.int .i64 0])∧BvO w' w.heap.size v' wd (vecN wd (sdivZ (sgV wd m) (sgV wd n)))∧Below w.heap.size w w' :=
  apply_two 57 74 (fun args W=>enters_of Tryz.func74 (by kernel_rfl) rfl args W) (operatorOf_at 57 (by omega) 2 .nilFunc .nilFunc false 74 rfl rfl (by kernel_rfl) (by kernel_rfl) (by kernel_rfl) (by kernel_rfl) (by kernel_rfl)) pv av wd m n _ h1 h2 hm hn w hp h (fun w1 hw=>sdiv_is pv av wd m n h1 h2 hm hn w1 hp hw)
theorem apply_srem (pv av:Value) (wd m n:Nat) (h1:1≤wd) (h2:wd≤4096) (hm:m<2 ^ wd) (hn:n<2 ^ wd) (w:World) (hp:∃ po pn pc,pv=.slice po pn pc) (h:BvL w av [(wd,m),(wd,n)]) :
    Calls Tryz.prog 5 #[.int .i64 58,pv,av] w fun e w'=>∃ v',e=.returned (.tuple #[v',.int .i64 0])∧BvO w' w.heap.size v' wd (vecN wd (leftZ (sgV wd m) (sgV wd n)))∧Below w.heap.size w w' :=
  apply_two 58 75 (fun args W=>enters_of Tryz.func75 (by kernel_rfl) rfl args W) (operatorOf_at 58 (by omega) 2 .nilFunc .nilFunc false 75 rfl rfl (by kernel_rfl) (by kernel_rfl) (by kernel_rfl) (by kernel_rfl) (by kernel_rfl)) pv av wd m n _ h1 h2 hm hn w hp h (fun w1 hw=>srem_is pv av wd m n h1 h2 hm hn w1 hp hw)
theorem apply_smod (pv av:Value) (wd m n:Nat) (h1:1≤wd) (h2:wd≤4096) (hm:m<2 ^ wd) (hn:n<2 ^ wd) (w:World) (hp:∃ po pn pc,pv=.slice po pn pc) (h:BvL w av [(wd,m),(wd,n)]) :
    Calls Tryz.prog 5 #[.int .i64 59,pv,av] w fun e w'=>∃ v',e=.returned (.tuple #[v',.int .i64 0])∧BvO w' w.heap.size v' wd (vecN wd (smodZ (sgV wd m) (sgV wd n)))∧Below w.heap.size w w' :=
  apply_two 59 76 (fun args W=>enters_of Tryz.func76 (by kernel_rfl) rfl args W) (operatorOf_at 59 (by omega) 2 .nilFunc .nilFunc false 76 rfl rfl (by kernel_rfl) (by kernel_rfl) (by kernel_rfl) (by kernel_rfl) (by kernel_rfl)) pv av wd m n _ h1 h2 hm hn w hp h (fun w1 hw=>smod_is pv av wd m n h1 h2 hm hn w1 hp hw)
theorem BvK.k0 {w:World} {wd k c n:Nat} {a:Option Addr} (h:BvK w wd a k c n):(((k:Nat):Int) == 0)=decide (n=0):=by
  obtain ⟨xs,rfl,s,l,t,e,-,-⟩:=h
  by_cases hn:n=0
  · subst hn
    have:xs=[]:=top_uniq B64_pos l (lim_nil (by have:=B64_pos; omega)) t rfl (by rw [e]; rfl)
    subst this
    rfl
  · rw [decide_eq_false hn]
    cases xs with
    | nil=>exact absurd (show n=0 from by rw [← e]; rfl) hn
    | cons x r=>exact beq_eq_false_iff_ne.2 (by simp only [List.length_cons]; omega)
end Go.Proofs.YtacbkpenohcgjaaGreat
namespace Go.Proofs.YtacbkpenohcgjaaGreat
open Go.RowKit Mth
end Go.Proofs.YtacbkpenohcgjaaGreat
