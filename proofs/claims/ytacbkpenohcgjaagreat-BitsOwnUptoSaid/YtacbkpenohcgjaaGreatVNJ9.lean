import Derived.Test.YtacbkpenohcgjaaGreatVN2
set_option linter.unusedVariables false
set_option linter.unusedSimpArgs false
set_option maxHeartbeats 16000000
set_option maxRecDepth 100000
namespace Go.Proofs.YtacbkpenohcgjaaGreat
open Go.RowKit Mth
theorem add_is (pv av:Value) (wd m n:Nat) (h2:wd≤4096) (hm:m<2 ^ wd) (hn:n<2 ^ wd) (w:World) (hp:∃ po pn pc,pv=.slice po pn pc) (h:BvL w av [(wd,m),(wd,n)]) :
    Calls Tryz.prog 69 #[.agg #[pv,av]] w fun e w'=>∃ v',e=.returned v'∧IntV w' v' ((m:Int)+n)∧Below w.heap.size w w':=by
  obtain ⟨po,pn,pc,rfl⟩:=hp
  obtain ⟨ao,cap,rfl⟩:=h.shape
  have hb:=(vec_bounds h2 hm hn).1
  obtain ⟨W,eW,g1,g2,bel,hsz⟩:=alloc2 w (Obj.cells #[.slice po pn pc,.slice ao 2 cap] 46) (Obj.cells #[.bool false,.slice none 0 0] 50)
  have HW:=h.below bel
  have UU:Hid (∀ w1,Below W.heap.size W w1→Calls Tryz.prog 85 #[.agg #[.slice po pn pc,.slice ao 2 cap]] w1 fun e w'=>∃ v',e=.returned v'∧IntV w' v' (m:Int)∧Below w1.heap.size w1 w'):=Lib.hid (fun w1 hw=>op_u _ _ _ wd m w1 ⟨_,_,_,rfl⟩ (HW.below hw) rfl)
  have VV:Hid (∀ w1,Below W.heap.size W w1→Calls Tryz.prog 116 #[.agg #[.slice po pn pc,.slice ao 2 cap]] w1 fun e w'=>∃ v',e=.returned v'∧IntV w' v' (n:Int)∧Below w1.heap.size w1 w'):=Lib.hid (fun w1 hw=>op_v _ _ _ 1 wd n w1 ⟨_,_,_,rfl⟩ (HW.below hw) rfl (by omega) rfl)
  have AA:Hid (∀ va vb w1,IntV w1 va (m:Int)→IntV w1 vb (n:Int)→Calls Tryz.prog 117 #[va,vb] w1 fun e w'=>Res1 w1 w' e ((m:Int)+n)):=Lib.hid (fun va vb w1 ha hb'=>addF va vb _ _ w1 ha hb' hb)
  generalize (m:Int)+n=z at *
  have G1:=Lib.hid g1; have G2:=Lib.hid g2; have BL:=Lib.hid bel
  have B0:=Lib.hid (Below.refl W.heap.size W)
  have A0:Hid (∀ (w1:World) (o:Obj),Below w1.heap.size w1 (w1.alloc o)):=Lib.hid (fun w1 o=>(Below.refl _ _).alloc (Nat.le_refl _) o)
  have D0:Hid (∀ (o:Obj),Below W.heap.size W (W.drew.alloc o)):=Lib.hid (fun o=>(Below.refl W.heap.size W).drew.alloc (Nat.le_refl _) o)
  obtain ⟨c0,c1,f0,f1,_⟩:=blk2 g1
  clear h g1 g2 bel HW hb hm hn
  go_enter Tryz.func69,Tryz.ntmps69
  go_wp2_with fail
  try rw [eW]
  go_region_with (first
    | (go_at_call 85; refine Calls.mono (UU.out _ ?_) ?_; (first | exact B0.out | exact B0.out.drew | exact A0.out _ _ | exact D0.out _); rintro e w2 ⟨v2,rfl,hi2,hb2⟩; have hb2':Below W.heap.size W w2:=(by (first | exact hb2 | exact bel_d hb2 | exact bel_a hb2 | exact bel_da hb2)); obtain ⟨n2,a2,k2,k2',rfl⟩:=hi2.shape; have H2:=Lib.hid hi2; have B2:=Lib.hid hb2'; have hz2:=hb2'.size; have GA2:=Lib.hid (car hb2' G1.out); obtain ⟨x0,x1,-,-,_⟩:=blk2 GA2.out; (try (have GX:w2.heap[W.heap.size]?=some zInt:=(by first | exact blk_a hb2 | exact blk_da hb2); have GB2:=Lib.hid GX; clear GX)); clear hi2 hb2 hb2')
    | (go_at_call 116; refine Calls.mono (VV.out _ ?_) ?_; (first | exact B2.out | exact below_of B2.out (A0.out _ _)); rintro e w3 ⟨v3,rfl,hi3,hb3⟩; have hb3':Below w2.heap.size w2 w3:=(by (first | exact hb3 | exact bel_d hb3 | exact bel_a hb3 | exact bel_da hb3)); obtain ⟨n3,a3,k3,k3',rfl⟩:=hi3.shape; have H3:=Lib.hid hi3; have H2':=Lib.hid (H2.out.below hb3'); have B3:=Lib.hid (below_of B2.out hb3'); have hz3:=hb3'.size; (first | (have GB3:=Lib.hid (car hb3' GB2.out)) | (have GX:w3.heap[w2.heap.size]?=some zInt:=(by first | exact blk_a hb3 | exact blk_da hb3); have GB3:=Lib.hid GX; clear GX) | skip); clear hi3 hb3 hb3')
    | (go_at_call 117; refine Calls.mono (AA.out _ _ _ ?_ ?_) ?_; (first | exact H2'.out | exact H2'.out.below (A0.out _ _)); (first | exact H3.out | exact H3.out.below (A0.out _ _)); rintro e w4 ⟨n4,a4,k4,k4',rfl,hr4,hb4⟩; have hb4':Below w3.heap.size w3 w4:=(by (first | exact hb4 | exact bel_d hb4 | exact bel_a hb4 | exact bel_da hb4)); have H4:=Lib.hid hr4.2; have B4:=Lib.hid (below_of BL.out (below_of B3.out hb4')); have hz4:=hb4'.size; have G4:=Lib.hid (car (below_of B3.out hb4') G2.out); (first | (have GB4:=Lib.hid (car hb4' GB3.out); obtain ⟨z0,z1,z2,z3,_⟩:=blk2 GB4.out) | (have GX:w4.heap[w3.heap.size]?=some zInt:=(by first | exact blk_a hb4 | exact blk_da hb4); have GB4:=Lib.hid GX; clear GX; obtain ⟨z0,z1,z2,z3,_⟩:=blk2 GB4.out) | skip); clear hr4 hb4 hb4'))
  all_goals
    first
    | (obtain ⟨V,eV,g7,h7,b7,o7⟩:=two_set B4.out (by omega) GB4.out H4.out (.bool n4) (.slice a4 k4 k4')
       rw [eV]
       have F7:=Lib.hid (o7 _ _ (by omega) G4.out)
       have H7:=Lib.hid h7; have B7:=Lib.hid b7
       obtain ⟨s0,s1,-,-,-⟩:=blk2 g7
       obtain ⟨u0,u1,v0,v1,_⟩:=blk2 F7.out
       clear g7 h7 b7 o7 eV
       go_wp2
       exact bodyPost_ret (results_it rfl rfl (set2_row _ _ F7.out)) rfl ⟨_,rfl,H7.out.far F7.out,(B7.out.setCell (by show w.heap.size≤w.heap.size+1; omega) _).setCell (by show w.heap.size≤w.heap.size+1; omega) _⟩)
    | (obtain ⟨V,eV,g7,h7,b7,o7⟩:=one_new B4.out H4.out (.bool n4) (.slice a4 k4 k4')
       rw [eV]
       have F7:=Lib.hid (o7 _ _ G4.out)
       have H7:=Lib.hid h7; have B7:=Lib.hid b7
       obtain ⟨s0,s1,-,-,-⟩:=blk2 g7
       obtain ⟨u0,u1,v0,v1,_⟩:=blk2 F7.out
       clear g7 h7 b7 o7 eV
       go_wp2
       exact bodyPost_ret (results_it rfl rfl (set2_row _ _ F7.out)) rfl ⟨_,rfl,H7.out.far F7.out,(B7.out.setCell (by show w.heap.size≤w.heap.size+1; omega) _).setCell (by show w.heap.size≤w.heap.size+1; omega) _⟩)
end Go.Proofs.YtacbkpenohcgjaaGreat
namespace Go.Proofs.YtacbkpenohcgjaaGreat
open Go.RowKit Mth
theorem sub_is (pv av:Value) (wd m n:Nat) (h2:wd≤4096) (hm:m<2 ^ wd) (hn:n<2 ^ wd) (w:World) (hp:∃ po pn pc,pv=.slice po pn pc) (h:BvL w av [(wd,m),(wd,n)]) :
    Calls Tryz.prog 70 #[.agg #[pv,av]] w fun e w'=>∃ v',e=.returned v'∧IntV w' v' ((m:Int) - n)∧Below w.heap.size w w':=by
  obtain ⟨po,pn,pc,rfl⟩:=hp
  obtain ⟨ao,cap,rfl⟩:=h.shape
  have hb:=(vec_bounds h2 hm hn).2.1
  obtain ⟨W,eW,g1,g2,bel,hsz⟩:=alloc2 w (Obj.cells #[.slice po pn pc,.slice ao 2 cap] 46) (Obj.cells #[.bool false,.slice none 0 0] 50)
  have HW:=h.below bel
  have UU:Hid (∀ w1,Below W.heap.size W w1→Calls Tryz.prog 85 #[.agg #[.slice po pn pc,.slice ao 2 cap]] w1 fun e w'=>∃ v',e=.returned v'∧IntV w' v' (m:Int)∧Below w1.heap.size w1 w'):=Lib.hid (fun w1 hw=>op_u _ _ _ wd m w1 ⟨_,_,_,rfl⟩ (HW.below hw) rfl)
  have VV:Hid (∀ w1,Below W.heap.size W w1→Calls Tryz.prog 116 #[.agg #[.slice po pn pc,.slice ao 2 cap]] w1 fun e w'=>∃ v',e=.returned v'∧IntV w' v' (n:Int)∧Below w1.heap.size w1 w'):=Lib.hid (fun w1 hw=>op_v _ _ _ 1 wd n w1 ⟨_,_,_,rfl⟩ (HW.below hw) rfl (by omega) rfl)
  have AA:Hid (∀ va vb w1,IntV w1 va (m:Int)→IntV w1 vb (n:Int)→Calls Tryz.prog 106 #[va,vb] w1 fun e w'=>Res1 w1 w' e ((m:Int) - n)):=Lib.hid (fun va vb w1 ha hb'=>subF va vb _ _ w1 ha hb' hb)
  generalize (m:Int) - n=z at *
  have G1:=Lib.hid g1; have G2:=Lib.hid g2; have BL:=Lib.hid bel
  have B0:=Lib.hid (Below.refl W.heap.size W)
  have A0:Hid (∀ (w1:World) (o:Obj),Below w1.heap.size w1 (w1.alloc o)):=Lib.hid (fun w1 o=>(Below.refl _ _).alloc (Nat.le_refl _) o)
  have D0:Hid (∀ (o:Obj),Below W.heap.size W (W.drew.alloc o)):=Lib.hid (fun o=>(Below.refl W.heap.size W).drew.alloc (Nat.le_refl _) o)
  obtain ⟨c0,c1,f0,f1,_⟩:=blk2 g1
  clear h g1 g2 bel HW hb hm hn
  go_enter Tryz.func70,Tryz.ntmps70
  go_wp2_with fail
  try rw [eW]
  go_region_with (first
    | (go_at_call 85; refine Calls.mono (UU.out _ ?_) ?_; (first | exact B0.out | exact B0.out.drew | exact A0.out _ _ | exact D0.out _); rintro e w2 ⟨v2,rfl,hi2,hb2⟩; have hb2':Below W.heap.size W w2:=(by (first | exact hb2 | exact bel_d hb2 | exact bel_a hb2 | exact bel_da hb2)); obtain ⟨n2,a2,k2,k2',rfl⟩:=hi2.shape; have H2:=Lib.hid hi2; have B2:=Lib.hid hb2'; have hz2:=hb2'.size; have GA2:=Lib.hid (car hb2' G1.out); obtain ⟨x0,x1,-,-,_⟩:=blk2 GA2.out; (try (have GX:w2.heap[W.heap.size]?=some zInt:=(by first | exact blk_a hb2 | exact blk_da hb2); have GB2:=Lib.hid GX; clear GX)); clear hi2 hb2 hb2')
    | (go_at_call 116; refine Calls.mono (VV.out _ ?_) ?_; (first | exact B2.out | exact below_of B2.out (A0.out _ _)); rintro e w3 ⟨v3,rfl,hi3,hb3⟩; have hb3':Below w2.heap.size w2 w3:=(by (first | exact hb3 | exact bel_d hb3 | exact bel_a hb3 | exact bel_da hb3)); obtain ⟨n3,a3,k3,k3',rfl⟩:=hi3.shape; have H3:=Lib.hid hi3; have H2':=Lib.hid (H2.out.below hb3'); have B3:=Lib.hid (below_of B2.out hb3'); have hz3:=hb3'.size; (first | (have GB3:=Lib.hid (car hb3' GB2.out)) | (have GX:w3.heap[w2.heap.size]?=some zInt:=(by first | exact blk_a hb3 | exact blk_da hb3); have GB3:=Lib.hid GX; clear GX) | skip); clear hi3 hb3 hb3')
    | (go_at_call 106; refine Calls.mono (AA.out _ _ _ ?_ ?_) ?_; (first | exact H2'.out | exact H2'.out.below (A0.out _ _)); (first | exact H3.out | exact H3.out.below (A0.out _ _)); rintro e w4 ⟨n4,a4,k4,k4',rfl,hr4,hb4⟩; have hb4':Below w3.heap.size w3 w4:=(by (first | exact hb4 | exact bel_d hb4 | exact bel_a hb4 | exact bel_da hb4)); have H4:=Lib.hid hr4.2; have B4:=Lib.hid (below_of BL.out (below_of B3.out hb4')); have hz4:=hb4'.size; have G4:=Lib.hid (car (below_of B3.out hb4') G2.out); (first | (have GB4:=Lib.hid (car hb4' GB3.out); obtain ⟨z0,z1,z2,z3,_⟩:=blk2 GB4.out) | (have GX:w4.heap[w3.heap.size]?=some zInt:=(by first | exact blk_a hb4 | exact blk_da hb4); have GB4:=Lib.hid GX; clear GX; obtain ⟨z0,z1,z2,z3,_⟩:=blk2 GB4.out) | skip); clear hr4 hb4 hb4'))
  all_goals
    first
    | (obtain ⟨V,eV,g7,h7,b7,o7⟩:=two_set B4.out (by omega) GB4.out H4.out (.bool n4) (.slice a4 k4 k4')
       rw [eV]
       have F7:=Lib.hid (o7 _ _ (by omega) G4.out)
       have H7:=Lib.hid h7; have B7:=Lib.hid b7
       obtain ⟨s0,s1,-,-,-⟩:=blk2 g7
       obtain ⟨u0,u1,v0,v1,_⟩:=blk2 F7.out
       clear g7 h7 b7 o7 eV
       go_wp2
       exact bodyPost_ret (results_it rfl rfl (set2_row _ _ F7.out)) rfl ⟨_,rfl,H7.out.far F7.out,(B7.out.setCell (by show w.heap.size≤w.heap.size+1; omega) _).setCell (by show w.heap.size≤w.heap.size+1; omega) _⟩)
    | (obtain ⟨V,eV,g7,h7,b7,o7⟩:=one_new B4.out H4.out (.bool n4) (.slice a4 k4 k4')
       rw [eV]
       have F7:=Lib.hid (o7 _ _ G4.out)
       have H7:=Lib.hid h7; have B7:=Lib.hid b7
       obtain ⟨s0,s1,-,-,-⟩:=blk2 g7
       obtain ⟨u0,u1,v0,v1,_⟩:=blk2 F7.out
       clear g7 h7 b7 o7 eV
       go_wp2
       exact bodyPost_ret (results_it rfl rfl (set2_row _ _ F7.out)) rfl ⟨_,rfl,H7.out.far F7.out,(B7.out.setCell (by show w.heap.size≤w.heap.size+1; omega) _).setCell (by show w.heap.size≤w.heap.size+1; omega) _⟩)
end Go.Proofs.YtacbkpenohcgjaaGreat
namespace Go.Proofs.YtacbkpenohcgjaaGreat
open Go.RowKit Mth
theorem mul_is (pv av:Value) (wd m n:Nat) (h2:wd≤4096) (hm:m<2 ^ wd) (hn:n<2 ^ wd) (w:World) (hp:∃ po pn pc,pv=.slice po pn pc) (h:BvL w av [(wd,m),(wd,n)]) :
    Calls Tryz.prog 71 #[.agg #[pv,av]] w fun e w'=>∃ v',e=.returned v'∧IntV w' v' ((m:Int)*n)∧Below w.heap.size w w':=by
  obtain ⟨po,pn,pc,rfl⟩:=hp
  obtain ⟨ao,cap,rfl⟩:=h.shape
  have hb:=(vec_bounds h2 hm hn).2.2
  obtain ⟨W,eW,g1,g2,bel,hsz⟩:=alloc2 w (Obj.cells #[.slice po pn pc,.slice ao 2 cap] 46) (Obj.cells #[.bool false,.slice none 0 0] 50)
  have HW:=h.below bel
  have UU:Hid (∀ w1,Below W.heap.size W w1→Calls Tryz.prog 85 #[.agg #[.slice po pn pc,.slice ao 2 cap]] w1 fun e w'=>∃ v',e=.returned v'∧IntV w' v' (m:Int)∧Below w1.heap.size w1 w'):=Lib.hid (fun w1 hw=>op_u _ _ _ wd m w1 ⟨_,_,_,rfl⟩ (HW.below hw) rfl)
  have VV:Hid (∀ w1,Below W.heap.size W w1→Calls Tryz.prog 116 #[.agg #[.slice po pn pc,.slice ao 2 cap]] w1 fun e w'=>∃ v',e=.returned v'∧IntV w' v' (n:Int)∧Below w1.heap.size w1 w'):=Lib.hid (fun w1 hw=>op_v _ _ _ 1 wd n w1 ⟨_,_,_,rfl⟩ (HW.below hw) rfl (by omega) rfl)
  have AA:Hid (∀ va vb w1,IntV w1 va (m:Int)→IntV w1 vb (n:Int)→Calls Tryz.prog 118 #[va,vb] w1 fun e w'=>Res1 w1 w' e ((m:Int)*n)):=Lib.hid (fun va vb w1 ha hb'=>mulF va vb _ _ w1 ha hb' hb)
  generalize (m:Int)*n=z at *
  have G1:=Lib.hid g1; have G2:=Lib.hid g2; have BL:=Lib.hid bel
  have B0:=Lib.hid (Below.refl W.heap.size W)
  have A0:Hid (∀ (w1:World) (o:Obj),Below w1.heap.size w1 (w1.alloc o)):=Lib.hid (fun w1 o=>(Below.refl _ _).alloc (Nat.le_refl _) o)
  have D0:Hid (∀ (o:Obj),Below W.heap.size W (W.drew.alloc o)):=Lib.hid (fun o=>(Below.refl W.heap.size W).drew.alloc (Nat.le_refl _) o)
  obtain ⟨c0,c1,f0,f1,_⟩:=blk2 g1
  clear h g1 g2 bel HW hb hm hn
  go_enter Tryz.func71,Tryz.ntmps71
  go_wp2_with fail
  try rw [eW]
  go_region_with (first
    | (go_at_call 85; refine Calls.mono (UU.out _ ?_) ?_; (first | exact B0.out | exact B0.out.drew | exact A0.out _ _ | exact D0.out _); rintro e w2 ⟨v2,rfl,hi2,hb2⟩; have hb2':Below W.heap.size W w2:=(by (first | exact hb2 | exact bel_d hb2 | exact bel_a hb2 | exact bel_da hb2)); obtain ⟨n2,a2,k2,k2',rfl⟩:=hi2.shape; have H2:=Lib.hid hi2; have B2:=Lib.hid hb2'; have hz2:=hb2'.size; have GA2:=Lib.hid (car hb2' G1.out); obtain ⟨x0,x1,-,-,_⟩:=blk2 GA2.out; (try (have GX:w2.heap[W.heap.size]?=some zInt:=(by first | exact blk_a hb2 | exact blk_da hb2); have GB2:=Lib.hid GX; clear GX)); clear hi2 hb2 hb2')
    | (go_at_call 116; refine Calls.mono (VV.out _ ?_) ?_; (first | exact B2.out | exact below_of B2.out (A0.out _ _)); rintro e w3 ⟨v3,rfl,hi3,hb3⟩; have hb3':Below w2.heap.size w2 w3:=(by (first | exact hb3 | exact bel_d hb3 | exact bel_a hb3 | exact bel_da hb3)); obtain ⟨n3,a3,k3,k3',rfl⟩:=hi3.shape; have H3:=Lib.hid hi3; have H2':=Lib.hid (H2.out.below hb3'); have B3:=Lib.hid (below_of B2.out hb3'); have hz3:=hb3'.size; (first | (have GB3:=Lib.hid (car hb3' GB2.out)) | (have GX:w3.heap[w2.heap.size]?=some zInt:=(by first | exact blk_a hb3 | exact blk_da hb3); have GB3:=Lib.hid GX; clear GX) | skip); clear hi3 hb3 hb3')
    | (go_at_call 118; refine Calls.mono (AA.out _ _ _ ?_ ?_) ?_; (first | exact H2'.out | exact H2'.out.below (A0.out _ _)); (first | exact H3.out | exact H3.out.below (A0.out _ _)); rintro e w4 ⟨n4,a4,k4,k4',rfl,hr4,hb4⟩; have hb4':Below w3.heap.size w3 w4:=(by (first | exact hb4 | exact bel_d hb4 | exact bel_a hb4 | exact bel_da hb4)); have H4:=Lib.hid hr4.2; have B4:=Lib.hid (below_of BL.out (below_of B3.out hb4')); have hz4:=hb4'.size; have G4:=Lib.hid (car (below_of B3.out hb4') G2.out); (first | (have GB4:=Lib.hid (car hb4' GB3.out); obtain ⟨z0,z1,z2,z3,_⟩:=blk2 GB4.out) | (have GX:w4.heap[w3.heap.size]?=some zInt:=(by first | exact blk_a hb4 | exact blk_da hb4); have GB4:=Lib.hid GX; clear GX; obtain ⟨z0,z1,z2,z3,_⟩:=blk2 GB4.out) | skip); clear hr4 hb4 hb4'))
  all_goals
    first
    | (obtain ⟨V,eV,g7,h7,b7,o7⟩:=two_set B4.out (by omega) GB4.out H4.out (.bool n4) (.slice a4 k4 k4')
       rw [eV]
       have F7:=Lib.hid (o7 _ _ (by omega) G4.out)
       have H7:=Lib.hid h7; have B7:=Lib.hid b7
       obtain ⟨s0,s1,-,-,-⟩:=blk2 g7
       obtain ⟨u0,u1,v0,v1,_⟩:=blk2 F7.out
       clear g7 h7 b7 o7 eV
       go_wp2
       exact bodyPost_ret (results_it rfl rfl (set2_row _ _ F7.out)) rfl ⟨_,rfl,H7.out.far F7.out,(B7.out.setCell (by show w.heap.size≤w.heap.size+1; omega) _).setCell (by show w.heap.size≤w.heap.size+1; omega) _⟩)
    | (obtain ⟨V,eV,g7,h7,b7,o7⟩:=one_new B4.out H4.out (.bool n4) (.slice a4 k4 k4')
       rw [eV]
       have F7:=Lib.hid (o7 _ _ G4.out)
       have H7:=Lib.hid h7; have B7:=Lib.hid b7
       obtain ⟨s0,s1,-,-,-⟩:=blk2 g7
       obtain ⟨u0,u1,v0,v1,_⟩:=blk2 F7.out
       clear g7 h7 b7 o7 eV
       go_wp2
       exact bodyPost_ret (results_it rfl rfl (set2_row _ _ F7.out)) rfl ⟨_,rfl,H7.out.far F7.out,(B7.out.setCell (by show w.heap.size≤w.heap.size+1; omega) _).setCell (by show w.heap.size≤w.heap.size+1; omega) _⟩)
end Go.Proofs.YtacbkpenohcgjaaGreat
namespace Go.Proofs.YtacbkpenohcgjaaGreat
open Go.RowKit Mth
theorem vec_bound1 {wd m:Nat} (h2:wd≤4096) (hm:m<2 ^ wd):(m:Int).natAbs<Big∧((-1:Int) - m).natAbs<Big:=by
  obtain ⟨a,b⟩:=two_big h2
  have h1:2 ^ wd+2 ^ wd≤Big:=by
    have:2 ^ (wd+1)≤Big:=by
      unfold Big
      rw [b64_two]
      exact Nat.pow_le_pow_right (by omega) (by unfold maxL; omega)
    rw [Nat.pow_succ] at this
    omega
  exact ⟨by omega,by omega⟩
theorem neg_is (pv av:Value) (L:List (Nat × Nat)) (wd m:Nat) (b2:wd≤4096) (hm:m<2 ^ wd) (w:World) (hp:∃ po pn pc,pv=.slice po pn pc) (h:BvL w av L) (h0:L[0]?=some (wd,m)) :
    Calls Tryz.prog 60 #[.agg #[pv,av]] w fun e w'=>∃ v',e=.returned v'∧IntV w' v' (-(m:Int))∧Below w.heap.size w w':=by
  obtain ⟨po,pn,pc,rfl⟩:=hp
  obtain ⟨ao,cap,rfl⟩:=h.shape
  have FS:∀ w1,BvL w1 (.slice ao L.length cap) L→Calls Tryz.prog 85 #[.agg #[.slice po pn pc,.slice ao L.length cap]] w1 fun e w'=>∃ v',e=.returned v'∧IntV w' v' (m:Int)∧Below w1.heap.size w1 w':=fun w1 hv=>op_u _ _ L wd m w1 ⟨_,_,_,rfl⟩ hv h0
  have NM:Hid (∀ v w1,IntV w1 v (m:Int)→Calls Tryz.prog 108 #[v] w1 fun e w'=>Res0 w1 w' e (-(m:Int))):=Lib.hid (fun v w1 h=>negF v m w1 h (vec_bound1 b2 hm).1)
  obtain ⟨W,eW,g1,g2,bel,hsz⟩:=alloc2 w (Obj.cells #[.slice po pn pc,.slice ao L.length cap] 46) (Obj.cells #[.bool false,.slice none 0 0] 50)
  have FA:=Lib.hid (FS W (h.below bel))
  have G2:=Lib.hid g2; have BL:=Lib.hid bel
  obtain ⟨c0,c1,f0,f1,_⟩:=blk2 g1
  generalize -(m:Int)=z at *
  clear h g1 g2 bel FS h0 hm
  generalize L.length=n at *
  go_enter Tryz.func60,Tryz.ntmps60
  go_wp2_with fail
  try rw [eW]
  refine FA.out.mono ?_
  rintro e w2 ⟨v2,rfl,hv2,hb2⟩
  have NN:=Lib.hid (NM.out v2 w2 hv2)
  have B2:=Lib.hid (below_of BL.out hb2)
  have G3:=Lib.hid (hb2.block _ hsz |>.trans G2.out)
  have hz2:=hb2.size
  obtain ⟨n2,a2,k2,k2',rfl⟩:=hv2.shape
  clear hb2 hv2
  go_wp2_with fail
  refine NN.out.mono ?_
  rintro e w3 ⟨n3,a3,k3,k3',rfl,hr3,hb3⟩
  have H3:=Lib.hid hr3.2
  have B3:=Lib.hid (below_of B2.out hb3)
  have G4:=Lib.hid (hb3.block _ (by omega) |>.trans G3.out)
  obtain ⟨q0,q1,r0,r1,_⟩:=blk2 G4.out
  clear hr3 hb3
  go_wp2
  exact bodyPost_ret (results_it rfl rfl (set2_row _ _ G4.out)) rfl ⟨_,rfl,H3.out.far G4.out,(B3.out.setCell (by show w.heap.size≤w.heap.size+1; omega) _).setCell (by show w.heap.size≤w.heap.size+1; omega) _⟩
theorem not_is (pv av:Value) (wd m:Nat) (h2:wd≤4096) (hm:m<2 ^ wd) (w:World) (hp:∃ po pn pc,pv=.slice po pn pc) (h:BvL w av [(wd,m)]) :
    Calls Tryz.prog 59 #[.agg #[pv,av]] w fun e w'=>∃ v',e=.returned v'∧IntV w' v' ((-1:Int) - m)∧Below w.heap.size w w':=by
  obtain ⟨po,pn,pc,rfl⟩:=hp
  obtain ⟨ao,cap,rfl⟩:=h.shape
  have hb:=(vec_bound1 h2 hm).2
  obtain ⟨W,eW,g1,g2,bel,hsz⟩:=alloc2 w (Obj.cells #[.slice po pn pc,.slice ao 1 cap] 46) (Obj.cells #[.bool false,.slice none 0 0] 50)
  have HW:=h.below bel
  have UU:Hid (∀ w1,Calls Tryz.prog 107 #[.int .i64 (-1)] w1 fun e w'=>Res0 w1 w' e (-1)):=Lib.hid (fun w1=>ofF (-1) w1 (by omega) (by omega))
  have VV:Hid (∀ w1,Below W.heap.size W w1→Calls Tryz.prog 85 #[.agg #[.slice po pn pc,.slice ao 1 cap]] w1 fun e w'=>∃ v',e=.returned v'∧IntV w' v' (m:Int)∧Below w1.heap.size w1 w'):=Lib.hid (fun w1 hw=>op_u _ _ _ wd m w1 ⟨_,_,_,rfl⟩ (HW.below hw) rfl)
  have AA:Hid (∀ va vb w1,IntV w1 va (-1)→IntV w1 vb (m:Int)→Calls Tryz.prog 106 #[va,vb] w1 fun e w'=>Res1 w1 w' e ((-1:Int) - m)):=Lib.hid (fun va vb w1 ha hb'=>subF va vb _ _ w1 ha hb' hb)
  generalize (-1:Int) - (m:Int)=z at *
  have G1:=Lib.hid g1; have G2:=Lib.hid g2; have BL:=Lib.hid bel
  have B0:=Lib.hid (Below.refl W.heap.size W)
  have A0:Hid (∀ (w1:World) (o:Obj),Below w1.heap.size w1 (w1.alloc o)):=Lib.hid (fun w1 o=>(Below.refl _ _).alloc (Nat.le_refl _) o)
  have D0:Hid (∀ (o:Obj),Below W.heap.size W (W.drew.alloc o)):=Lib.hid (fun o=>(Below.refl W.heap.size W).drew.alloc (Nat.le_refl _) o)
  obtain ⟨c0,c1,f0,f1,_⟩:=blk2 g1
  clear h g1 g2 bel HW hb hm
  go_enter Tryz.func59,Tryz.ntmps59
  go_wp2_with fail
  try rw [eW]
  go_region_with (first
    | (go_at_call 107; refine Calls.mono (UU.out _) ?_; rintro e w2 ⟨n2,a2,k2,k2',rfl,hr2,hb2⟩; have hi2:=hr2.2; have hb2':Below W.heap.size W w2:=(by (first | exact hb2 | exact bel_d hb2 | exact bel_a hb2 | exact bel_da hb2)); have H2:=Lib.hid hi2; have B2:=Lib.hid hb2'; have hz2:=hb2'.size; have GA2:=Lib.hid (car hb2' G1.out); obtain ⟨x0,x1,-,-,_⟩:=blk2 GA2.out; (try (have GX:w2.heap[W.heap.size]?=some zInt:=(by first | exact blk_a hb2 | exact blk_da hb2); have GB2:=Lib.hid GX; clear GX)); clear hi2 hr2 hb2 hb2')
    | (go_at_call 85; refine Calls.mono (VV.out _ ?_) ?_; (first | exact B2.out | exact below_of B2.out (A0.out _ _)); rintro e w3 ⟨v3,rfl,hi3,hb3⟩; have hb3':Below w2.heap.size w2 w3:=(by (first | exact hb3 | exact bel_d hb3 | exact bel_a hb3 | exact bel_da hb3)); obtain ⟨n3,a3,k3,k3',rfl⟩:=hi3.shape; have H3:=Lib.hid hi3; have H2':=Lib.hid (H2.out.below hb3'); have B3:=Lib.hid (below_of B2.out hb3'); have hz3:=hb3'.size; (first | (have GB3:=Lib.hid (car hb3' GB2.out)) | (have GX:w3.heap[w2.heap.size]?=some zInt:=(by first | exact blk_a hb3 | exact blk_da hb3); have GB3:=Lib.hid GX; clear GX) | skip); clear hi3 hb3 hb3')
    | (go_at_call 106; refine Calls.mono (AA.out _ _ _ ?_ ?_) ?_; (first | exact H2'.out | exact H2'.out.below (A0.out _ _)); (first | exact H3.out | exact H3.out.below (A0.out _ _)); rintro e w4 ⟨n4,a4,k4,k4',rfl,hr4,hb4⟩; have hb4':Below w3.heap.size w3 w4:=(by (first | exact hb4 | exact bel_d hb4 | exact bel_a hb4 | exact bel_da hb4)); have H4:=Lib.hid hr4.2; have B4:=Lib.hid (below_of BL.out (below_of B3.out hb4')); have hz4:=hb4'.size; have G4:=Lib.hid (car (below_of B3.out hb4') G2.out); (first | (have GB4:=Lib.hid (car hb4' GB3.out); obtain ⟨z0,z1,z2,z3,_⟩:=blk2 GB4.out) | (have GX:w4.heap[w3.heap.size]?=some zInt:=(by first | exact blk_a hb4 | exact blk_da hb4); have GB4:=Lib.hid GX; clear GX; obtain ⟨z0,z1,z2,z3,_⟩:=blk2 GB4.out) | skip); clear hr4 hb4 hb4'))
  all_goals
    first
    | (obtain ⟨V,eV,g7,h7,b7,o7⟩:=two_set B4.out (by omega) GB4.out H4.out (.bool n4) (.slice a4 k4 k4')
       rw [eV]
       have F7:=Lib.hid (o7 _ _ (by omega) G4.out)
       have H7:=Lib.hid h7; have B7:=Lib.hid b7
       obtain ⟨s0,s1,-,-,-⟩:=blk2 g7
       obtain ⟨u0,u1,v0,v1,_⟩:=blk2 F7.out
       clear g7 h7 b7 o7 eV
       go_wp2
       exact bodyPost_ret (results_it rfl rfl (set2_row _ _ F7.out)) rfl ⟨_,rfl,H7.out.far F7.out,(B7.out.setCell (by show w.heap.size≤w.heap.size+1; omega) _).setCell (by show w.heap.size≤w.heap.size+1; omega) _⟩)
    | (obtain ⟨V,eV,g7,h7,b7,o7⟩:=one_new B4.out H4.out (.bool n4) (.slice a4 k4 k4')
       rw [eV]
       have F7:=Lib.hid (o7 _ _ G4.out)
       have H7:=Lib.hid h7; have B7:=Lib.hid b7
       obtain ⟨s0,s1,-,-,-⟩:=blk2 g7
       obtain ⟨u0,u1,v0,v1,_⟩:=blk2 F7.out
       clear g7 h7 b7 o7 eV
       go_wp2
       exact bodyPost_ret (results_it rfl rfl (set2_row _ _ F7.out)) rfl ⟨_,rfl,H7.out.far F7.out,(B7.out.setCell (by show w.heap.size≤w.heap.size+1; omega) _).setCell (by show w.heap.size≤w.heap.size+1; omega) _⟩)
end Go.Proofs.YtacbkpenohcgjaaGreat
