import Derived.Test.YtacbkpenohcgjaaGreatVN3
import Derived.Lib.SmallJoins
import Derived.Test.YtacbkpenohcgjaaGreatVNI9
import Derived.Test.YtacbkpenohcgjaaGreatVN4
import Derived.Test.YtacbkpenohcgjaaGreatVLiftV
set_option linter.unusedVariables false
set_option linter.unusedSimpArgs false
set_option maxHeartbeats 16000000
set_option maxRecDepth 100000
namespace Go.Proofs.YtacbkpenohcgjaaGreat
open Go.RowKit Mth
theorem apply_err (kk n er:Int) (p d:Value) (mx:Bool) (f:Nat) (hp:p.oneCell'=true) (hd:d.oneCell'=true) (her:er≠0)
    (pv av:Value) (w:World) (hpv:∃ po pn pc,pv=.slice po pn pc) (hav:∃ ao ak ac,av=.slice ao ak ac)
    (hO:∀ w1,Calls Tryz.prog 9 #[.int .i64 kk] w1 fun e w'=>e=.returned (.tuple #[.agg #[.int .i64 n,p,.bool mx,d,.func (.func f) #[] #[]],.bool true])∧Below w1.heap.size w1 w')
    (hF:∀ w1,Below w.heap.size w w1→Calls Tryz.prog 10 #[.agg #[.int .i64 n,p,.bool mx,d,.func (.func f) #[] #[]],.agg #[pv,av]] w1 fun e w'=>e=.returned (.int .i64 er)∧Below w1.heap.size w1 w') :
    Calls Tryz.prog 5 #[.int .i64 kk,pv,av] w fun e w'=>e=.returned (.tuple #[BvE,.int .i64 er])∧Below w.heap.size w w':=by
  obtain ⟨po,pn,pc,rfl⟩:=hpv
  obtain ⟨ao,ak,ac,rfl⟩:=hav
  obtain ⟨W,eW,gW,bW,hWs⟩:=alloc1n w (Obj.cells #[.int .i64 0,.slice none 0 0] 28)
  have OP:=Lib.hid (hO W)
  have FT:Hid (∀ w1,Below W.heap.size W w1→_):=Lib.hid (fun w1 h=>hF w1 (below_of bW h))
  have hs1:∀ (a:Addr) (W:World) m,Sem.run Tryz.prog (store a p m) W=stored Tryz.prog W a p m:=fun a W m=>run_store Tryz.prog W a _ m hp
  have hs2:∀ (a:Addr) (W:World) m,Sem.run Tryz.prog (store a (.func (.func f) #[] #[]) m) W=stored Tryz.prog W a (.func (.func f) #[] #[]) m:=fun a W m=>run_store Tryz.prog W a _ m rfl
  have hs3:∀ (a:Addr) (W:World) m,Sem.run Tryz.prog (store a d m) W=stored Tryz.prog W a d m:=fun a W m=>run_store Tryz.prog W a _ m hd
  have GW:=Lib.hid gW; have BW:=Lib.hid bW
  have d1:(er != 0)=true:=bne_iff_ne.2 her
  clear gW bW hF hO hp hd her
  have EW:=Lib.hid eW
  clear eW
  go_enter Tryz.func5,Tryz.ntmps5
  go_wp2_with fail
  rw [EW.out]
  refine OP.out.mono ?_
  rintro e w2 ⟨rfl,hb2⟩
  obtain ⟨V,eV,gV1,gV2,bV,hVs⟩:=alloc2 w2 (Obj.cells #[.int .i64 n,p,.bool mx,d,.func (.func f) #[] #[]] 42) (Obj.cells #[.slice po pn pc,.slice ao ak ac] 46)
  have BV:=Lib.hid (below_of hb2 bV)
  have FF:=Lib.hid (FT.out V BV.out)
  have G0:=Lib.hid (car BV.out GW.out)
  have hw2:W.heap.size≤w2.heap.size:=hb2.size
  have hz:W.heap.size≤V.heap.size:=BV.out.size
  have hw0:w.heap.size<W.heap.size:=hWs
  obtain ⟨x0,x1,x2,x3,x4⟩:=blk5o gV1
  obtain ⟨y0,y1,-,-,_⟩:=blk2 gV2
  clear hb2 gV1 gV2 bV
  go_wp2_with fail
  try rw [eV]
  refine FF.out.mono ?_
  rintro e w5 ⟨rfl,hb5⟩
  have B5:=Lib.hid (below_of BV.out hb5)
  have GC:=Lib.hid (car hb5 G0.out)
  have hz5:=hb5.size
  obtain ⟨s0,s1,s2,s3,_⟩:=blk2 GC.out
  clear hb5 x0 x1 x2 x3 x4 y0 y1
  go_wp2
  exact bodyPost_ret (results_bte rfl rfl rfl (set2_row _ _ GC.out)) rfl ⟨rfl,((below_of BW.out B5.out).setCell (Nat.le_refl _) _).setCell (Nat.le_refl _) _⟩
theorem flat_row {α:Type} {c:Nat} (row:Nat→List α) (hr:∀ k,(row k).length=c):∀ (n k i:Nat),k<n→i<c→((List.range n).flatMap row)[k*c+i]?=(row k)[i]?
  | 0,_,_,h,_=>absurd h (by omega)
  | n+1,k,i,h,hi=>by
    have hl:∀ n,((List.range n).flatMap row).length=n*c:=by
      intro n
      induction n with
      | zero=>simp
      | succ n ih=>rw [List.range_succ,List.flatMap_append,List.length_append,ih]; simp [hr,Nat.succ_mul]
    rw [List.range_succ,List.flatMap_append]
    by_cases hk:k<n
    · have hlt:k*c+i<n*c:=by
        have:(k+1)*c≤n*c:=Nat.mul_le_mul_right c hk
        rw [Nat.succ_mul] at this
        omega
      rw [List.getElem?_append_left (by rw [hl]; exact hlt)]
      exact flat_row row hr n k i hk hi
    · obtain rfl:k=n:=by omega
      rw [List.getElem?_append_right (by rw [hl]; omega),hl,Nat.add_sub_cancel_left]
      simp
theorem opRow_len (k:Nat):(opRow k).length=5:=by
  unfold opRow
  split<;>rfl
theorem opTab_none (k:Nat) (hk:k<41):opTab[k*5]?=some (.int .i64 0)∧opTab[k*5+1]?=some .nilFunc∧opTab[k*5+2]?=some (.bool false)∧opTab[k*5+3]?=some .nilFunc∧opTab[k*5+4]?=some .nilFunc:=by
  have hrow:opRow k=[.int .i64 0,.nilFunc,.bool false,.nilFunc,.nilFunc]:=by
    unfold opRow
    split<;>first | rfl | (exfalso; omega)
  have h:=fun i (hi:i<5)=>flat_row opRow opRow_len 68 k i (by omega) hi
  rw [hrow] at h
  unfold opTab
  simp only [List.getElem?_toArray]
  exact ⟨h 0 (by omega),h 1 (by omega),h 2 (by omega),h 3 (by omega),h 4 (by omega)⟩
def opZero:Value:=.agg #[.int .i64 0,.nilFunc,.bool false,.nilFunc,.nilFunc]
theorem operatorOf_low (k:Nat) (hk:k<41) (w:World) :
    Calls Tryz.prog 9 #[.int .i64 (k:Int)] w fun e w'=>e=.returned (.tuple #[opZero,.bool false])∧Below w.heap.size w w':=by
  unfold opZero
  obtain ⟨W,eW,gW,bW,hWs⟩:=alloc1 w (Obj.cells #[.int .i64 0,.nilFunc,.bool false,.nilFunc,.nilFunc] 42)
  have OP:=Lib.hid (operators_any W)
  have GW:Hid (W.heap[w.heap.size]?=_):=Lib.hid gW
  have BW:=Lib.hid bW
  have hT:=opTab_size
  have hsb:∀ (a:Addr) (W:World) m,Sem.run Tryz.prog (store a .nilFunc m) W=stored Tryz.prog W a .nilFunc m:=fun a W m=>run_store Tryz.prog W a _ m rfl
  have hbn:∀ W,Sem.run Tryz.prog (binOp BinOp.neq 40 Value.nilFunc Value.nilFunc) W=.ok (.bool false) W:=fun W=>by kernel_rfl
  have HT:=Lib.hid (opTab_none k hk)
  clear gW bW
  have EW:=Lib.hid eW
  clear eW
  go_enter Tryz.func9,Tryz.ntmps9
  go_wp2_with fail
  rw [EW.out]
  refine OP.out.mono ?_
  rintro e w1 ⟨rfl,hb1⟩
  have HB1:=Lib.hid hb1
  have G1:=Lib.hid ((hb1.block _ hWs).trans GW.out)
  clear hb1 OP
  go_wp2_with fail
  refine upon_storeBig (tab:=opTab) rfl opTab_list info_ops zero_ops opTab_one ?_
  obtain ⟨V,eV,gV,bV,hVs⟩:=alloc1 w1 (Obj.cells opTab 66)
  rw [eV]
  have hc:∀ j,V.cell? ⟨w1.heap.size,j,none⟩=opTab[j]?:=fun j=>cell_of_row V w1.heap.size j _ _ (0,0) gV
  have c0:=(hc _).trans HT.out.1; have c1:=(hc _).trans HT.out.2.1; have c2:=(hc _).trans HT.out.2.2.1; have c3:=(hc _).trans HT.out.2.2.2.1; have c4:=(hc _).trans HT.out.2.2.2.2
  obtain ⟨y0,y1,y2,y3,y4⟩:=blk5o (bV.block _ (by have:=HB1.out.size; omega) |>.trans G1.out)
  have G5:=Lib.hid (bV.block _ (by have:=HB1.out.size; omega) |>.trans G1.out)
  have fz:∀ i,V.frozen? ⟨w.heap.size,i,none⟩=false:=fun i=>frozen_of_row V w.heap.size i _ _ (bV.block _ (by have:=HB1.out.size; omega) |>.trans G1.out)
  have f0:=fz 0; have f1:=fz 1; have f2:=fz 2; have f3:=fz 3; have f4:=fz 4
  have BV:=Lib.hid (below_of BW.out (below_of HB1.out bV))
  have hl1:w.heap.size<w1.heap.size:=Nat.lt_of_lt_of_le hWs HB1.out.size
  have hn1:w1.heap.size≠w.heap.size:=by omega
  have hn2:w.heap.size≠w1.heap.size:=by omega
  clear hc fz
  go_wp2_with fail
  go_region_with fail
  all_goals
    go_wp2
    refine bodyPost_ret (v:=.tuple #[.agg #[.int .i64 0,.nilFunc,.bool false,.nilFunc,.nilFunc],.bool false]) ?_ rfl ⟨rfl, ?_⟩
    · exact results_op rfl rfl rfl (set5_row (.int .i64 0) .nilFunc (.bool false) .nilFunc .nilFunc G5.out)
    · exact (((((BV.out.setCell (Nat.le_refl _) _).setCell (Nat.le_refl _) _).setCell (Nat.le_refl _) _).setCell (Nat.le_refl _) _).setCell (Nat.le_refl _) _).drew
theorem operatorOf_out (kk:Int) (hk:kk<0∨68≤kk) (w:World) :
    Calls Tryz.prog 9 #[.int .i64 kk] w fun e w'=>e=.returned (.tuple #[opZero,.bool false])∧Below w.heap.size w w':=by
  unfold opZero
  obtain ⟨W,eW,gW,bW,hWs⟩:=alloc1 w (Obj.cells #[.int .i64 0,.nilFunc,.bool false,.nilFunc,.nilFunc] 42)
  have OP:=Lib.hid (operators_any W)
  have GW:Hid (W.heap[w.heap.size]?=_):=Lib.hid gW
  have BW:=Lib.hid bW
  have hT:=opTab_size
  have hsb:∀ (a:Addr) (W:World) m,Sem.run Tryz.prog (store a .nilFunc m) W=stored Tryz.prog W a .nilFunc m:=fun a W m=>run_store Tryz.prog W a _ m rfl
  clear gW bW
  have EW:=Lib.hid eW
  clear eW
  rcases hk with hk | hk
  all_goals
    go_enter Tryz.func9,Tryz.ntmps9
    go_wp2_with fail
    rw [EW.out]
    refine OP.out.mono ?_
    rintro e w1 ⟨rfl,hb1⟩
    have HB1:=Lib.hid hb1
    have G1:=Lib.hid ((hb1.block _ hWs).trans GW.out)
    clear hb1 OP
    go_wp2_with fail
    refine upon_storeBig (tab:=opTab) rfl opTab_list info_ops zero_ops opTab_one ?_
    obtain ⟨V,eV,gV,bV,hVs⟩:=alloc1 w1 (Obj.cells opTab 66)
    rw [eV]
    obtain ⟨y0,y1,y2,y3,y4⟩:=blk5o (bV.block _ (by have:=HB1.out.size; omega) |>.trans G1.out)
    have G5:=Lib.hid (bV.block _ (by have:=HB1.out.size; omega) |>.trans G1.out)
    have fz:∀ i,V.frozen? ⟨w.heap.size,i,none⟩=false:=fun i=>frozen_of_row V w.heap.size i _ _ (bV.block _ (by have:=HB1.out.size; omega) |>.trans G1.out)
    have f0:=fz 0; have f1:=fz 1; have f2:=fz 2; have f3:=fz 3; have f4:=fz 4
    have BV:=Lib.hid (below_of BW.out (below_of HB1.out bV))
    have hl1:w.heap.size<w1.heap.size:=Nat.lt_of_lt_of_le hWs HB1.out.size
    have hn1:w1.heap.size≠w.heap.size:=by omega
    have hn2:w.heap.size≠w1.heap.size:=by omega
    clear fz
    go_wp2
    refine bodyPost_ret (v:=.tuple #[.agg #[.int .i64 0,.nilFunc,.bool false,.nilFunc,.nilFunc],.bool false]) ?_ rfl ⟨rfl, ?_⟩
    · exact results_op rfl rfl rfl (set5_row (.int .i64 0) .nilFunc (.bool false) .nilFunc .nilFunc G5.out)
    · exact (((((BV.out.setCell (Nat.le_refl _) _).setCell (Nat.le_refl _) _).setCell (Nat.le_refl _) _).setCell (Nat.le_refl _) _).setCell (Nat.le_refl _) _)
theorem operatorOf_none (kk:Int) (hk:kk<41∨68≤kk) (w:World) :
    Calls Tryz.prog 9 #[.int .i64 kk] w fun e w'=>e=.returned (.tuple #[opZero,.bool false])∧Below w.heap.size w w':=by
  by_cases h:kk<0∨68≤kk
  · exact operatorOf_out kk h w
  · obtain ⟨k,rfl⟩:=Int.eq_ofNat_of_zero_le (show 0≤kk by omega)
    exact operatorOf_low k (by omega) w
theorem apply_none (kk:Int) (hk:kk<41∨68≤kk) (pv av:Value) (w:World) (hpv:∃ po pn pc,pv=.slice po pn pc) (hav:∃ ao ak ac,av=.slice ao ak ac) :
    Calls Tryz.prog 5 #[.int .i64 kk,pv,av] w fun e w'=>e=.returned (.tuple #[BvE,.int .i64 50])∧Below w.heap.size w w':=by
  obtain ⟨po,pn,pc,rfl⟩:=hpv
  obtain ⟨ao,ak,ac,rfl⟩:=hav
  obtain ⟨W,eW,gW,bW,hWs⟩:=alloc1n w (Obj.cells #[.int .i64 0,.slice none 0 0] 28)
  have OP:=Lib.hid (operatorOf_none kk hk W)
  have hs1:∀ (a:Addr) (W:World) m,Sem.run Tryz.prog (store a .nilFunc m) W=stored Tryz.prog W a .nilFunc m:=fun a W m=>run_store Tryz.prog W a _ m rfl
  have GW:=Lib.hid gW; have BW:=Lib.hid bW
  clear gW bW hk
  have EW:=Lib.hid eW
  clear eW
  unfold opZero at OP
  go_enter Tryz.func5,Tryz.ntmps5
  go_wp2_with fail
  rw [EW.out]
  refine OP.out.mono ?_
  rintro e w2 ⟨rfl,hb2⟩
  have B2:=Lib.hid hb2
  have G0:=Lib.hid (car hb2 GW.out)
  have hw2:W.heap.size≤w2.heap.size:=hb2.size
  have hw0:w.heap.size<W.heap.size:=hWs
  obtain ⟨s0,s1,s2,s3,_⟩:=blk2 G0.out
  obtain ⟨V,eV,gV1,bV,hVs⟩:=alloc1n w2 (Obj.cells #[.int .i64 0,.nilFunc,.bool false,.nilFunc,.nilFunc] 42)
  have EV:=Lib.hid eV
  have GC:=Lib.hid (car bV G0.out)
  have BV:=Lib.hid (below_of BW.out (below_of hb2 bV))
  obtain ⟨s0',s1',s2',s3',_⟩:=blk2 GC.out
  clear hb2 gV1 bV eV
  go_upto_region 2 with fail
  try rw [EV.out]
  go_wp2
  exact bodyPost_ret (results_bte rfl rfl rfl (set2_row _ _ GC.out)) rfl ⟨rfl,(BV.out.setCell (Nat.le_refl _) _).setCell (Nat.le_refl _) _⟩
end Go.Proofs.YtacbkpenohcgjaaGreat
namespace Go.Proofs.YtacbkpenohcgjaaGreat
open Go.RowKit Mth
def compZ (m n:Nat):Int:=if m=n then 1 else 0
theorem comp_is (pv av:Value) (wd m n:Nat) (w:World) (hp:∃ po pn pc,pv=.slice po pn pc) (h:BvL w av [(wd,m),(wd,n)]) :
    Calls Tryz.prog 68 #[.agg #[pv,av]] w fun e w'=>∃ v',e=.returned v'∧IntV w' v' (compZ m n)∧Below w.heap.size w w':=by
  obtain ⟨po,pn,pc,rfl⟩:=hp
  obtain ⟨ao,cap,rfl⟩:=h.shape
  obtain ⟨W,eW,g1,g2,bel,hsz⟩:=alloc2 w (Obj.cells #[.slice po pn pc,.slice ao 2 cap] 46) (Obj.cells #[.bool false,.slice none 0 0] 50)
  have HW:=h.below bel
  have UU:Hid (∀ w1,Below W.heap.size W w1→Calls Tryz.prog 85 #[.agg #[.slice po pn pc,.slice ao 2 cap]] w1 fun e w'=>∃ v',e=.returned v'∧IntV w' v' (m:Int)∧Below w1.heap.size w1 w'):=Lib.hid (fun w1 hw=>op_u _ _ _ wd m w1 ⟨_,_,_,rfl⟩ (HW.below hw) rfl)
  have VV:Hid (∀ w1,Below W.heap.size W w1→Calls Tryz.prog 116 #[.agg #[.slice po pn pc,.slice ao 2 cap]] w1 fun e w'=>∃ v',e=.returned v'∧IntV w' v' (n:Int)∧Below w1.heap.size w1 w'):=Lib.hid (fun w1 hw=>op_v _ _ _ 1 wd n w1 ⟨_,_,_,rfl⟩ (HW.below hw) rfl (by omega) rfl)
  have CM:Hid (∀ va vb w1,IntV w1 va (m:Int)→IntV w1 vb (n:Int)→Calls Tryz.prog 53 #[va,vb] w1 fun e w'=>e=.returned (.int .i64 (zcmp (m:Int) n))∧Below w1.heap.size w1 w'):=Lib.hid (fun va vb w1 hx hy=>cmpF va vb _ _ _ w1 hx hy rfl)
  have OF:Hid (∀ w1,Calls Tryz.prog 107 #[.int .i64 (compZ m n)] w1 fun e w'=>Res0 w1 w' e (compZ m n)):=Lib.hid (fun w1=>ofF _ w1 (by unfold compZ; split<;>omega) (by unfold compZ; split<;>omega))
  have HZ:Hid ((zcmp (m:Int) n=0∧compZ m n=1)∨(zcmp (m:Int) n≠0∧compZ m n=0)):=Lib.hid (by
    unfold zcmp compZ
    by_cases e:m=n
    · left; rw [if_neg (by omega),if_neg (by omega),if_pos e]; exact ⟨rfl,rfl⟩
    · right
      rw [if_neg e]
      refine ⟨?_,rfl⟩
      split
      · omega
      · rw [if_pos (by omega)]; omega)
  generalize zcmp (m:Int) n=o at *
  generalize compZ m n=z at *
  have G1:=Lib.hid g1; have G2:=Lib.hid g2; have BL:=Lib.hid bel
  have hWs:w.heap.size+1<W.heap.size:=by rw [← eW]; simp
  have STAY:Hid (∀ w',Below W.heap.size W w'→w'.cell? ⟨w.heap.size,0,none⟩=some (.slice po pn pc)∧w'.cell? ⟨w.heap.size,1,none⟩=some (.slice ao 2 cap)):=Lib.hid (fun w' hb=>by
    obtain ⟨e0,e1,-,-,_⟩:=blk2 (car hb G1.out)
    exact ⟨e0,e1⟩)
  have hk0:=Below.refl W.heap.size W
  clear h g1 g2 bel HW
  have HZ':=HZ.out
  rcases HZ' with ⟨rfl,rfl⟩ | ⟨ho,rfl⟩
  rotate_left
  have do1:(o == 0)=false:=beq_eq_false_iff_ne.2 ho
  clear ho
  all_goals
    clear HZ
    go_enter Tryz.func68,Tryz.ntmps68
    go_upto_region 1 with fail
    try rw [eW]
    go_region_held3 (fun w'=>w'.cell? ⟨w.heap.size,0,none⟩=some (.slice po pn pc)∧w'.cell? ⟨w.heap.size,1,none⟩=some (.slice ao 2 cap))
      ((refine STAY.out _ ?_; first | exact hk3 | exact hk3.drew | exact hk2 | exact hk2.drew | exact hk1 | exact hk1.drew | exact hk0 | exact hk0.drew))
      (first
      | (have tk:=I2; go_at_call 53; (with_reducible refine Calls.mono (CM.out _ _ _ ?_ ?_) ?_); (first | exact I1'.out | exact I1'.out.below (Below.refl _ _).drew); (first | exact I2.out | exact I2.out.below (Below.refl _ _).drew); rintro e w3 ⟨rfl,hb3⟩; have hk3:Below W.heap.size W w3:=(by first | exact below_of hk2 hb3 | exact below_of hk2.drew hb3); clear hb3)
      | (have tk:=I1; go_at_call 116; (with_reducible refine Calls.mono (VV.out _ (by first | exact hk1 | exact hk1.drew)) ?_); rintro e w2 ⟨v2,rfl,hi2,hb2⟩; have hk2:Below W.heap.size W w2:=(by first | exact below_of hk1 hb2 | exact below_of hk1.drew hb2); have I2:=Lib.hid hi2; have I1':=Lib.hid (show IntV w2 _ _ from (by first | exact I1.out.below hb2 | exact I1.out.below (bel_d hb2))); obtain ⟨n2,a2,k2,k2',rfl⟩:=hi2.shape; clear hi2 hb2)
      | (go_at_call 85; (with_reducible refine Calls.mono (UU.out _ (by first | exact hk0 | exact hk0.drew)) ?_); rintro e w1 ⟨v1,rfl,hi1,hb1⟩; have hk1:Below W.heap.size W w1:=(by first | exact below_of hk0 hb1 | exact below_of hk0.drew hb1); have I1:=Lib.hid hi1; obtain ⟨n1,a1,k1,k1',rfl⟩:=hi1.shape; clear hi1 hb1))
    go_wp2_with fail
    refine (OF.out _).mono ?_
    rintro e w4 ⟨n4,a4,k4,k4',rfl,hr4,hb4⟩
    have hk4:Below W.heap.size W w4:=(by first | exact below_of hk3 hb4 | exact below_of hk3.drew hb4)
    have H4:=Lib.hid hr4.2
    have B4:=Lib.hid (below_of BL.out hk4)
    have G4:=Lib.hid (car hk4 G2.out)
    obtain ⟨q0,q1,r0,r1,_⟩:=blk2 G4.out
    clear hr4 hb4
    go_wp2
    exact bodyPost_ret (results_it rfl rfl (set2_row _ _ G4.out)) rfl ⟨_,rfl,H4.out.far G4.out,(B4.out.setCell (by show w.heap.size≤w.heap.size+1; omega) _).setCell (by show w.heap.size≤w.heap.size+1; omega) _⟩
theorem one_any (pv av:Value) (w:World) (hp:∃ po pn pc,pv=.slice po pn pc) (h:∃ ao ak ac,av=.slice ao ak ac):Calls Tryz.prog 67 #[.agg #[pv,av]] w fun e w'=>e=.returned (.int .i64 1)∧Below w.heap.size w w':=by
  obtain ⟨po,pn,pc,rfl⟩:=hp
  obtain ⟨ao,ak,ac,rfl⟩:=h
  go_enter Tryz.func67,Tryz.ntmps67
  go_wp2
  go_ret
  first | exact ⟨rfl,Below.refl _ _⟩ | exact ⟨rfl,(Below.refl _ _).alloc (Nat.le_refl _) _⟩
end Go.Proofs.YtacbkpenohcgjaaGreat
namespace Go.Proofs.YtacbkpenohcgjaaGreat
open Go.RowKit Mth
theorem BvA.below {w w':World} {v:Value} {x:Int} {xs:List Nat} (h:BvA w v x xs) (hb:Below w.heap.size w w'):BvA w' v x xs:=by
  obtain ⟨u,h0,h1,h2⟩:=h; exact ⟨u,h0,h1.below hb,h2⟩
theorem BvA.right {w:World} {v:Value} {x:Int} {xs:List Nat} (h:BvA w v x xs):Calls Tryz.prog 52 #[v] w fun e w'=>e=.returned (.bool (rightF x (val B64 xs)))∧Below w.heap.size w w':=by
  obtain ⟨u,rfl,h1,h2,h3⟩:=h; exact right_any x u xs w h1 h2
theorem BvA.v {w:World} {v:Value} {wd:Nat} {xs:List Nat} (h:BvA w v (wd:Int) xs):BvV w v wd (val B64 xs):=by
  obtain ⟨u,rfl,h1,h2,h3⟩:=h; exact ⟨u,xs,rfl,h1,h2,h3,rfl⟩
theorem comp_op (w:World):Calls Tryz.prog 9 #[.int .i64 51] w fun e w'=>e=.returned (.tuple #[.agg #[.int .i64 2,.nilFunc,.bool false,.func (.func 67) #[] #[],.func (.func 68) #[] #[]],.bool true])∧Below w.heap.size w w' :=
  operatorOf_at 51 (by omega) 2 .nilFunc (.func (.func 67) #[] #[]) false 68 rfl rfl (by kernel_rfl) (by kernel_rfl) (by kernel_rfl) (by kernel_rfl) (by kernel_rfl) w
theorem one_enters:∀ args W,(callFunc 67 args).run Tryz.prog W=.ok (.enter 67 args) W:=fun args W=>enters_of Tryz.func67 (by kernel_rfl) rfl args W
theorem comp_enters:∀ args W,(callFunc 68 args).run Tryz.prog W=.ok (.enter 68 args) W:=fun args W=>enters_of Tryz.func68 (by kernel_rfl) rfl args W
theorem apply_comp (pv av:Value) (wd m n:Nat) (h1:1≤wd) (h2:wd≤4096) (hm:m<2 ^ wd) (hn:n<2 ^ wd) (w:World) (hp:∃ po pn pc,pv=.slice po pn pc) (h:BvL w av [(wd,m),(wd,n)]) :
    Calls Tryz.prog 5 #[.int .i64 51,pv,av] w fun e w'=>∃ v',e=.returned (.tuple #[v',.int .i64 0])∧BvO w' w.heap.size v' 1 (vecN 1 (compZ m n))∧Below w.heap.size w w':=by
  have hff:∀ p∈[(wd,m),(wd,n)],FineV p:=fun p hp=>by
    simp only [List.mem_cons,List.not_mem_nil,or_false] at hp
    rcases hp with rfl | rfl
    · exact ⟨h1,h2,hm⟩
    · exact ⟨h1,h2,hn⟩
  obtain ⟨ao,cap,hav⟩:=h.shape
  have hsh:∃ ao ak ac,av=.slice ao ak ac:=⟨_,_,_,hav⟩
  have hWO:∀ w1,Below w.heap.size w w1→Calls Tryz.prog 12 #[.agg #[.int .i64 2,.nilFunc,.bool false,.func (.func 67) #[] #[],.func (.func 68) #[] #[]],.agg #[pv,av]] w1 fun e w'=>e=.returned (.int .i64 ((1:Nat):Int))∧Below w1.heap.size w1 w':=fun w1 _ =>
    widthOf_fn 2 1 .nilFunc false 67 68 rfl pv av w1 hp hsh one_enters (fun w2 _=>one_any pv av w2 hp hsh)
  refine apply_gen 51 2 .nilFunc (.func (.func 67) #[] #[]) false 68 rfl rfl comp_enters pv av 1 (compZ m n) (by omega) (by omega) w hp hsh comp_op (fun w1 hw=>?_) hWO (fun w1 hw=>comp_is pv av wd m n w1 hp (h.below hw))
  exact fault_n_0 2 _ 68 rfl pv av w1 hp ao 2 cap hav rfl (fun w2 hw2=>areRight_fine av _ w2 ((h.below hw).below hw2) hff (by simp)) wd wd m n (fun w2 hw2=>first_any pv av _ wd m w2 hp ((h.below hw).below hw2) rfl) (fun w2 hw2=>last_any pv av _ 1 wd n w2 hp ((h.below hw).below hw2) rfl (by omega) rfl) rfl 1 rfl (fun w2 hw2=>hWO w2 (below_of hw hw2))
end Go.Proofs.YtacbkpenohcgjaaGreat
