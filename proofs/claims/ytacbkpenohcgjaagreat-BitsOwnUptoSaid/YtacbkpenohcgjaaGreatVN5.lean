import Derived.Test.YtacbkpenohcgjaaGreatVN3
import Derived.Test.YtacbkpenohcgjaaGreatVN4
set_option linter.unusedVariables false
set_option linter.unusedSimpArgs false
set_option maxHeartbeats 8000000
set_option maxRecDepth 100000
namespace Go.Proofs.YtacbkpenohcgjaaGreat
open Go.RowKit Mth
theorem holds_slt (va vb:Value) (wd m n:Nat) (h1:1≤wd) (h2:wd≤4096) (hm:m<2 ^ wd) (hn:n<2 ^ wd) (w:World) (ha:BvV w va wd m) (hb:BvV w vb wd n) :
    Calls Tryz.prog 22 #[.int .i64 72,va,vb] w fun e w'=>e=.returned (.tuple #[.bool (decide (sgV wd m<sgV wd n)),.int .i64 0])∧Below w.heap.size w w':=by
  have HA:=Lib.hid ha; have HB:=Lib.hid hb
  obtain ⟨u1,xs,rfl,s1,l1,b1,v1⟩:=ha
  obtain ⟨u2,ys,rfl,s2,l2,b2,v2⟩:=hb
  have R1:Hid (∀ w1,Below w.heap.size w w1→Calls Tryz.prog 52 #[.agg #[.int .i64 (wd:Int),u1]] w1 fun e w'=>e=.returned (.bool true)∧Below w1.heap.size w1 w'):=Lib.hid (fun w1 hw=>by
    have h:=right_any (wd:Int) u1 xs w1 (s1.below hw) l1
    rw [v1,right_fine h1 h2 hm] at h
    exact h)
  have R2:Hid (∀ w1,Below w.heap.size w w1→Calls Tryz.prog 52 #[.agg #[.int .i64 (wd:Int),u2]] w1 fun e w'=>e=.returned (.bool true)∧Below w1.heap.size w1 w'):=Lib.hid (fun w1 hw=>by
    have h:=right_any (wd:Int) u2 ys w1 (s2.below hw) l2
    rw [v2,right_fine h1 h2 hn] at h
    exact h)
  obtain ⟨a1,c1,rfl⟩:=s1.shape
  obtain ⟨a2,c2,rfl⟩:=s2.shape
  generalize xs.length=k1 at *
  generalize ys.length=k2 at *
  obtain ⟨W,eW,g1,g2,bel,hsz⟩:=alloc2 w (Obj.cells #[.int .i64 (wd:Int),.slice a1 k1 c1] 28) (Obj.cells #[.int .i64 (wd:Int),.slice a2 k2 c2] 28)
  have OP:Hid (Calls Tryz.prog 51 #[.int .i64 72] W fun e w'=>e=.returned (.tuple #[.agg #[.func (.func 130) #[] #[],.func (.func 134) #[] #[]],.bool true])∧Below W.heap.size W w'):=Lib.hid (orderOf_at 72 (by omega) 130 134 (by kernel_rfl) (by kernel_rfl) W)
  have hs1:∀ (a:Addr) (W:World) m,Sem.run Tryz.prog (store a (.func (.func 130) #[] #[]) m) W=stored Tryz.prog W a (.func (.func 130) #[] #[]) m:=fun a W m=>run_store Tryz.prog W a _ m rfl
  have hs2:∀ (a:Addr) (W:World) m,Sem.run Tryz.prog (store a (.func (.func 134) #[] #[]) m) W=stored Tryz.prog W a (.func (.func 134) #[] #[]) m:=fun a W m=>run_store Tryz.prog W a _ m rfl
  have G1:=Lib.hid g1; have G2:=Lib.hid g2; have BL:=Lib.hid bel
  have d0:((wd:Int) != (wd:Int))=false:=by simp
  have N1:Hid (∀ w1,Below w.heap.size w w1→Calls Tryz.prog 130 #[.agg #[.int .i64 (wd:Int),.slice a1 k1 c1]] w1 fun e w'=>∃ v',e=.returned v'∧IntV w' v' (sgV wd m)∧Below w1.heap.size w1 w'):=Lib.hid (fun w1 hw=>signed_any _ wd m h1 h2 hm w1 (HA.out.below hw))
  have N2:Hid (∀ w1,Below w.heap.size w w1→Calls Tryz.prog 130 #[.agg #[.int .i64 (wd:Int),.slice a2 k2 c2]] w1 fun e w'=>∃ v',e=.returned v'∧IntV w' v' (sgV wd n)∧Below w1.heap.size w1 w'):=Lib.hid (fun w1 hw=>signed_any _ wd n h1 h2 hn w1 (HB.out.below hw))
  generalize sgV wd m=X at *
  generalize sgV wd n=Y at *
  have CM:Hid (∀ va vb w1,IntV w1 va X→IntV w1 vb Y→Calls Tryz.prog 53 #[va,vb] w1 fun e w'=>e=.returned (.int .i64 (zcmp X Y))∧Below w1.heap.size w1 w'):=Lib.hid (fun va vb w1 hx hy=>cmpF va vb X Y _ w1 hx hy rfl)
  have TS:Hid (∀ w1,Calls Tryz.prog 134 #[.int .i64 (zcmp X Y)] w1 fun e w'=>e=.returned (.bool (decide (X<Y)))∧w'=w1):=Lib.hid (fun w1=>isBelow_any X Y w1)
  generalize zcmp X Y=o at *
  generalize (decide (X<Y))=B at *
  clear s1 l1 b1 v1 s2 l2 b2 v2 g1 g2 bel hm hn HA HB
  go_enter Tryz.func22,Tryz.ntmps22
  go_wp2_with fail
  try rw [eW]
  refine OP.out.mono ?_
  rintro e w2 ⟨rfl,hb2⟩
  obtain ⟨V,eV,gV,bV,hVs⟩:=alloc1n w2 (Obj.cells #[.func (.func 130) #[] #[],.func (.func 134) #[] #[]] 96)
  have BV:=Lib.hid (below_of (below_of BL.out hb2) bV)
  have H1:=Lib.hid (car bV (car hb2 G1.out)); have H2:=Lib.hid (car bV (car hb2 G2.out)); have H0:=Lib.hid gV
  obtain ⟨p0,p1,-,-,_⟩:=blk2 H1.out
  obtain ⟨q0,q1,-,-,_⟩:=blk2 H2.out
  clear hb2 bV gV
  go_upto_region 2 with fail
  try rw [eV]
  go_wp2_with fail
  refine (R1.out _ BV.out).mono ?_
  rintro e w3 ⟨rfl,hb3⟩
  have B3:=Lib.hid (below_of BV.out hb3)
  have H31:=Lib.hid (car hb3 H1.out); have H32:=Lib.hid (car hb3 H2.out); have H30:=Lib.hid (car hb3 H0.out)
  obtain ⟨p0',p1',-,-,_⟩:=blk2 H31.out
  obtain ⟨q0',q1',-,-,_⟩:=blk2 H32.out
  clear hb3 p0 p1 q0 q1
  go_wp2_with fail
  refine (R2.out _ B3.out).mono ?_
  rintro e w4 ⟨rfl,hb4⟩
  have B4:=Lib.hid (below_of B3.out hb4)
  have H41:=Lib.hid (car hb4 H31.out); have H42:=Lib.hid (car hb4 H32.out); have H40:=Lib.hid (car hb4 H30.out)
  obtain ⟨p0,p1,-,-,_⟩:=blk2 H41.out
  obtain ⟨q0,q1,-,-,_⟩:=blk2 H42.out
  clear hb4 p0' p1' q0' q1'
  go_upto_region 8 with fail
  obtain ⟨x0,x1,-,-,_⟩:=blk2 H40.out
  have STAY:Hid (∀ w',Below w4.heap.size w4 w'→w'.cell? ⟨w.heap.size,0,none⟩=some (.int .i64 (wd:Int))∧w'.cell? ⟨w.heap.size,1,none⟩=some (.slice a1 k1 c1)∧w'.cell? ⟨w.heap.size+1,0,none⟩=some (.int .i64 (wd:Int))∧w'.cell? ⟨w.heap.size+1,1,none⟩=some (.slice a2 k2 c2)∧w'.cell? ⟨w2.heap.size,0,none⟩=some (.func (.func 130) #[] #[])∧w'.cell? ⟨w2.heap.size,1,none⟩=some (.func (.func 134) #[] #[])∧Below w4.heap.size w4 w'):=Lib.hid (fun w' hb=>by
    obtain ⟨e0,e1,-,-,_⟩:=blk2 (car hb H41.out)
    obtain ⟨e2,e3,-,-,_⟩:=blk2 (car hb H42.out)
    obtain ⟨e4,e5,-,-,_⟩:=blk2 (car hb H40.out)
    exact ⟨e0,e1,e2,e3,e4,e5,hb⟩)
  have hB0:=Below.refl w4.heap.size w4
  clear p0 p1 q0 q1 x0 x1
  go_region_held3 (fun w'=>w'.cell? ⟨w.heap.size,0,none⟩=some (.int .i64 (wd:Int))∧w'.cell? ⟨w.heap.size,1,none⟩=some (.slice a1 k1 c1)∧w'.cell? ⟨w.heap.size+1,0,none⟩=some (.int .i64 (wd:Int))∧w'.cell? ⟨w.heap.size+1,1,none⟩=some (.slice a2 k2 c2)∧w'.cell? ⟨w2.heap.size,0,none⟩=some (.func (.func 130) #[] #[])∧w'.cell? ⟨w2.heap.size,1,none⟩=some (.func (.func 134) #[] #[])∧Below w4.heap.size w4 w')
    (((try go_split_ands); refine STAY.out _ ?_; repeat (first | (with_reducible assumption) | (with_reducible exact Below.refl _ _) | (with_reducible refine Below.drew ?_))))
    (first
    | (have tk:=T3; go_at_call 134; (with_reducible refine Calls.mono (TS.out _) ?_); rintro e w8 ⟨rfl,rfl⟩)
    | (have tk:=I6; go_at_call 53; (with_reducible refine Calls.mono (CM.out _ _ _ ?_ ?_) ?_); (first | exact I5'.out | exact I5'.out.below (Below.refl _ _).drew); (first | exact I6.out | exact I6.out.below (Below.refl _ _).drew); rintro e w7 ⟨rfl,hb7⟩; have hk7:Below w4.heap.size w4 w7:=(by first | exact below_to9 hb7 hk6 | exact below_to9 hb7 hk6.drew); have T3:True:=trivial; clear hb7)
    | (have tk:=I5; go_at_call 130; (with_reducible refine Calls.mono (N2.out _ (below_of B4.out (by first | exact hk5 | exact hk5.drew))) ?_); rintro e w6 ⟨v6,rfl,hi6,hb6⟩; have hk6:Below w4.heap.size w4 w6:=(by first | exact below_to9 hb6 hk5 | exact below_to9 hb6 hk5.drew); have I6:=Lib.hid hi6; have I5':=Lib.hid (show IntV w6 _ _ from (by first | exact I5.out.below hb6 | exact I5.out.below (bel_d hb6))); obtain ⟨n6,a6,k6,k6',rfl⟩:=hi6.shape; clear hi6 hb6)
    | (go_at_call 130; (with_reducible refine Calls.mono (N1.out _ (below_of B4.out (by first | exact Below.refl _ _ | exact (Below.refl _ _).drew))) ?_); rintro e w5 ⟨v5,rfl,hi5,hb5⟩; have hk5:Below w4.heap.size w4 w5:=(by first | exact below_to9 hb5 hB0 | exact below_to9 hb5 hB0.drew); have I5:=Lib.hid hi5; obtain ⟨n5,a5,k5,k5',rfl⟩:=hi5.shape; clear hi5 hb5))
  all_goals
    go_wp2
    go_ret2
    exact ⟨rfl,below_of B4.out (by first | exact hk7 | exact hk7.drew)⟩
end Go.Proofs.YtacbkpenohcgjaaGreat
namespace Go.Proofs.YtacbkpenohcgjaaGreat
open Go.RowKit Mth
def Res4 (w w':World) (e:Ending) (n:Nat):Prop:=∃ a k c,e=.returned (.agg #[.int .i64 4,.slice a k c])∧BvK w' 4 a k c n∧Below w.heap.size w w'
theorem b9_7 (w:World):Calls Tryz.prog 21 #[.int .i64 4,.int .u64 7] w fun e w'=>Res4 w w' e 7:=b9 4 7 (by omega) (by omega) (by unfold B64; omega) w
theorem b9_8 (w:World):Calls Tryz.prog 21 #[.int .i64 4,.int .u64 8] w fun e w'=>Res4 w w' e 8:=b9 4 8 (by omega) (by omega) (by unfold B64; omega) w
theorem b9_12 (w:World):Calls Tryz.prog 21 #[.int .i64 4,.int .u64 12] w fun e w'=>Res4 w w' e 12:=b9 4 12 (by omega) (by omega) (by unfold B64; omega) w
theorem add_4 (w:World) (av:Value) (h:BvL w av [(4,7),(4,12)]):Calls Tryz.prog 5 #[.int .i64 52,.slice none 0 0,av] w fun e w'=>∃ a k c,e=.returned (.tuple #[.agg #[.int .i64 4,.slice a k c],.int .i64 0])∧BvK w' 4 a k c 3∧Below w.heap.size w w' :=
  resBE_of (wd:=4) (n:=vecN 4 (((7:Nat):Int)+((12:Nat):Int))) (vec_lt _ _) (by omega) (apply_add _ av 4 7 12 (by omega) (by omega) (by decide) (by decide) w ⟨_,_,_,rfl⟩ h)
theorem slt_4 (w:World) (a a':Option Addr) (k c k' c':Nat) (h:BvK w 4 a k c 8) (h':BvK w 4 a' k' c' 7):Calls Tryz.prog 22 #[.int .i64 72,.agg #[.int .i64 4,.slice a k c],.agg #[.int .i64 4,.slice a' k' c']] w fun e w'=>e=.returned (.tuple #[.bool true,.int .i64 0])∧Below w.heap.size w w':=by
  have hh:=holds_slt _ _ 4 8 7 (by omega) (by omega) (by decide) (by decide) w h.x h'.x
  rw [show decide (sgV 4 8<sgV 4 7)=true by decide] at hh
  exact hh
theorem lit_3 {w:World} {g:Nat} (h:w.heap[g]?=some (.cells #[.int .u64 3] 37 (0,0))):BvK w 4 (some ⟨g,0,none⟩) 1 1 3 :=
  ⟨[3],rfl,⟨_,1,rfl,Nat.le_refl _,by unfold maxLen; omega,by simp,(fun e=>by cases e),fun _=>⟨g,0,rfl,(Array.getElem?_eq_some_iff.1 h).1,fun j hj=>by
    obtain rfl:j=0:=by simpa using hj
    rw [cell_of_row _ _ _ _ _ (0,0) h]; rfl⟩⟩,(fun j=>by
    match j with
    | 0=>show 3<B64; unfold B64; omega
    | j+1=>show 0<B64; unfold B64; omega),by unfold Top; decide,by simp [val],by decide,by omega⟩
theorem same_4 (w:World) (a a':Option Addr) (k c k' c':Nat) (h:BvK w 4 a k c 3) (h':BvK w 4 a' k' c' 3):Calls Tryz.prog 7 #[.agg #[.int .i64 4,.slice a k c],.agg #[.int .i64 4,.slice a' k' c']] w fun e w'=>e=.returned (.bool true)∧Below w.heap.size w w':=sameT h h' rfl
theorem alive9 (w:World):Calls Tryz.prog 8 #[] w fun e w'=>e=.returned (.bool true)∧Below w.heap.size w w':=by
  go_enter Tryz.func8,Tryz.ntmps8
  go_wp2_with fail
  refine (b9_7 w).mono ?_
  rintro e w1 ⟨a1,k1,c1,rfl,hk1,hb1⟩
  go_wp2_with fail
  refine (b9_12 w1).mono ?_
  rintro e w2 ⟨a2,k2,c2,rfl,hk2,hb2⟩
  obtain ⟨V,eV,gV,bV,hVs⟩:=alloc1n w2 (Obj.cells #[.int .i64 4,.slice a1 k1 c1,.int .i64 4,.slice a2 k2 c2] 28)
  have AP:=Lib.hid (add_4 V _ (bvl_two (wd1:=4) (wd2:=4) gV ((hk1.below hb2).below bV) (hk2.below bV)))
  have BV:=Lib.hid (below_of hb1 (below_of hb2 bV))
  clear hk1 hk2 hb1 hb2 gV bV
  go_wp2_with fail
  try rw [eV]
  refine AP.out.mono ?_
  rintro e w3 ⟨a3,k3,c3,rfl,hk3,hb3⟩
  obtain ⟨V3,eV3,gV3,bV3,hVs3⟩:=alloc1n w3 (Obj.cells #[.int .i64 4,.slice a3 k3 c3] 28)
  have K3:=Lib.hid (hk3.below bV3)
  have B3:=Lib.hid (below_of BV.out (below_of hb3 bV3))
  have G3:=Lib.hid gV3
  clear hk3 hb3 gV3 bV3
  go_upto_region 2 with fail
  try rw [eV3]
  go_wp2_with fail
  refine (b9_8 V3).mono ?_
  rintro e w4 ⟨a4,k4,c4,rfl,hk4,hb4⟩
  go_wp2_with fail
  refine (b9_7 w4).mono ?_
  rintro e w5 ⟨a5,k5,c5,rfl,hk5,hb5⟩
  have SL:=Lib.hid (slt_4 w5 a4 a5 k4 c4 k5 c5 (hk4.below hb5) hk5)
  have K5:=Lib.hid ((K3.out.below hb4).below hb5)
  have G5:=Lib.hid (car hb5 (car hb4 G3.out))
  have B5:=Lib.hid (below_of B3.out (below_of hb4 hb5))
  clear hk4 hk5 hb4 hb5
  go_wp2_with fail
  refine SL.out.mono ?_
  rintro e w6 ⟨rfl,hb6⟩
  obtain ⟨V6,eV6,gV6,bV6,hVs6⟩:=alloc1n w6 (Obj.cells #[.int .u64 3] 37)
  have SM:=Lib.hid (same_4 V6 a3 _ k3 c3 1 1 ((K5.out.below hb6).below bV6) (lit_3 gV6))
  obtain ⟨p0,p1,-,-,_⟩:=blk2 (car hb6 G5.out)
  have B6:=Lib.hid (below_of B5.out (below_of hb6 bV6))
  clear hb6 gV6 bV6
  go_wp2_with fail
  try rw [eV6]
  refine SM.out.mono ?_
  rintro e w7 ⟨rfl,hb7⟩
  have B7:=Lib.hid (below_of B6.out hb7)
  clear hb7
  go_wp2
  go_ret
  exact ⟨rfl,B7.out⟩
end Go.Proofs.YtacbkpenohcgjaaGreat
