import Derived.Test.YtacbkpenohcgjaaGreatVZ2
set_option linter.unusedVariables false
set_option linter.unusedSimpArgs false
set_option maxHeartbeats 4000000
set_option maxRecDepth 100000
namespace Go.Proofs.YtacbkpenohcgjaaGreat
open Go.RowKit Mth
theorem Num.zero {w:World} {n k c:Nat} {ao:Option Addr} (h:Num w (.slice ao k c) n):k=0↔n=0:=by
  obtain ⟨xs,h1,h2,h3,h4⟩:=h
  obtain ⟨ao',c',e,_⟩:=h1
  simp only [Value.slice.injEq] at e
  obtain ⟨_,rfl,_⟩:=e
  rw [← h4,← nil_iff,trimL_of_top h3]
theorem NuV.parts {w:World} {ao:Option Addr} {k c:Nat} {b:Bool} {z:Int} (h:NuV w (.agg #[.slice ao k c,.bool b]) z):b=sgn z∧(k=0↔z=0)∧Num w (.slice ao k c) z.natAbs:=by
  obtain ⟨u,e,h1⟩:=h
  simp only [Value.agg.injEq,Array.mk.injEq,List.cons.injEq,Value.bool.injEq,and_true] at e
  obtain ⟨rfl,rfl⟩:=e
  have:=h1.zero
  exact ⟨rfl,by rw [this]; omega,h1⟩
theorem neg_bit {k:Nat} {z:Int} (h:k=0↔z=0):(!sgn z&&!((k:Int) == 0))=sgn (-z):=by
  by_cases hz:z=0
  · have hk:=h.2 hz
    subst hz hk; rfl
  · have:((k:Int) == 0)=false:=by rw [beq_eq_false_iff_ne]; intro e; exact hz (h.1 (by omega))
    rw [this]
    by_cases hn:z<0
    · rw [sgn_neg hn,sgn_pos (by omega)]; rfl
    · rw [sgn_pos (by omega),sgn_neg (by omega)]; rfl
theorem NuV.neg {w:World} {ao:Option Addr} {k c:Nat} {b:Bool} {z:Int} (h:NuV w (.agg #[.slice ao k c,.bool b]) z):NuV w (.agg #[.slice ao k c,.bool (sgn (-z))]) (-z):=by
  obtain ⟨_,_,h3⟩:=h.parts
  exact ⟨_,rfl,by rw [Int.natAbs_neg]; exact h3⟩
theorem turned_is (ao:Option Addr) (k c:Nat) (z:Int) (w:World) (hz:k=0↔z=0):Calls Tryz.prog 147 #[.agg #[.slice ao k c,.bool (sgn z)]] w fun e w'=>e=.returned (.agg #[.slice ao k c,.bool (sgn (-z))])∧Below w.heap.size w w':=by
  have E:=Lib.hid (neg_bit hz)
  clear hz
  go_enter Tryz.func147,Tryz.ntmps147
  go_wp2_with fail
  obtain ⟨W,eW,b1,b2,bel,hsz⟩:=alloc2 w (Obj.cells #[Value.slice ao k c,Value.bool (sgn z)] 118) (Obj.cells #[Value.slice none 0 0,Value.bool false] 118)
  rw [eW]
  have H2:=Lib.hid b2
  clear eW b1 b2
  refine (signed_is _ _ _ _ _).mono ?_
  rintro e w1 ⟨rfl,hb1,_⟩
  have hR:=(hb1.block _ hsz).trans H2.out
  obtain ⟨k0,k1,g0,g1,_⟩:=blk2 hR
  rw [E.out]
  go_wp2
  refine bodyPost_ret (v:=.agg #[.slice ao k c,.bool (sgn (-z))]) ?_ rfl ⟨rfl,((below_of bel hb1).setCell (p:=⟨w.heap.size+1,0,none⟩) (Nat.le_add_right _ _) _).setCell (p:=⟨w.heap.size+1,1,none⟩) (Nat.le_add_right _ _) _⟩
  simp [results,Tryz.results147,go_sem, *]
theorem neg_any (v:Value) (z:Int) (w:World) (h:IntV w v z):Calls Tryz.prog 108 #[v] w fun e w'=>∃ v',e=.returned v'∧IntC w' w.heap.size v' (-z)∧Below w.heap.size w w':=by
  obtain ⟨n,ao,k,c,t,rfl,N,R⟩:=h.rd
  have Z:=Lib.hid N.parts.2.1
  have N:=Lib.hid N.neg; have R:=Lib.hid R
  clear h
  go_enter Tryz.func108,Tryz.ntmps108
  go_wp2_with fail
  obtain ⟨W,eW,h1,h2,bel,hsz⟩:=alloc2 w (Obj.cells #[Value.bool n,Value.slice ao k c] 50) (Obj.cells #[Value.bool false,Value.slice none 0 0] 50)
  rw [eW]
  have H2:=Lib.hid h2
  clear eW h1 h2
  refine (R.out W bel).mono ?_
  rintro e w1 ⟨rfl,hb1,_⟩
  go_wp2_with fail
  refine (turned_is _ _ _ z w1 Z.out).mono ?_
  rintro e w2 ⟨rfl,hb2⟩
  have B2:=below_of (below_of bel hb1) hb2
  go_wp2_with fail
  refine (copied_any _ (-z) w2 (N.out.below B2)).mono ?_
  rintro e w3 ⟨v3,rfl,hi,hb3⟩
  have hR:=(hb3.block _ (size_to hb2 (size_to hb1 hsz))).trans ((hb2.block _ (size_to hb1 hsz)).trans ((hb1.block _ hsz).trans H2.out))
  obtain ⟨n2,a2,k2,c2,rfl⟩:=hi.shape
  obtain ⟨k0,k1,g0,g1,hlt⟩:=blk2 hR
  have hs2:w.heap.size+1<w2.heap.size:=size_to hb2 (size_to hb1 hsz)
  go_wp2
  refine bodyPost_ret (v:=.agg #[.bool n2,.slice a2 k2 c2]) ?_ rfl ⟨_,rfl,((hi.far hs2).far hs2).mono B2.size,((below_of B2 hb3).setCell (p:=⟨w.heap.size+1,0,none⟩) (Nat.le_add_right _ _) _).setCell (p:=⟨w.heap.size+1,1,none⟩) (Nat.le_add_right _ _) _⟩
  simp [results,Tryz.results108,go_sem, *]
theorem sign_any (v:Value) (z:Int) (w:World) (h:IntV w v z):Calls Tryz.prog 123 #[v] w fun e w'=>e=.returned (.int .i64 (zcmp z 0))∧Below w.heap.size w w':=by
  obtain ⟨n,ao,k,c,t,rfl,N,R⟩:=h.rd
  have hz:=N.parts.2.1
  have R:=Lib.hid R
  have E:Hid (zcmp z 0=if t=0 then 0 else if sgn z=true then -1 else 1):=Lib.hid (by
    rw [zcmp_zero]
    by_cases h0:z=0
    · rw [if_pos (hz.2 h0),h0]; rfl
    · rw [if_neg (fun e=>h0 (hz.1 e))]
      by_cases hn:z<0
      · rw [if_pos hn,sgn_neg hn,if_pos rfl]
      · rw [if_neg hn,sgn_pos (by omega),if_pos (by omega),if_neg (by simp)])
  clear h N hz
  go_enter Tryz.func123,Tryz.ntmps123
  go_wp2_with fail
  obtain ⟨W,eW,h1,bel,hsz⟩:=alloc1 w (Obj.cells #[Value.bool n,Value.slice ao k c] 50)
  rw [eW]
  clear eW h1
  refine (R.out W bel).mono ?_
  rintro e w1 ⟨rfl,hb1,_⟩
  have B1:=below_of bel hb1
  go_wp2_with fail
  refine (zero_is _ _ _ _).mono ?_
  rintro e w2 ⟨rfl,rfl⟩
  by_cases h0:t=0
  · have hd:((t:Int) == 0)=true:=by rw [h0]; rfl
    have E0:Hid (zcmp z 0=0):=Lib.hid (by rw [E.out,if_pos h0])
    clear h0
    go_wp2
    go_ret
    exact ⟨by rw [E0.out]; rfl,B1.alloc B1.size _⟩
  · have hd:((t:Int) == 0)=false:=by rw [beq_eq_false_iff_ne]; omega
    cases hs:sgn z
    · have E0:Hid (zcmp z 0=1):=Lib.hid (by rw [E.out,if_neg h0,hs,if_neg (by simp)])
      clear h0
      go_wp2
      go_ret
      exact ⟨by rw [E0.out]; rfl,B1.alloc B1.size _⟩
    · have E0:Hid (zcmp z 0=-1):=Lib.hid (by rw [E.out,if_neg h0,hs,if_pos rfl])
      clear h0
      go_wp2
      go_ret
      exact ⟨by rw [E0.out]; rfl,B1.alloc B1.size _⟩
theorem unit_is (b:Bool) (w:World):Calls Tryz.prog 157 #[.bool b] w fun e w'=>∃ v',e=.returned v'∧NuC w' w.heap.size v' (sg b 1)∧Below w.heap.size w w':=by
  go_enter Tryz.func157,Tryz.ntmps157
  go_wp2
  refine bodyPost_ret (v:=.agg #[.slice (some ⟨w.heap.size+1,0,none⟩) 1 1,.bool b]) ?_ rfl ⟨_,rfl,⟨_,by rw [sgn_sg (by omega)], ?_⟩,((Below.refl _ _).alloc (Nat.le_refl _) _).alloc (by simp) _⟩
  · simp [results,Tryz.results157,go_sem]
  · rw [natAbs_sg]
    refine .inr ⟨w.heap.size+1,1,#[.int .u64 1],[1],rfl, ?_,by omega,Nat.le_refl _,by unfold maxLen; omega,Nat.le_refl _,rfl,by simp,lim_cons.2 ⟨by unfold B64; omega,lim_nil (by unfold B64; omega)⟩,rfl,rfl⟩
    have h:=heap_alloc_new (w.alloc (Obj.cells #[Value.slice (some ⟨w.heap.size+1,0,none⟩) 1 1,Value.bool b] 118)) (Obj.cells #[Value.int IntKind.u64 1] 37)
    rwa [show (w.alloc (Obj.cells #[Value.slice (some ⟨w.heap.size+1,0,none⟩) 1 1,Value.bool b] 118)).heap.size=w.heap.size+1 by simp] at h
theorem ofI_any (n:Int) (w:World) (h1:-9223372036854775808≤n) (h2:n≤9223372036854775807):Calls Tryz.prog 107 #[.int .i64 n] w fun e w'=>∃ v',e=.returned v'∧IntC w' w.heap.size v' n∧Below w.heap.size w w':=by
  have HA:Hid (n.natAbs<B64):=Lib.hid (by unfold B64; omega)
  by_cases hn:n<0
  · have hw1:IntKind.u64.wrap n=n+18446744073709551616:=by rw [IntKind.wrap_u64]; omega
    have hw2:IntKind.u64.wrap (-(n+18446744073709551616))=((n.natAbs:Nat):Int):=by rw [IntKind.wrap_u64]; omega
    have E:=Lib.hid (sgn_neg hn)
    obtain ⟨m,hm⟩:∃ m,n.natAbs=m:=⟨_,rfl⟩
    rw [hm] at hw2 HA
    have HM:=Lib.hid hm
    clear hm
    go_enter Tryz.func107,Tryz.ntmps107
    go_wp2_with fail
    refine (of_own m HA.out _).mono ?_
    rintro e w1 ⟨v1,rfl,ho,hb1⟩
    obtain ⟨a1,k1,c1,rfl⟩:=ho.ow.shape
    have h2:=(hb1.block w.heap.size (by simp)).trans (heap_alloc_new w _)
    obtain ⟨k0,k1',g0,g1,_⟩:=blk2 h2
    have HO:=Lib.hid ho.ow
    have HB:=Lib.hid (((Below.refl _ _).alloc (Nat.le_refl _) _).trans (hb1.mono (by simp)))
    clear ho
    go_wp2
    refine bodyPost_ret (v:=.agg #[.bool true,.slice a1 k1 c1]) ?_ rfl ⟨_,rfl,⟨_,by rw [E.out], ?_⟩,(HB.out.setCell (p:=⟨w.heap.size,0,none⟩) (Nat.le_refl _) _).setCell (p:=⟨w.heap.size,1,none⟩) (Nat.le_refl _) _⟩
    · simp [results,Tryz.results107,go_sem, *]
    · rw [HM.out]
      exact ((HO.out.far (by simp)).far (by simp)).mono (by simp)
  · have hw1:IntKind.u64.wrap n=((n.natAbs:Nat):Int):=by rw [IntKind.wrap_u64]; omega
    have E:=Lib.hid (sgn_pos (show 0≤n by omega))
    obtain ⟨m,hm⟩:∃ m,n.natAbs=m:=⟨_,rfl⟩
    rw [hm] at hw1 HA
    have hnm:n=(m:Int):=by omega
    subst hnm
    have HM:=Lib.hid hm
    clear hm
    go_enter Tryz.func107,Tryz.ntmps107
    go_wp2_with fail
    refine (of_own m HA.out _).mono ?_
    rintro e w1 ⟨v1,rfl,ho,hb1⟩
    obtain ⟨a1,k1,c1,rfl⟩:=ho.ow.shape
    have h2:=(hb1.block w.heap.size (by simp)).trans (heap_alloc_new w _)
    obtain ⟨k0,k1',g0,g1,_⟩:=blk2 h2
    have HO:=Lib.hid ho.ow
    have HB:=Lib.hid (((Below.refl _ _).alloc (Nat.le_refl _) _).trans (hb1.mono (by simp)))
    clear ho
    go_wp2
    refine bodyPost_ret (v:=.agg #[.bool false,.slice a1 k1 c1]) ?_ rfl ⟨_,rfl,⟨_,by rw [E.out], ?_⟩,(HB.out.setCell (p:=⟨w.heap.size,0,none⟩) (Nat.le_refl _) _).setCell (p:=⟨w.heap.size,1,none⟩) (Nat.le_refl _) _⟩
    · simp [results,Tryz.results107,go_sem, *]
    · rw [HM.out]
      exact ((HO.out.far (by simp)).far (by simp)).mono (by simp)
end Go.Proofs.YtacbkpenohcgjaaGreat
namespace Go.Proofs.YtacbkpenohcgjaaGreat
open Go.RowKit Mth
theorem IntV.huge {w:World} {v:Value} {z:Int} (h:IntV w v z):z.natAbs<HugeN:=by
  obtain ⟨n,u,xs,_,_,l,hl,rfl⟩:=h
  rw [natAbs_sg]
  exact huge_len l (by unfold Lm; exact hl)
theorem addI_any (va vb:Value) (x y:Int) (w:World) (ha:IntV w va x) (hb:IntV w vb y) :
    Calls Tryz.prog 117 #[va,vb] w fun e w'=>∃ v',e=.returned (.tuple #[v',.int .i64 (zE (x+y))])∧IntC w' w.heap.size v' (zN (x+y))∧Below w.heap.size w w':=by
  have HX:=Lib.hid ha.huge; have HY:=Lib.hid hb.huge
  obtain ⟨n1,a1,k1,c1,t1,rfl,N1,R1⟩:=ha.rd
  obtain ⟨n2,a2,k2,c2,t2,rfl,N2,R2⟩:=hb.rd
  have R1':=Lib.hid R1; have R2':=Lib.hid R2; have N1':=Lib.hid N1; have N2':=Lib.hid N2
  clear ha hb R1 R2 N1 N2
  go_enter Tryz.func117,Tryz.ntmps117
  go_wp2
  obtain ⟨W,eW,h1,h2,h3,bel,hsz⟩:=alloc3 w (Obj.cells #[Value.bool n1,Value.slice a1 k1 c1] 50) (Obj.cells #[Value.bool n2,Value.slice a2 k2 c2] 50) (Obj.cells #[Value.bool false,Value.slice none 0 0] 50)
  rw [eW]
  obtain ⟨p0,p1,_,_,_⟩:=blk2 h1
  obtain ⟨q0,q1,_,_,_⟩:=blk2 h2
  have Z0:=zr_start h3
  have STAY:Hid (∀ w',Zr W w' (w.heap.size+2) 50 2→w'.cell? ⟨w.heap.size,0,none⟩=some (.bool n1)∧w'.cell? ⟨w.heap.size,1,none⟩=some (.slice a1 k1 c1)∧w'.cell? ⟨w.heap.size+1,0,none⟩=some (.bool n2)∧w'.cell? ⟨w.heap.size+1,1,none⟩=some (.slice a2 k2 c2)∧Zr W w' (w.heap.size+2) 50 2) :=
    Lib.hid (fun w' h=>⟨h.cell p0 (by omega),h.cell p1 (by omega),h.cell q0 (by omega),h.cell q1 (by omega),h⟩)
  have ZB:Hid (∀ w',Zr W w' (w.heap.size+2) 50 2→Below w.heap.size w w'):=Lib.hid (fun w' h=>h.below bel (by omega))
  obtain ⟨s0,s1,s2,s3,_⟩:=STAY.out _ Z0
  clear eW h1 h2 h3 p0 p1 q0 q1
  go_region_held3 (fun w'=>w'.cell? ⟨w.heap.size,0,none⟩=some (.bool n1)∧w'.cell? ⟨w.heap.size,1,none⟩=some (.slice a1 k1 c1)∧w'.cell? ⟨w.heap.size+1,0,none⟩=some (.bool n2)∧w'.cell? ⟨w.heap.size+1,1,none⟩=some (.slice a2 k2 c2)∧Zr W w' (w.heap.size+2) 50 2)
    ((try go_split_ands; refine STAY.out _ ?_; first | assumption | exact Zr.call (by assumption) (by assumption) | exact Zr.set (Zr.set (by assumption))))
    (first
    | (go_at_call 100; go_split_ands; first | (refine (R1'.out _ (ZB.out _ (by assumption))).mono ?_; rintro e w1 ⟨rfl,hb1,_⟩) | (refine (R2'.out _ (ZB.out _ (by assumption))).mono ?_; rintro e w1 ⟨rfl,hb1,_⟩))
    | (go_at_call 146; go_split_ands; have hRx:=Zr.lt ‹Zr _ _ _ _ _›; refine (sumOf_any _ _ x y _ (N1'.out.below (ZB.out _ (by assumption))) (N2'.out.below (ZB.out _ (by assumption))) HX.out HY.out).mono ?_; rintro e w3 ⟨v3,rfl,hn',hb3⟩; have hn:=hn'.mono (base':=w.heap.size+3) hRx; clear hn'; obtain ⟨a3,k3,c3,n3,rfl⟩:=hn.shape)
    | (go_at_call 148; go_split_ands; refine (answer_number _ _ (x+y) _ (by assumption) (Zr.lt ‹Zr _ _ _ _ _›)).mono ?_; rintro e w4 ⟨v4,rfl,hi,hb4⟩; obtain ⟨b5,a5,k5,c5,rfl⟩:=hi.shape; obtain ⟨_,_,u0,u1,g0,g1,_⟩:=Zr.two (Zr.call ‹Zr _ _ _ _ _› hb4)))
  go_wp2
  refine bodyPost_ret (v:=.tuple #[.agg #[.bool b5,.slice a5 k5 c5],.int .i64 (zE (x+y))]) ?_ rfl ⟨_,rfl,(((IntC.far (IntC.far ‹IntC _ _ _ _› (Nat.lt_succ_self _)) (Nat.lt_succ_self _))).mono (by omega)),ZB.out _ (by first | assumption | (go_split_ands; assumption) | exact Zr.set (Zr.set (by assumption)))⟩
  simp [results,Tryz.results117,go_sem, *]
end Go.Proofs.YtacbkpenohcgjaaGreat
namespace Go.Proofs.YtacbkpenohcgjaaGreat
open Go.RowKit Mth
theorem subI_any (va vb:Value) (x y:Int) (w:World) (ha:IntV w va x) (hb:IntV w vb y) :
    Calls Tryz.prog 106 #[va,vb] w fun e w'=>∃ v',e=.returned (.tuple #[v',.int .i64 (zE (x - y))])∧IntC w' w.heap.size v' (zN (x - y))∧Below w.heap.size w w':=by
  have HX:=Lib.hid ha.huge; have HY:Hid ((-y).natAbs<HugeN):=Lib.hid (by rw [Int.natAbs_neg]; exact hb.huge)
  obtain ⟨n1,a1,k1,c1,t1,rfl,N1,R1⟩:=ha.rd
  obtain ⟨n2,a2,k2,c2,t2,rfl,N2,R2⟩:=hb.rd
  have R1':=Lib.hid R1; have R2':=Lib.hid R2; have N1':=Lib.hid N1; have N2':=Lib.hid N2.neg; have Z2:=Lib.hid N2.parts.2.1
  clear ha hb R1 R2 N1 N2
  go_enter Tryz.func106,Tryz.ntmps106
  go_wp2
  obtain ⟨W,eW,h1,h2,h3,bel,hsz⟩:=alloc3 w (Obj.cells #[Value.bool n1,Value.slice a1 k1 c1] 50) (Obj.cells #[Value.bool n2,Value.slice a2 k2 c2] 50) (Obj.cells #[Value.bool false,Value.slice none 0 0] 50)
  rw [eW]
  obtain ⟨p0,p1,_,_,_⟩:=blk2 h1
  obtain ⟨q0,q1,_,_,_⟩:=blk2 h2
  have Z0:=zr_start h3
  have STAY:Hid (∀ w',Zr W w' (w.heap.size+2) 50 2→w'.cell? ⟨w.heap.size,0,none⟩=some (.bool n1)∧w'.cell? ⟨w.heap.size,1,none⟩=some (.slice a1 k1 c1)∧w'.cell? ⟨w.heap.size+1,0,none⟩=some (.bool n2)∧w'.cell? ⟨w.heap.size+1,1,none⟩=some (.slice a2 k2 c2)∧Zr W w' (w.heap.size+2) 50 2) :=
    Lib.hid (fun w' h=>⟨h.cell p0 (by omega),h.cell p1 (by omega),h.cell q0 (by omega),h.cell q1 (by omega),h⟩)
  have ZB:Hid (∀ w',Zr W w' (w.heap.size+2) 50 2→Below w.heap.size w w'):=Lib.hid (fun w' h=>h.below bel (by omega))
  obtain ⟨s0,s1,s2,s3,_⟩:=STAY.out _ Z0
  clear eW h1 h2 h3 p0 p1 q0 q1
  go_region_held3 (fun w'=>w'.cell? ⟨w.heap.size,0,none⟩=some (.bool n1)∧w'.cell? ⟨w.heap.size,1,none⟩=some (.slice a1 k1 c1)∧w'.cell? ⟨w.heap.size+1,0,none⟩=some (.bool n2)∧w'.cell? ⟨w.heap.size+1,1,none⟩=some (.slice a2 k2 c2)∧Zr W w' (w.heap.size+2) 50 2)
    ((try go_split_ands; refine STAY.out _ ?_; first | assumption | exact Zr.call (by assumption) (by assumption) | exact Zr.set (Zr.set (by assumption))))
    (first
    | (go_at_call 100; go_split_ands; first | (refine (R1'.out _ (ZB.out _ (by assumption))).mono ?_; rintro e w1 ⟨rfl,hb1,_⟩) | (refine (R2'.out _ (ZB.out _ (by assumption))).mono ?_; rintro e w1 ⟨rfl,hb1,_⟩))
    | (go_at_call 147; go_split_ands; refine (turned_is _ _ _ y _ Z2.out).mono ?_; rintro e w2 ⟨rfl,hb2⟩)
    | (go_at_call 146; go_split_ands; have hRx:=Zr.lt ‹Zr _ _ _ _ _›; refine (sumOf_any _ _ x (-y) _ (N1'.out.below (ZB.out _ (by assumption))) (N2'.out.below (ZB.out _ (by assumption))) HX.out HY.out).mono ?_; rintro e w3 ⟨v3,rfl,hn',hb3⟩; have hn:=hn'.mono (base':=w.heap.size+3) hRx; rw [← Int.sub_eq_add_neg] at hn; clear hn'; obtain ⟨a3,k3,c3,n3,rfl⟩:=hn.shape)
    | (go_at_call 148; go_split_ands; refine (answer_number _ _ (x - y) _ (by assumption) (Zr.lt ‹Zr _ _ _ _ _›)).mono ?_; rintro e w4 ⟨v4,rfl,hi,hb4⟩; obtain ⟨b5,a5,k5,c5,rfl⟩:=hi.shape; obtain ⟨_,_,u0,u1,g0,g1,_⟩:=Zr.two (Zr.call ‹Zr _ _ _ _ _› hb4)))
  go_wp2
  refine bodyPost_ret (v:=.tuple #[.agg #[.bool b5,.slice a5 k5 c5],.int .i64 (zE (x - y))]) ?_ rfl ⟨_,rfl,(((IntC.far (IntC.far ‹IntC _ _ _ _› (Nat.lt_succ_self _)) (Nat.lt_succ_self _))).mono (by omega)),ZB.out _ (by first | assumption | (go_split_ands; assumption) | exact Zr.set (Zr.set (by assumption)))⟩
  simp [results,Tryz.results106,go_sem, *]
end Go.Proofs.YtacbkpenohcgjaaGreat
namespace Go.Proofs.YtacbkpenohcgjaaGreat
open Go.RowKit Mth
def QuoOk (w:World) (u v:Value) (m n:Nat):Prop:=Calls Tryz.prog 170 #[u,v] w fun e w'=>∃ q r,e=.returned (.tuple #[q,r])∧Ow w' w.heap.size q (m / n)∧Ow w' w.heap.size r (m % n)∧Below w.heap.size w w'
theorem num_long {w:World} {n k c:Nat} {ao:Option Addr} (h:Num w (.slice ao k c) n):4096<k↔Big≤n:=by
  obtain ⟨xs,h1,h2,h3,h4⟩:=h
  obtain ⟨ao',c',e,_⟩:=h1
  simp only [Value.slice.injEq] at e
  obtain ⟨_,rfl,_⟩:=e
  rw [← h4,← long_iff h2,trimL_of_top h3]
theorem quo_short (u v:Value) (m n:Nat) (w:World) (h1:Num w u m) (h2:Num w v n) (hm:m<Big) (hn:n<Big) (h0:n≠0):QuoOk w u v m n:=by
  unfold QuoOk
  have Q:=Lib.hid (quo_nm h1.nm h2.nm)
  have F:=Lib.hid (quo_fine (show ¬ (Big≤m∨Big≤n) by omega) h0)
  obtain ⟨a1,k1,c1,rfl⟩:=h1.nm.shape
  obtain ⟨a2,k2,c2,rfl⟩:=h2.nm.shape
  have l1:=num_long h1
  have l2:=num_long h2
  have hd1:decide ((4096:Int)<(k1:Int))=false:=decide_eq_false (by intro e; have:=l1.1 (by omega); omega)
  have hd2:decide ((4096:Int)<(k2:Int))=false:=decide_eq_false (by intro e; have:=l2.1 (by omega); omega)
  clear h1 h2 l1 l2 hm hn h0
  go_enter Tryz.func170,Tryz.ntmps170
  go_wp2_with (first | (go_at_call 167; refine (long_is _ _ _ _).mono ?_; rintro e w' ⟨rfl,rfl⟩) | (go_at_call 143; refine (limbs_is _ _ _ _).mono ?_; rintro e w' ⟨rfl,rfl⟩) | (go_at_call 177; refine Q.out.mono ?_; rintro e w1 ⟨vq,vr,rfl,hq,hr,hb⟩))
  rw [F.out.1] at hq
  rw [F.out.2.1] at hr
  have HQ:=Lib.hid hq.ow; have HR:=Lib.hid hr.ow; have HB:=Lib.hid hb
  clear hq hr hb
  go_wp2
  go_ret2
  exact ⟨_,_,rfl,HQ.out,HR.out,HB.out⟩
theorem blk4 {w:World} {g:Nat} {a b c d:Value} {T:TypeId} (h:w.heap[g]?=some (.cells #[a,b,c,d] T (0,0))) :
    (w.cell? ⟨g,0,none⟩=some a∧w.cell? ⟨g,1,none⟩=some b∧w.cell? ⟨g,2,none⟩=some c∧w.cell? ⟨g,3,none⟩=some d)∧(w.frozen? ⟨g,0,none⟩=false∧w.frozen? ⟨g,1,none⟩=false∧w.frozen? ⟨g,2,none⟩=false∧w.frozen? ⟨g,3,none⟩=false):=by
  refine ⟨⟨?_, ?_, ?_, ?_⟩,frozen_of_row w g 0 _ _ h,frozen_of_row w g 1 _ _ h,frozen_of_row w g 2 _ _ h,frozen_of_row w g 3 _ _ h⟩<;>(rw [cell_of_row w g _ _ _ (0,0) h]; rfl)
theorem Zr.four {W w1:World} {R:Nat} {T:TypeId} (h:Zr W w1 R T 4):∃ a b c d,(w1.cell? ⟨R,0,none⟩=some a∧w1.cell? ⟨R,1,none⟩=some b∧w1.cell? ⟨R,2,none⟩=some c∧w1.cell? ⟨R,3,none⟩=some d)∧(w1.frozen? ⟨R,0,none⟩=false∧w1.frozen? ⟨R,1,none⟩=false∧w1.frozen? ⟨R,2,none⟩=false∧w1.frozen? ⟨R,3,none⟩=false):=by
  obtain ⟨_,cs,h2,h3⟩:=h
  obtain ⟨l⟩:=cs
  match l,h3 with
  | [a,b,c,d],_=>exact ⟨a,b,c,d,blk4 h2⟩
theorem Ow.zr {W w1:World} {base n R k:Nat} {v:Value} {T:TypeId} (h:Ow W base v n) (hz:Zr W w1 R T k) (hne:∀ b,inBlock v=some b→b≠R):Ow w1 base v n:=by
  rcases h with h | ⟨g,cap,cur,xs,rfl,h1,h2⟩
  · exact .inl h
  · exact .inr ⟨g,cap,cur,xs,rfl,(hz.1.block g (Array.getElem?_eq_some_iff.1 h1).1 (fun e=>hne g rfl (Option.some.inj e))).trans h1,h2⟩
theorem signed_num {k n:Nat} {b:Bool} (h:k=0↔n=0):(b&&!((k:Int) == 0))=sgn (sg b n):=by
  by_cases hn:n=0
  · have hk:=h.2 hn
    subst hn hk
    rw [sgn_sg0]; cases b<;>rfl
  · have:((k:Int) == 0)=false:=by rw [beq_eq_false_iff_ne]; intro e; exact hn (h.1 (by omega))
    rw [this,sgn_sg (Nat.pos_of_ne_zero hn)]; cases b<;>rfl
theorem divide_fine (va vb:Value) (x y:Int) (w:World) (ha:NuV w va x) (hb:NuV w vb y) (hy:y≠0) (hl:∀ a1 k1 c1 b1 a2 k2 c2 b2,va=.agg #[.slice a1 k1 c1,.bool b1]→vb=.agg #[.slice a2 k2 c2,.bool b2]→k1≤4096+k2)
    (hq:∀ u v w1,Below w.heap.size w w1→Num w1 u x.natAbs→Num w1 v y.natAbs→QuoOk w1 u v x.natAbs y.natAbs) :
    Calls Tryz.prog 153 #[va,vb] w fun e w'=>∃ q b r d,e=.returned (.tuple #[.agg #[q,b,r,d],.int .i64 0])∧NuC w' w.heap.size (.agg #[q,b]) (qC x y)∧NuC w' w.heap.size (.agg #[r,d]) (rC x y)∧Below w.heap.size w w':=by
  obtain ⟨a1,k1,c1,n1,rfl⟩:=ha.shape
  obtain ⟨a2,k2,c2,n2,rfl⟩:=hb.shape
  obtain ⟨rfl,_,m1⟩:=ha.parts
  obtain ⟨rfl,z2,m2⟩:=hb.parts
  have hkk:=hl _ _ _ _ _ _ _ _ rfl rfl
  have hd:((k2:Int) == 0)=false:=by rw [beq_eq_false_iff_ne]; intro e; exact hy (z2.1 (by omega))
  have Q:Hid (∀ w1,Below w.heap.size w w1→QuoOk w1 (.slice a1 k1 c1) (.slice a2 k2 c2) x.natAbs y.natAbs):=Lib.hid (fun w1 h=>hq _ _ w1 h (m1.below h) (m2.below h))
  have L1:k1≤16777216:=by obtain ⟨xs,s,_⟩:=m1; have:=s.len; obtain ⟨_,_,e,_⟩:=s; simp only [Value.slice.injEq] at e; omega
  have L2:k2≤16777216:=by obtain ⟨xs,s,_⟩:=m2; have:=s.len; obtain ⟨_,_,e,_⟩:=s; simp only [Value.slice.injEq] at e; omega
  clear ha hb hl hq z2 m1 m2 hy
  go_enter Tryz.func153,Tryz.ntmps153
  go_wp2_with fail
  obtain ⟨W,eW,h1,h2,h3,bel,hsz⟩:=alloc3 w (Obj.cells #[Value.slice a1 k1 c1,Value.bool (sgn x)] 118) (Obj.cells #[Value.slice a2 k2 c2,Value.bool (sgn y)] 118) (Obj.cells #[Value.slice none 0 0,Value.bool false,Value.slice none 0 0,Value.bool false] 153)
  rw [eW]
  obtain ⟨p0,p1,_,_,_⟩:=blk2 h1
  obtain ⟨q0,q1,_,_,_⟩:=blk2 h2
  have H3:=Lib.hid h3
  clear eW h1 h2 h3
  refine (zero_is _ _ _ _).mono ?_
  rintro e w' ⟨rfl,rfl⟩
  go_wp2_with fail
  refine (Q.out W bel).mono ?_
  rintro e w1 ⟨vq,vr,rfl,oq,orr,hb1⟩
  obtain ⟨aq,kq,cq,rfl⟩:=oq.shape
  obtain ⟨ar,kr,cr,rfl⟩:=orr.shape
  have EQ:Hid ((!(sgn x == sgn y)&&!((kq:Int) == 0))=sgn (sg (sgn x != sgn y) (x.natAbs / y.natAbs))):=Lib.hid (signed_num (b:=sgn x != sgn y) oq.zero)
  have ER:=Lib.hid (signed_num (b:=sgn x) orr.zero)
  have OQ:=Lib.hid oq; have OR:=Lib.hid orr
  have h3:w1.heap[w.heap.size+1+1]?=_:=(hb1.block _ hsz).trans H3.out
  have Z0:=zr_start h3
  have p1':=cell_to hb1 p1 (by omega); have q1':=cell_to hb1 q1 (by omega)
  have B1:=below_of bel hb1
  have hs1:w.heap.size+1+1<w1.heap.size:=size_to hb1 hsz
  have STAY:Hid (∀ w',Zr w1 w' (w.heap.size+1+1) 153 4→w'.cell? ⟨w.heap.size,1,none⟩=some (.bool (sgn x))∧w'.cell? ⟨w.heap.size+1,1,none⟩=some (.bool (sgn y))∧Zr w1 w' (w.heap.size+1+1) 153 4) :=
    Lib.hid (fun w' h=>⟨h.cell p1' (by omega),h.cell q1' (by omega),h⟩)
  have HZ:=Lib.hid (show ∀ w',Zr w1 w' (w.heap.size+1+1) 153 4→Below w1.heap.size w1 w1→Ow w' w.heap.size (.slice aq kq cq) (x.natAbs / y.natAbs)∧Ow w' w.heap.size (.slice ar kr cr) (x.natAbs % y.natAbs)∧Below w.heap.size w w' from
    fun w' h _=>⟨(OQ.out.zr h (fun b hb=>by have:=(OQ.out.block b hb).1; omega)).mono bel.size,(OR.out.zr h (fun b hb=>by have:=(OR.out.block b hb).1; omega)).mono bel.size,h.below B1 (by omega)⟩)
  obtain ⟨s1,s2,_⟩:=STAY.out _ Z0
  clear oq orr p0 p1 q0 q1 h3 p1' q1'
  go_wp2_with fail
  go_region_held3 (fun w'=>w'.cell? ⟨w.heap.size,1,none⟩=some (.bool (sgn x))∧w'.cell? ⟨w.heap.size+1,1,none⟩=some (.bool (sgn y))∧Zr w1 w' (w.heap.size+1+1) 153 4)
    ((try go_split_ands; refine STAY.out _ ?_; first | assumption | exact Zr.call (by assumption) (by assumption) | exact Zr.set (Zr.set (Zr.set (Zr.set (by assumption))))))
    (first
    | (go_at_call 140; go_split_ands; refine (signed_is _ _ _ _ _).mono ?_; rintro e w' ⟨rfl,hb3,_⟩; (first | rw [EQ.out] | rw [ER.out]); obtain ⟨_,_,_,_,⟨u0,u1,u2,u3⟩,g0,g1,g2,g3⟩:=Zr.four (Zr.call ‹Zr _ _ _ _ _› hb3)))
  go_wp2
  refine bodyPost_ret (v:=.tuple #[.agg #[.slice aq kq cq,.bool (sgn (qC x y)),.slice ar kr cr,.bool (sgn (rC x y))],.int .i64 0]) ?_ rfl ⟨_,_,_,_,rfl,⟨_,rfl,by rw [amt_qC]; exact (HZ.out _ (by first | assumption | (go_split_ands; assumption)) (Below.refl _ _)).1⟩,⟨_,rfl,by rw [amt_rC]; exact (HZ.out _ (by first | assumption | (go_split_ands; assumption)) (Below.refl _ _)).2.1⟩,(HZ.out _ (by first | assumption | (go_split_ands; assumption)) (Below.refl _ _)).2.2⟩
  simp [results,Tryz.results153,go_sem, *,qC,rC]
end Go.Proofs.YtacbkpenohcgjaaGreat
namespace Go.Proofs.YtacbkpenohcgjaaGreat
open Go.RowKit Mth
theorem NuC.parts {w:World} {base k c:Nat} {ao:Option Addr} {b:Bool} {z:Int} (h:NuC w base (.agg #[.slice ao k c,.bool b]) z):b=sgn z∧Ow w base (.slice ao k c) z.natAbs:=by
  obtain ⟨u,e,h1⟩:=h
  simp only [Value.agg.injEq,Array.mk.injEq,List.cons.injEq,Value.bool.injEq,and_true] at e
  obtain ⟨rfl,rfl⟩:=e
  exact ⟨rfl,h1⟩
theorem intc_four {w:World} {base R S:Nat} {v x0 x1 y0 y1:Value} {z:Int} {cs ds:Array Value} (h:IntC w base v z) (hR:w.heap[R]?=some (.cells cs 50 (0,0))) (hS:w.heap[S]?=some (.cells ds 50 (0,0))) (hne:S≠R) :
    IntC ((((w.drew.setCell ⟨R,0,none⟩ x0).setCell ⟨R,1,none⟩ x1).setCell ⟨S,0,none⟩ y0).setCell ⟨S,1,none⟩ y1) base v z:=by
  obtain ⟨u,h0,h1⟩:=h
  refine ⟨u,h0, ?_⟩
  have h2:Ow w.drew base u z.natAbs:=h1.drawn 1
  have hR':w.drew.heap[R]?=some (.cells cs 50 (0,0)):=hR
  have hS':w.drew.heap[S]?=some (.cells ds 50 (0,0)):=hS
  have h3:=h2.away2 (x:=x0) (y:=x1) hR' (by decide)
  refine h3.away2 (R:=S) (cs:=ds) (T:=50) ?_ (by decide)
  rw [heap_setCell_other _ ⟨R,1,none⟩ S _ hne,heap_setCell_other _ ⟨R,0,none⟩ S _ hne]
  exact hS'
theorem answers_fine (base:Nat) (q b r d:Value) (x y:Int) (w:World) (h1:NuC w base (.agg #[q,b]) x) (h2:NuC w base (.agg #[r,d]) y) (hx:x.natAbs<Big) (hy:y.natAbs<Big) (hbase:base≤w.heap.size) :
    Calls Tryz.prog 154 #[.agg #[q,b,r,d]] w fun e w'=>∃ v1 v2,e=.returned (.tuple #[v1,v2,.int .i64 0])∧IntC w' base v1 x∧IntC w' base v2 y∧Below w.heap.size w w':=by
  obtain ⟨aq,kq,cq,nq,e1⟩:=h1.shape
  obtain ⟨ar,kr,cr,nr,e2⟩:=h2.shape
  simp only [Value.agg.injEq,Array.mk.injEq,List.cons.injEq,and_true] at e1 e2
  obtain ⟨rfl,rfl⟩:=e1
  obtain ⟨rfl,rfl⟩:=e2
  have EX:=Lib.hid (z_fine hx); have EY:=Lib.hid (z_fine hy)
  have A1:Hid (∀ w1,Below w.heap.size w w1→Calls Tryz.prog 148 #[.agg #[.slice aq kq cq,.bool nq]] w1 fun e w'=>∃ v',e=.returned (.tuple #[v',.int .i64 0])∧IntC w' base v' x∧Below w1.heap.size w1 w') :=
    Lib.hid (fun w1 hb=>by have:=answer_number base _ x w1 (h1.below hb) (Nat.le_trans hbase hb.size); rwa [EX.out.1,EX.out.2] at this)
  have A2:Hid (∀ w1,Below w.heap.size w w1→Calls Tryz.prog 148 #[.agg #[.slice ar kr cr,.bool nr]] w1 fun e w'=>∃ v',e=.returned (.tuple #[v',.int .i64 0])∧IntC w' base v' y∧Below w1.heap.size w1 w') :=
    Lib.hid (fun w1 hb=>by have:=answer_number base _ y w1 (h2.below hb) (Nat.le_trans hbase hb.size); rwa [EY.out.1,EY.out.2] at this)
  clear h1 h2 hx hy EX EY
  go_enter Tryz.func154,Tryz.ntmps154
  go_wp2_with fail
  obtain ⟨W,eW,b1,b2,b3,bel,hsz⟩:=alloc3 w (Obj.cells #[Value.slice aq kq cq,Value.bool nq,Value.slice ar kr cr,Value.bool nr] 153) (Obj.cells #[Value.bool false,Value.slice none 0 0] 50) (Obj.cells #[Value.bool false,Value.slice none 0 0] 50)
  rw [eW]
  obtain ⟨⟨p0,p1,p2,p3⟩,_⟩:=blk4 b1
  have P:=Lib.hid (show (W.cell? ⟨w.heap.size,2,none⟩=some (.slice ar kr cr)∧W.cell? ⟨w.heap.size,3,none⟩=some (.bool nr)) from ⟨p2,p3⟩)
  have H2:=Lib.hid b2
  have H3:Hid (W.heap[w.heap.size+1+1]?=some (Obj.cells #[Value.bool false,Value.slice none 0 0] 50)):=Lib.hid b3
  clear eW b1 b2 b3 p0 p1 p2 p3
  refine (A1.out W bel).mono ?_
  rintro e w1 ⟨v1,rfl,i1,hb1⟩
  obtain ⟨m1,a1,k1,c1,rfl⟩:=i1.shape
  have p2:=cell_to hb1 P.out.1 (by omega); have p3:=cell_to hb1 P.out.2 (by omega)
  have B1:=below_of bel hb1
  have I1:=Lib.hid i1
  have hz1:=hb1.size
  have ha1:w.heap.size<w1.heap.size:=by omega
  have ha2:w.heap.size+1<w1.heap.size:=by omega
  have ha3:w.heap.size+1+1<w1.heap.size:=by omega
  clear i1
  go_wp2_with fail
  have hB1:Below w1.heap.size w1 (w1.alloc (Obj.cells #[Value.bool m1,Value.slice a1 k1 c1] 50)):=(Below.refl _ _).alloc (Nat.le_refl _) _
  refine (A2.out _ (below_of B1 hB1)).mono ?_
  rintro e w2 ⟨v2,rfl,i2,hb2⟩
  obtain ⟨m2,a2,k2,c2,rfl⟩:=i2.shape
  have I2:=Lib.hid i2
  have hN:=(hb2.block w1.heap.size (by simp)).trans (heap_alloc_new w1 (Obj.cells #[Value.bool m1,Value.slice a1 k1 c1] 50))
  obtain ⟨n0,n1,_,_,_⟩:=blk2 hN
  have B2:=below_of (below_of B1 hB1) hb2
  have r2:=(hb2.block (w.heap.size+1) (by simp; omega)).trans ((hB1.block (w.heap.size+1) (by omega)).trans ((hb1.block _ (by omega)).trans H2.out))
  have r3:w2.heap[w.heap.size+1+1]?=some (Obj.cells #[Value.bool false,Value.slice none 0 0] 50):=(hb2.block (w.heap.size+1+1) (by simp; omega)).trans ((hB1.block (w.heap.size+1+1) (by omega)).trans ((hb1.block _ (by omega)).trans H3.out))
  have hlt:w1.heap.size<w2.heap.size:=(Array.getElem?_eq_some_iff.1 hN).1
  have R2:=Lib.hid r2; have R3:=Lib.hid r3; have HN:=Lib.hid hN; have HB2:=Lib.hid B2
  have J1:=Lib.hid ((I1.out.below hB1).below hb2)
  clear i2 hN r2 r3 p2 p3 n0 n1 B2
  go_wp2
  obtain ⟨V,eV,c1',bV,sV⟩:=alloc1 w2 (Obj.cells #[Value.bool m2,Value.slice a2 k2 c2] 50)
  rw [eV]
  have hs2:w.heap.size+1<w2.heap.size:=by omega
  have hs3:w.heap.size+1+1<w2.heap.size:=by omega
  obtain ⟨s0,s1,s2,s3,_⟩:=blk2 ((bV.block _ hs2).trans R2.out)
  obtain ⟨t0,t1,t2,t3,_⟩:=blk2 ((bV.block _ hs3).trans R3.out)
  obtain ⟨n0,n1,_,_,_⟩:=blk2 ((bV.block _ hlt).trans HN.out)
  obtain ⟨u0,u1,_,_,_⟩:=blk2 c1'
  have V2:=Lib.hid ((bV.block _ hs2).trans R2.out); have V3:=Lib.hid ((bV.block _ hs3).trans R3.out)
  have BV:=Lib.hid (below_of HB2.out bV)
  have K1:=Lib.hid (J1.out.below bV); have K2:=Lib.hid (I2.out.below bV)
  clear eV c1'
  have l2:w.heap.size≤w.heap.size+1:=by omega
  have l3:w.heap.size≤w.heap.size+1+1:=by omega
  have d1:w.heap.size+1≠w2.heap.size:=by omega
  have d2:w2.heap.size≠w.heap.size+1:=by omega
  go_region_with fail
  go_ways
  all_goals
    go_wp2
    refine bodyPost_ret (v:=.tuple #[.agg #[.bool m1,.slice a1 k1 c1],.agg #[.bool m2,.slice a2 k2 c2],.int .i64 0]) ?_ rfl ⟨_,_,rfl, ?_, ?_,((((BV.out.drew.setCell (p:=⟨w.heap.size+1,0,none⟩) l2 _).setCell (p:=⟨w.heap.size+1,1,none⟩) l2 _).setCell (p:=⟨w.heap.size+1+1,0,none⟩) l3 _).setCell (p:=⟨w.heap.size+1+1,1,none⟩) l3 _)⟩
    · simp [results,Tryz.results154,go_sem, *]
    · exact intc_four K1.out V2.out V3.out (by omega)
    · exact intc_four K2.out V2.out V3.out (by omega)
end Go.Proofs.YtacbkpenohcgjaaGreat
