import Derived.Test.YtacbkpenohcgjaaGreatVN2
import Derived.Test.YtacbkpenohcgjaaGreatVZB5
import Derived.Test.YtacbkpenohcgjaaGreatVN3
import Derived.IntWalk
import Derived.Test.YtacbkpenohcgjaaGreatVN7
import Derived.Test.YtacbkpenohcgjaaGreatVN4
import Derived.Test.YtacbkpenohcgjaaGreatVNI9
import Derived.Test.YtacbkpenohcgjaaGreatVNB9
import Derived.Test.YtacbkpenohcgjaaGreatVN9
set_option linter.unusedVariables false
set_option linter.unusedSimpArgs false
set_option maxHeartbeats 16000000
set_option maxRecDepth 100000
namespace Go.Proofs.YtacbkpenohcgjaaGreat
open Go.RowKit Mth
def NmB (w:World) (v:Value) (n:Nat):Prop:=∃ xs,Sl w .u64 v xs∧Lim B64 xs∧xs.length≤4000000∧val B64 xs=n
theorem NmB.below {w w':World} {v:Value} {n:Nat} (h:NmB w v n) (hb:Below w.heap.size w w'):NmB w' v n:=by
  obtain ⟨xs,h1,h2⟩:=h; exact ⟨xs,h1.below hb,h2⟩
theorem NmB.shape {w:World} {v:Value} {n:Nat} (h:NmB w v n):∃ a k c,v=.slice a k c:=by
  obtain ⟨xs,h1,-⟩:=h
  obtain ⟨a,c,rfl⟩:=h1.shape
  exact ⟨a,xs.length,c,rfl⟩
theorem nmb_drew {w:World} {v:Value} {n:Nat} (h:NmB w v n):NmB w.drew v n:=h.below (Below.refl _ _).drew
theorem nmb_call {w w':World} {v:Value} {n:Nat} (hb:Below w.heap.size w w') (h:NmB w v n):NmB w' v n:=h.below hb
def w8:Nat:=8192
theorem nmb_of {w:World} {v:Value} {n:Nat} (h:Num w v n) (hn:n<2 ^ w8):NmB w v n:=by
  obtain ⟨xs,s,l,t,e⟩:=h
  exact ⟨xs,s,l,small_limbs t e hn (Nat.le_of_eq rfl),e⟩
theorem big_8192:2 ^ w8≤Big:=by
  unfold Big
  rw [b64_two]
  exact Nat.pow_le_pow_right (by omega) (by unfold w8 maxL; omega)
def ResM (w w':World) (e:Ending) (n:Nat):Prop:=∃ a k c,e=.returned (.slice a k c)∧NmB w' (.slice a k c) n∧Below w.heap.size w w'
structure LtE (n:Nat):Prop where
  out:n<2 ^ w8
theorem lte_big {n:Nat} (h:LtE n):¬ Big≤n:=fun h2=>absurd (Nat.lt_of_lt_of_le h.out big_8192) (by omega)
theorem up_any (v:Value) (m k:Nat) (hk:k≤8192) (w:World) (h:NmB w v m) (hm:LtE (m*2 ^ k)):Calls Tryz.prog 124 #[v,.int .i64 (k:Int)] w fun e w'=>ResM w w' e (m*2 ^ k):=by
  have SH:Hid (Calls Tryz.prog 155 #[v,.int .i64 (k:Int)] w fun e w'=>∃ v',e=.returned (.tuple #[v',.int .i64 0])∧NmB w' v' (m*2 ^ k)∧Below w.heap.size w w'):=Lib.hid (by
    obtain ⟨xs,s,l,hl,ev⟩:=h
    have hlt:¬ Big≤m:=fun h2=>lte_big hm (Nat.le_trans h2 (Nat.le_mul_of_pos_right _ (two_pos k)))
    have hh:=shl_any v xs (k:Int) w s l ⟨by omega,by omega⟩
    obtain ⟨e1,e2⟩:=shl_fine (n:=k) (ev ▸ hlt)
    rw [ev] at e1 e2 hh
    rw [e1,e2] at hh
    unfold cutN cutE at hh
    rw [if_neg (lte_big hm),if_neg (lte_big hm)] at hh
    exact hh.mono fun e w' ⟨v',he,hn,hb⟩=>⟨v',he,nmb_of hn hm.out,hb⟩)
  generalize m*2 ^ k=n at *
  obtain ⟨a,c,d,rfl⟩:=h.shape
  clear h hm
  go_enter Tryz.func124,Tryz.ntmps124
  go_wp2_with fail
  refine SH.out.mono ?_
  rintro e w2 ⟨v2,rfl,hn,hb⟩
  obtain ⟨a2,k2,c2,rfl⟩:=hn.shape
  have HN:=Lib.hid hn; have HB:=Lib.hid hb
  clear hn hb
  go_wp2
  go_ret
  exact ⟨_,_,_,rfl,HN.out,HB.out⟩
theorem down_any (v:Value) (m k:Nat) (hk:k≤8192) (w:World) (h:NmB w v m) (hm:LtE m):Calls Tryz.prog 105 #[v,.int .i64 (k:Int)] w fun e w'=>ResM w w' e (m / 2 ^ k):=by
  have SH:Hid (Calls Tryz.prog 145 #[v,.int .i64 (k:Int)] w fun e w'=>∃ v',e=.returned (.tuple #[v',.int .i64 0])∧NmB w' v' (m / 2 ^ k)∧Below w.heap.size w w'):=Lib.hid (by
    obtain ⟨xs,s,l,hl,ev⟩:=h
    have hh:=shr_any v xs (k:Int) w s l ⟨by omega,by omega⟩
    obtain ⟨e1,e2⟩:=shr_fine (n:=k) (ev ▸ lte_big hm)
    rw [ev] at e1 e2 hh
    rw [e1,e2] at hh
    exact hh.mono fun e w' ⟨v',he,hn,hb⟩=>⟨v',he,nmb_of hn (Nat.lt_of_le_of_lt (Nat.div_le_self _ _) hm.out),hb⟩)
  generalize m / 2 ^ k=n at *
  obtain ⟨a,c,d,rfl⟩:=h.shape
  clear h hm
  go_enter Tryz.func105,Tryz.ntmps105
  go_wp2_with fail
  refine SH.out.mono ?_
  rintro e w2 ⟨v2,rfl,hn,hb⟩
  obtain ⟨a2,k2,c2,rfl⟩:=hn.shape
  have HN:=Lib.hid hn; have HB:=Lib.hid hb
  clear hn hb
  go_wp2
  go_ret
  exact ⟨_,_,_,rfl,HN.out,HB.out⟩
theorem add2_at {W:World} {g:Nat} {v1 v2:Value} {m n:Nat} (hg:W.heap[g]?=some (.cells #[v1,v2] 26 (0,0))) (h1:NmB W v1 m) (h2:NmB W v2 n) (hmn:LtE (m+n)) :
    Calls Tryz.prog 144 #[.slice (some ⟨g,0,none⟩) 2 2] W fun e w'=>∃ v',e=.returned (.tuple #[v',.int .i64 0])∧NmB w' v' (m+n)∧Below W.heap.size W w':=by
  obtain ⟨xs,s1,l1,-,e1⟩:=h1
  obtain ⟨ys,s2,l2,-,e2⟩:=h2
  refine (add_any _ _ _ (natList_at hg s1 s2) (pair_lim l1 l2)).mono ?_
  rintro e w' ⟨v',h1,h2,h3⟩
  rw [(add2_N xs ys).1,e1,e2] at h2
  rw [(add2_N xs ys).2,e1,e2] at h1
  unfold cutN at h2
  unfold cutE at h1
  rw [if_neg (lte_big hmn)] at h1 h2
  exact ⟨v',h1,nmb_of h2 hmn.out,h3⟩
theorem joinedB_any (va vb:Value) (m n k:Nat) (hk:k≤8192) (w:World) (ha:NmB w va m) (hb:NmB w vb n) (hmn:LtE (m*2 ^ k+n)):Calls Tryz.prog 103 #[va,vb,.int .i64 (k:Int)] w fun e w'=>ResM w w' e (m*2 ^ k+n):=by
  have UP:=Lib.hid (up_any va m k hk w ha ⟨Nat.lt_of_le_of_lt (Nat.le_add_right _ _) hmn.out⟩)
  have AD:Hid (∀ W g v1,W.heap[g]?=some (.cells #[v1,vb] 26 (0,0))→NmB W v1 (m*2 ^ k)→NmB W vb n→Calls Tryz.prog 144 #[.slice (some ⟨g,0,none⟩) 2 2] W fun e w'=>∃ v',e=.returned (.tuple #[v',.int .i64 0])∧NmB w' v' (m*2 ^ k+n)∧Below W.heap.size W w'):=Lib.hid (fun W g v1 hg h1 h2=>add2_at hg h1 h2 hmn)
  have HB:=Lib.hid hb
  generalize m*2 ^ k+n=z at *
  generalize m*2 ^ k=y at *
  obtain ⟨a1,k1,c1,rfl⟩:=ha.shape
  obtain ⟨a2,k2,c2,rfl⟩:=hb.shape
  clear ha hb hmn
  go_enter Tryz.func103,Tryz.ntmps103
  go_wp2_with fail
  refine UP.out.mono ?_
  rintro e w2 ⟨a3,k3,c3,rfl,hn,hb⟩
  obtain ⟨V,eV,gV,bV,hVs⟩:=alloc1n w2 (Obj.cells #[.slice a3 k3 c3,.slice a2 k2 c2] 26)
  have AA:=Lib.hid (AD.out V _ _ gV (hn.below bV) ((HB.out.below hb).below bV))
  have BV:=Lib.hid (below_of hb bV)
  clear hn hb gV bV
  go_wp2_with fail
  try rw [eV]
  refine AA.out.mono ?_
  rintro e w3 ⟨v3,rfl,hn,hb⟩
  obtain ⟨a4,k4,c4,rfl⟩:=hn.shape
  have HN:=Lib.hid hn; have B3:=Lib.hid (below_of BV.out hb)
  clear hn hb
  go_wp2
  go_ret
  exact ⟨_,_,_,rfl,HN.out,B3.out⟩
theorem amount_any (v:Value) (m:Nat) (w:World) (h:NmB w v m):Calls Tryz.prog 102 #[v] w fun e w'=>∃ v',e=.returned v'∧IntV w' v' (m:Int)∧Below w.heap.size w w':=by
  obtain ⟨W,eW,gW,bW,hWs⟩:=alloc1n w (Obj.cells #[.bool false,.slice none 0 0] 50)
  obtain ⟨xs,s,l,hl,e⟩:=h
  have HI:=Lib.hid (intV_of (s.below bW) l hl e)
  have GW:=Lib.hid gW; have BW:=Lib.hid bW
  obtain ⟨q0,q1,r0,r1,_⟩:=blk2 gW
  obtain ⟨a,c,rfl⟩:=s.shape
  have EW:=Lib.hid eW
  clear s l hl e gW bW eW
  go_enter Tryz.func102,Tryz.ntmps102
  go_upto_region 1 with fail
  try rw [EW.out]
  go_wp2
  exact bodyPost_ret (results_it rfl rfl (set2_row _ _ GW.out)) rfl ⟨_,rfl,HI.out.far GW.out,(BW.out.setCell (Nat.le_refl _) _).setCell (Nat.le_refl _) _⟩
end Go.Proofs.YtacbkpenohcgjaaGreat
namespace Go.Proofs.YtacbkpenohcgjaaGreat
open Go.RowKit Mth
def PaL (w:World) (pv:Value) (ps:List Int):Prop:=∃ po cap,pv=.slice po ps.length cap∧(ps≠[]→∃ b off,po=some ⟨b,off,none⟩∧b<w.heap.size∧∀ i p,ps[i]?=some p→w.cell? ⟨b,off+i,none⟩=some (.int .i64 p))
theorem PaL.below {w w':World} {pv:Value} {ps:List Int} (h:PaL w pv ps) (hb:Below w.heap.size w w'):PaL w' pv ps:=by
  obtain ⟨po,cap,rfl,h⟩:=h
  refine ⟨po,cap,rfl,fun hne=>?_⟩
  obtain ⟨b,off,rfl,hlt,h⟩:=h hne
  exact ⟨b,off,rfl,Nat.lt_of_lt_of_le hlt hb.size,fun i p hp=>(hb.cell (p:=⟨b,off+i,none⟩) hlt).trans (h i p hp)⟩
theorem PaL.shape {w:World} {pv:Value} {ps:List Int} (h:PaL w pv ps):∃ po pn pc,pv=.slice po pn pc:=by obtain ⟨po,cap,h,-⟩:=h; exact ⟨po,_,cap,h⟩
theorem inRange_yes (x:Int) (h0:0≤x) (h1:x≤4096) (w:World):Calls Tryz.prog 104 #[.int .i64 x] w fun e w'=>e=.returned (.bool true)∧w'=w:=by
  go_enter Tryz.func104,Tryz.ntmps104
  go_wp2
  go_ret
  exact ⟨rfl,rfl⟩
theorem isCount_yes (pv:Value) (p:Int) (h0:0≤p) (h1:p≤4096) (w:World) (h:PaL w pv [p]):Calls Tryz.prog 83 #[pv] w fun e w'=>e=.returned (.bool true)∧Below w.heap.size w w':=by
  obtain ⟨po,cap,rfl,hc⟩:=h
  obtain ⟨b,off,rfl,hlt,hc⟩:=hc (by simp)
  have c0:=hc 0 p rfl
  rw [Nat.add_zero] at c0
  have IR:=Lib.hid (inRange_yes p h0 h1 w)
  simp only [List.length_cons,List.length_nil]
  clear hc h0 h1
  go_enter Tryz.func83,Tryz.ntmps83
  go_wp2_with fail
  refine IR.out.mono ?_
  rintro e w2 ⟨rfl,hw⟩
  obtain rfl:w=w2:=hw.symm
  go_wp2
  go_ret
  exact ⟨rfl,Below.refl _ _⟩
theorem areEnds_yes (pv:Value) (p q:Int) (h0:0≤q) (h1:q≤p) (h2:p≤4096) (w:World) (h:PaL w pv [p,q]):Calls Tryz.prog 56 #[pv] w fun e w'=>e=.returned (.bool true)∧Below w.heap.size w w':=by
  obtain ⟨po,cap,rfl,hc⟩:=h
  obtain ⟨b,off,rfl,hlt,hc⟩:=hc (by simp)
  have c0:=hc 0 p rfl
  have c1:=hc 1 q rfl
  rw [Nat.add_zero] at c0
  have IP:Hid (∀ n,Calls Tryz.prog 104 #[.int .i64 p] (w.drewN n) fun e w'=>e=.returned (.bool true)∧∃ m,w'=w.drewN m):=Lib.hid (fun n=>(inRange_yes p (by omega) h2 (w.drewN n)).mono fun e w' h=>⟨h.1,n,h.2⟩)
  have IQ:Hid (∀ n,Calls Tryz.prog 104 #[.int .i64 q] (w.drewN n) fun e w'=>e=.returned (.bool true)∧∃ m,w'=w.drewN m):=Lib.hid (fun n=>(inRange_yes q h0 (by omega) (w.drewN n)).mono fun e w' h=>⟨h.1,n,h.2⟩)
  simp only [List.length_cons,List.length_nil]
  clear hc h0 h2
  go_enter Tryz.func56,Tryz.ntmps56
  go_wp2_with fail
  go_quiet (first | (go_at_call 104; first | exact IP.out _ | exact IQ.out _))
  go_wp2
  go_ret
  exact ⟨rfl,bdrawn (Below.refl _ _) _⟩
theorem first_nm (pv av:Value) (L:List (Nat × Nat)) (wd n:Nat) (w:World) (hp:∃ po pn pc,pv=.slice po pn pc) (h:BvL w av L) (h0:L[0]?=some (wd,n)) :
    Calls Tryz.prog 25 #[.agg #[pv,av]] w fun e w'=>∃ a k c,e=.returned (.agg #[.int .i64 (wd:Int),.slice a k c])∧NmB w' (.slice a k c) n∧Below w.heap.size w w':=(first_any pv av L wd n w hp h h0).mono fun e w' ⟨v',he,hv,hb⟩=>by
  obtain ⟨u,xs,rfl,s,l,f,e1⟩:=hv
  obtain ⟨a,c,rfl⟩:=s.shape
  exact ⟨a,xs.length,c,he,⟨xs,s,l,f,e1⟩,hb⟩
theorem last_nm (pv av:Value) (L:List (Nat × Nat)) (k wd n:Nat) (w:World) (hp:∃ po pn pc,pv=.slice po pn pc) (h:BvL w av L) (hk:L.length=k+1) (hk2:k≤1048576) (h0:L[k]?=some (wd,n)) :
    Calls Tryz.prog 26 #[.agg #[pv,av]] w fun e w'=>∃ a k c,e=.returned (.agg #[.int .i64 (wd:Int),.slice a k c])∧NmB w' (.slice a k c) n∧Below w.heap.size w w':=(last_any pv av L k wd n w hp h hk hk2 h0).mono fun e w' ⟨v',he,hv,hb⟩=>by
  obtain ⟨u,xs,rfl,s,l,f,e1⟩:=hv
  obtain ⟨a,c,rfl⟩:=s.shape
  exact ⟨a,xs.length,c,he,⟨xs,s,l,f,e1⟩,hb⟩
theorem field1_bits (x:Int) (ao:Option Addr) (k c:Nat) (W:World):Sem.run Tryz.prog (Instr.field 28 (.agg #[.int .i64 x,.slice ao k c]) 1) W=.ok (.slice ao k c) W:=by kernel_rfl
theorem concat_is (pv av:Value) (wd wd' m n:Nat) (h2:wd'≤4096) (hmn:LtE (m*2 ^ wd'+n)) (w:World) (hp:∃ po pn pc,pv=.slice po pn pc) (h:BvL w av [(wd,m),(wd',n)]) :
    Calls Tryz.prog 55 #[.agg #[pv,av]] w fun e w'=>∃ v',e=.returned v'∧IntV w' v' (((m*2 ^ wd'+n:Nat):Int))∧Below w.heap.size w w':=by
  obtain ⟨po,pn,pc,rfl⟩:=hp
  obtain ⟨ao,cap,rfl⟩:=h.shape
  have HV:Hid (BvL w (.slice ao 2 cap) [(wd,m),(wd',n)]):=Lib.hid h
  clear h
  obtain ⟨W,eW,g1,g2,bel,hsz⟩:=alloc2 w (Obj.cells #[.slice po pn pc,.slice ao 2 cap] 46) (Obj.cells #[.bool false,.slice none 0 0] 50)
  have G2:=Lib.hid g2
  have hWs:w.heap.size+1<W.heap.size:=hsz
  have G1:=Lib.hid g1; have BL:=Lib.hid bel
  have SHP:Hid (∃ qo qn qc,(.slice po pn pc:Value)=.slice qo qn qc):=Lib.hid ⟨_,_,_,rfl⟩
  have FI:Hid (∀ w1,Below W.heap.size W w1→Calls Tryz.prog 25 #[.agg #[.slice po pn pc,.slice ao 2 cap]] w1 fun e w'=>∃ a k c,e=.returned (.agg #[.int .i64 (wd:Int),.slice a k c])∧NmB w' (.slice a k c) m∧Below w1.heap.size w1 w'):=Lib.hid (fun w1 hw=>first_nm _ _ [(wd,m),(wd',n)] wd m w1 SHP.out (HV.out.below (below_of bel hw)) rfl)
  have LA:Hid (∀ w1,Below W.heap.size W w1→Calls Tryz.prog 26 #[.agg #[.slice po pn pc,.slice ao 2 cap]] w1 fun e w'=>∃ a k c,e=.returned (.agg #[.int .i64 (wd':Int),.slice a k c])∧NmB w' (.slice a k c) n∧Below w1.heap.size w1 w'):=Lib.hid (fun w1 hw=>last_nm _ _ [(wd,m),(wd',n)] 1 wd' n w1 SHP.out (HV.out.below (below_of bel hw)) rfl (by omega) rfl)
  have JN:Hid (∀ va vb w1,NmB w1 va m→NmB w1 vb n→Calls Tryz.prog 103 #[va,vb,.int .i64 (wd':Int)] w1 fun e w'=>ResM w1 w' e (m*2 ^ wd'+n)):=Lib.hid (fun va vb w1 ha hb=>joinedB_any va vb m n wd' (by omega) w1 ha hb hmn)
  have AM:Hid (∀ v w1,NmB w1 v (m*2 ^ wd'+n)→Calls Tryz.prog 102 #[v] w1 fun e w'=>∃ v',e=.returned v'∧IntV w' v' ((m*2 ^ wd'+n:Nat):Int)∧Below w1.heap.size w1 w'):=Lib.hid (fun v w1 hv=>amount_any v _ w1 hv)
  generalize m*2 ^ wd'+n=z at *
  have STAY:Hid (∀ w',Below W.heap.size W w'→w'.cell? ⟨w.heap.size,0,none⟩=some (.slice po pn pc)∧w'.cell? ⟨w.heap.size,1,none⟩=some (.slice ao 2 cap)):=Lib.hid (fun w' hb=>by
    obtain ⟨e0,e1,-,-,_⟩:=blk2 (car hb G1.out)
    exact ⟨e0,e1⟩)
  have STAY2:Hid (∀ w' y0 y1,Below W.heap.size W w'→((w'.setCell ⟨w.heap.size+1,0,none⟩ y0).setCell ⟨w.heap.size+1,1,none⟩ y1).cell? ⟨w.heap.size,0,none⟩=some (.slice po pn pc)∧((w'.setCell ⟨w.heap.size+1,0,none⟩ y0).setCell ⟨w.heap.size+1,1,none⟩ y1).cell? ⟨w.heap.size,1,none⟩=some (.slice ao 2 cap)):=Lib.hid (fun w' y0 y1 hb=>by
    obtain ⟨e0,e1,-,-,_⟩:=blk2 (blk_far2 (R:=w.heap.size+1) (y0:=y0) (y1:=y1) (car hb G1.out) (by omega))
    exact ⟨e0,e1⟩)
  have hk0:=Below.refl W.heap.size W
  have hfl0:=field0_bits
  have hfl1:=field1_bits
  clear g1 bel g2
  clear hmn
  go_enter Tryz.func55,Tryz.ntmps55
  go_upto_region 1 with fail
  try rw [eW]
  go_region_held3 (fun w'=>w'.cell? ⟨w.heap.size,0,none⟩=some (.slice po pn pc)∧w'.cell? ⟨w.heap.size,1,none⟩=some (.slice ao 2 cap))
    ((first | (refine STAY.out _ ?_; first | exact hk5 | exact hk5.drew | exact hk4 | exact hk4.drew | exact hk3 | exact hk3.drew | exact hk2 | exact hk2.drew | exact hk1 | exact hk1.drew | exact hk0 | exact hk0.drew) | exact STAY2.out _ _ _ hk5 | exact STAY2.out _ _ _ hk5.drew))
    (first
    | (have tk:=TK4; go_at_call 102; (with_reducible refine Calls.mono (AM.out _ _ (by first | exact M4.out | exact nmb_drew M4.out)) ?_); rintro e u5 ⟨v5,rfl,hn,hb⟩; have hk5:Below W.heap.size W u5:=(by first | exact below_of hk4 hb | exact below_of hk4.drew hb); have TK5:True:=trivial; have I5:=Lib.hid hn; obtain ⟨n5,a5,k5,c5,rfl⟩:=hn.shape; have GR:=Lib.hid (car hk5 G2.out); obtain ⟨q0,q1,r0,r1,_⟩:=blk2 GR.out; have hz5:=hk5.size; clear hn hb)
    | (have tk:=TK3; go_at_call 103; (with_reducible refine Calls.mono (JN.out _ _ _ (by first | exact M1.out | exact nmb_drew M1.out) (by first | exact M2.out | exact nmb_drew M2.out)) ?_); rintro e u4 ⟨a4,k4,c4,rfl,hn,hb⟩; have hk4:Below W.heap.size W u4:=(by first | exact below_of hk3 hb | exact below_of hk3.drew hb); have TK4:True:=trivial; have M4:=Lib.hid hn; clear hn hb)
    | (have tk:=TK2; go_at_call 26; (with_reducible refine Calls.mono (LA.out _ (by first | exact hk2 | exact hk2.drew)) ?_); rintro e u3 ⟨a3,k3,c3,rfl,hn,hb⟩; have hk3:Below W.heap.size W u3:=(by first | exact below_of hk2 hb | exact below_of hk2.drew hb); have TK3:True:=trivial; (first | (have M':=Lib.hid (nmb_call hb M1.out)) | (have M':=Lib.hid (nmb_call hb (nmb_drew M1.out)))); clear M1; have M1:=M'; clear M'; (first | (have M':=Lib.hid (nmb_call hb M2.out)) | (have M':=Lib.hid (nmb_call hb (nmb_drew M2.out)))); clear M2; have M2:=M'; clear M'; have M3:=Lib.hid hn; clear hn hb)
    | (have tk:=TK1; go_at_call 26; (with_reducible refine Calls.mono (LA.out _ (by first | exact hk1 | exact hk1.drew)) ?_); rintro e u2 ⟨a2,k2,c2,rfl,hn,hb⟩; have hk2:Below W.heap.size W u2:=(by first | exact below_of hk1 hb | exact below_of hk1.drew hb); have TK2:True:=trivial; (first | (have M':=Lib.hid (nmb_call hb M1.out)) | (have M':=Lib.hid (nmb_call hb (nmb_drew M1.out)))); clear M1; have M1:=M'; clear M'; have M2:=Lib.hid hn; clear hn hb)
    | (go_at_call 25; (with_reducible refine Calls.mono (FI.out _ (by first | exact hk0 | exact hk0.drew)) ?_); rintro e u1 ⟨a1,k1,c1,rfl,hn,hb⟩; have hk1:Below W.heap.size W u1:=(by first | exact below_of hk0 hb | exact below_of hk0.drew hb); have TK1:True:=trivial; have M1:=Lib.hid hn; clear hn hb))
  all_goals
    go_wp2
    exact bodyPost_ret (results_it rfl rfl (set2_row _ _ GR.out)) rfl ⟨_,rfl,I5.out.far GR.out,((below_of BL.out hk5).setCell (by show w.heap.size≤w.heap.size+1; omega) _).setCell (by show w.heap.size≤w.heap.size+1; omega) _⟩
theorem extract_is (pv av:Value) (wd m:Nat) (p0:Int) (lo:Nat) (h2:lo≤4096) (hm:LtE m) (w:World) (hp:PaL w pv [p0,(lo:Int)]) (h:BvL w av [(wd,m)]) :
    Calls Tryz.prog 58 #[.agg #[pv,av]] w fun e w'=>∃ v',e=.returned v'∧IntV w' v' (((m / 2 ^ lo:Nat):Int))∧Below w.heap.size w w':=by
  have hpS:=hp.shape
  have HP:=Lib.hid hp
  obtain ⟨po,pc,rfl,hpc⟩:=hp
  obtain ⟨pb,poff,rfl,hplt,hpc⟩:=hpc (by simp)
  have pc0:=hpc 0 p0 rfl
  have pc1:=hpc 1 (lo:Int) rfl
  rw [Nat.add_zero] at pc0
  clear hpc hpS
  obtain ⟨ao,cap,rfl⟩:=h.shape
  have HV:Hid (BvL w (.slice ao 1 cap) [(wd,m)]):=Lib.hid h
  clear h
  obtain ⟨W,eW,g1,g2,bel,hsz⟩:=alloc2 w (Obj.cells #[.slice (some ⟨pb,poff,none⟩) 2 pc,.slice ao 1 cap] 46) (Obj.cells #[.bool false,.slice none 0 0] 50)
  have G2:=Lib.hid g2
  have hWs:w.heap.size+1<W.heap.size:=hsz
  have G1:=Lib.hid g1; have BL:=Lib.hid bel
  have SHP:Hid (∃ qo qn qc,(.slice (some ⟨pb,poff,none⟩) 2 pc:Value)=.slice qo qn qc):=Lib.hid ⟨_,_,_,rfl⟩
  have FI:Hid (∀ w1,Below W.heap.size W w1→Calls Tryz.prog 25 #[.agg #[.slice (some ⟨pb,poff,none⟩) 2 pc,.slice ao 1 cap]] w1 fun e w'=>∃ a k c,e=.returned (.agg #[.int .i64 (wd:Int),.slice a k c])∧NmB w' (.slice a k c) m∧Below w1.heap.size w1 w'):=Lib.hid (fun w1 hw=>first_nm _ _ [(wd,m)] wd m w1 SHP.out (HV.out.below (below_of bel hw)) rfl)
  have DN:Hid (∀ v w1,NmB w1 v m→Calls Tryz.prog 105 #[v,.int .i64 (lo:Int)] w1 fun e w'=>ResM w1 w' e (m / 2 ^ lo)):=Lib.hid (fun v w1 hv=>down_any v m lo (by omega) w1 hv hm)
  have AM:Hid (∀ v w1,NmB w1 v (m / 2 ^ lo)→Calls Tryz.prog 102 #[v] w1 fun e w'=>∃ v',e=.returned v'∧IntV w' v' ((m / 2 ^ lo:Nat):Int)∧Below w1.heap.size w1 w'):=Lib.hid (fun v w1 hv=>amount_any v _ w1 hv)
  generalize m / 2 ^ lo=z at *
  have PC0:Hid (∀ w',Below W.heap.size W w'→w'.cell? ⟨pb,poff,none⟩=some (.int .i64 p0)):=Lib.hid (fun w' hb=>((below_of bel hb).cell (p:=⟨pb,poff,none⟩) hplt).trans pc0)
  have PC1:Hid (∀ w',Below W.heap.size W w'→w'.cell? ⟨pb,poff+1,none⟩=some (.int .i64 (lo:Int))):=Lib.hid (fun w' hb=>((below_of bel hb).cell (p:=⟨pb,poff+1,none⟩) hplt).trans pc1)
  have STAY:Hid (∀ w',Below W.heap.size W w'→w'.cell? ⟨w.heap.size,0,none⟩=some (.slice (some ⟨pb,poff,none⟩) 2 pc)∧w'.cell? ⟨w.heap.size,1,none⟩=some (.slice ao 1 cap)∧w'.cell? ⟨pb,poff,none⟩=some (.int .i64 p0)∧w'.cell? ⟨pb,poff+1,none⟩=some (.int .i64 (lo:Int))):=Lib.hid (fun w' hb=>by
    obtain ⟨e0,e1,-,-,_⟩:=blk2 (car hb G1.out)
    exact ⟨e0,e1,PC0.out _ hb,PC1.out _ hb⟩)
  have STAY2:Hid (∀ w' y0 y1,Below W.heap.size W w'→((w'.setCell ⟨w.heap.size+1,0,none⟩ y0).setCell ⟨w.heap.size+1,1,none⟩ y1).cell? ⟨w.heap.size,0,none⟩=some (.slice (some ⟨pb,poff,none⟩) 2 pc)∧((w'.setCell ⟨w.heap.size+1,0,none⟩ y0).setCell ⟨w.heap.size+1,1,none⟩ y1).cell? ⟨w.heap.size,1,none⟩=some (.slice ao 1 cap)∧((w'.setCell ⟨w.heap.size+1,0,none⟩ y0).setCell ⟨w.heap.size+1,1,none⟩ y1).cell? ⟨pb,poff,none⟩=some (.int .i64 p0)∧((w'.setCell ⟨w.heap.size+1,0,none⟩ y0).setCell ⟨w.heap.size+1,1,none⟩ y1).cell? ⟨pb,poff+1,none⟩=some (.int .i64 (lo:Int))):=Lib.hid (fun w' y0 y1 hb=>by
    obtain ⟨e0,e1,-,-,_⟩:=blk2 (blk_far2 (R:=w.heap.size+1) (y0:=y0) (y1:=y1) (car hb G1.out) (by omega))
    exact ⟨e0,e1,(World.cell?_setCell_other (w:=w'.setCell ⟨w.heap.size+1,0,none⟩ y0) (a:=⟨w.heap.size+1,1,none⟩) (b:=⟨pb,poff,none⟩) (v:=y1) (fun e=>by have:=congrArg Addr.block e; simp only at this; omega)).trans ((World.cell?_setCell_other (w:=w') (a:=⟨w.heap.size+1,0,none⟩) (b:=⟨pb,poff,none⟩) (v:=y0) (fun e=>by have:=congrArg Addr.block e; simp only at this; omega)).trans (PC0.out _ hb)),(World.cell?_setCell_other (w:=w'.setCell ⟨w.heap.size+1,0,none⟩ y0) (a:=⟨w.heap.size+1,1,none⟩) (b:=⟨pb,poff+1,none⟩) (v:=y1) (fun e=>by have:=congrArg Addr.block e; simp only at this; omega)).trans ((World.cell?_setCell_other (w:=w') (a:=⟨w.heap.size+1,0,none⟩) (b:=⟨pb,poff+1,none⟩) (v:=y0) (fun e=>by have:=congrArg Addr.block e; simp only at this; omega)).trans (PC1.out _ hb))⟩)
  have hk0:=Below.refl W.heap.size W
  have hfl0:=field0_bits
  have hfl1:=field1_bits
  clear g1 bel g2
  clear hm
  go_enter Tryz.func58,Tryz.ntmps58
  go_upto_region 1 with fail
  try rw [eW]
  go_region_held3 (fun w'=>w'.cell? ⟨w.heap.size,0,none⟩=some (.slice (some ⟨pb,poff,none⟩) 2 pc)∧w'.cell? ⟨w.heap.size,1,none⟩=some (.slice ao 1 cap)∧w'.cell? ⟨pb,poff,none⟩=some (.int .i64 p0)∧w'.cell? ⟨pb,poff+1,none⟩=some (.int .i64 (lo:Int)))
    ((first | (refine STAY.out _ ?_; first | exact hk3 | exact hk3.drew | exact hk2 | exact hk2.drew | exact hk1 | exact hk1.drew | exact hk0 | exact hk0.drew) | exact STAY2.out _ _ _ hk3 | exact STAY2.out _ _ _ hk3.drew))
    (first
    | (have tk:=TK2; go_at_call 102; (with_reducible refine Calls.mono (AM.out _ _ (by first | exact M2.out | exact nmb_drew M2.out)) ?_); rintro e u3 ⟨v3,rfl,hn,hb⟩; have hk3:Below W.heap.size W u3:=(by first | exact below_of hk2 hb | exact below_of hk2.drew hb); have TK3:True:=trivial; have I3:=Lib.hid hn; obtain ⟨n3,a3,k3,c3,rfl⟩:=hn.shape; have GR:=Lib.hid (car hk3 G2.out); obtain ⟨q0,q1,r0,r1,_⟩:=blk2 GR.out; have hz3:=hk3.size; clear hn hb)
    | (have tk:=TK1; go_at_call 105; (with_reducible refine Calls.mono (DN.out _ _ (by first | exact M1.out | exact nmb_drew M1.out)) ?_); rintro e u2 ⟨a2,k2,c2,rfl,hn,hb⟩; have hk2:Below W.heap.size W u2:=(by first | exact below_of hk1 hb | exact below_of hk1.drew hb); have TK2:True:=trivial; have M2:=Lib.hid hn; clear hn hb)
    | (go_at_call 25; (with_reducible refine Calls.mono (FI.out _ (by first | exact hk0 | exact hk0.drew)) ?_); rintro e u1 ⟨a1,k1,c1,rfl,hn,hb⟩; have hk1:Below W.heap.size W u1:=(by first | exact below_of hk0 hb | exact below_of hk0.drew hb); have TK1:True:=trivial; have M1:=Lib.hid hn; clear hn hb))
  all_goals
    go_wp2
    exact bodyPost_ret (results_it rfl rfl (set2_row _ _ GR.out)) rfl ⟨_,rfl,I3.out.far GR.out,((below_of BL.out hk3).setCell (by show w.heap.size≤w.heap.size+1; omega) _).setCell (by show w.heap.size≤w.heap.size+1; omega) _⟩
theorem together_is (pv av:Value) (wd wd' m n:Nat) (h1:wd≤4096) (h2:wd'≤4096) (w:World) (hp:∃ po pn pc,pv=.slice po pn pc) (h:BvL w av [(wd,m),(wd',n)]) :
    Calls Tryz.prog 54 #[.agg #[pv,av]] w fun e w'=>e=.returned (.int .i64 ((wd:Int)+(wd':Int)))∧Below w.heap.size w w':=by
  obtain ⟨po,pn,pc,rfl⟩:=hp
  obtain ⟨ao,cap,rfl⟩:=h.shape
  have HV:Hid (BvL w (.slice ao 2 cap) [(wd,m),(wd',n)]):=Lib.hid h
  clear h
  obtain ⟨W,eW,g1,bel,hsz⟩:=alloc1n w (Obj.cells #[.slice po pn pc,.slice ao 2 cap] 46)
  have G1:=Lib.hid g1; have BL:=Lib.hid bel
  have SHP:Hid (∃ qo qn qc,(.slice po pn pc:Value)=.slice qo qn qc):=Lib.hid ⟨_,_,_,rfl⟩
  have FI:Hid (∀ w1,Below W.heap.size W w1→Calls Tryz.prog 25 #[.agg #[.slice po pn pc,.slice ao 2 cap]] w1 fun e w'=>∃ a k c,e=.returned (.agg #[.int .i64 (wd:Int),.slice a k c])∧NmB w' (.slice a k c) m∧Below w1.heap.size w1 w'):=Lib.hid (fun w1 hw=>first_nm _ _ [(wd,m),(wd',n)] wd m w1 SHP.out (HV.out.below (below_of bel hw)) rfl)
  have LA:Hid (∀ w1,Below W.heap.size W w1→Calls Tryz.prog 26 #[.agg #[.slice po pn pc,.slice ao 2 cap]] w1 fun e w'=>∃ a k c,e=.returned (.agg #[.int .i64 (wd':Int),.slice a k c])∧NmB w' (.slice a k c) n∧Below w1.heap.size w1 w'):=Lib.hid (fun w1 hw=>last_nm _ _ [(wd,m),(wd',n)] 1 wd' n w1 SHP.out (HV.out.below (below_of bel hw)) rfl (by omega) rfl)
  have STAY:Hid (∀ w',Below W.heap.size W w'→w'.cell? ⟨w.heap.size,0,none⟩=some (.slice po pn pc)∧w'.cell? ⟨w.heap.size,1,none⟩=some (.slice ao 2 cap)):=Lib.hid (fun w' hb=>by
    obtain ⟨e0,e1,-,-,_⟩:=blk2 (car hb G1.out)
    exact ⟨e0,e1⟩)
  have hk0:=Below.refl W.heap.size W
  have hfl0:=field0_bits
  have hfl1:=field1_bits
  clear g1 bel
  have hwr:IntKind.i64.wrap ((wd:Int)+(wd':Int))=(wd:Int)+(wd':Int):=IntWalk.i64_in _ (by omega)
  go_enter Tryz.func54,Tryz.ntmps54
  go_upto_region 1 with fail
  try rw [eW]
  go_region_held3 (fun w'=>w'.cell? ⟨w.heap.size,0,none⟩=some (.slice po pn pc)∧w'.cell? ⟨w.heap.size,1,none⟩=some (.slice ao 2 cap))
    ((first | (refine STAY.out _ ?_; first | exact hk2 | exact hk2.drew | exact hk1 | exact hk1.drew | exact hk0 | exact hk0.drew)))
    (first
    | (have tk:=TK1; go_at_call 26; (with_reducible refine Calls.mono (LA.out _ (by first | exact hk1 | exact hk1.drew)) ?_); rintro e u2 ⟨a2,k2,c2,rfl,hn,hb⟩; have hk2:Below W.heap.size W u2:=(by first | exact below_of hk1 hb | exact below_of hk1.drew hb); have TK2:True:=trivial; have M2:=Lib.hid hn; clear hn hb)
    | (go_at_call 25; (with_reducible refine Calls.mono (FI.out _ (by first | exact hk0 | exact hk0.drew)) ?_); rintro e u1 ⟨a1,k1,c1,rfl,hn,hb⟩; have hk1:Below W.heap.size W u1:=(by first | exact below_of hk0 hb | exact below_of hk0.drew hb); have TK1:True:=trivial; have M1:=Lib.hid hn; clear hn hb))
  all_goals
    go_wp2
    go_ret
    exact ⟨rfl,below_of BL.out (by first | exact hk2 | exact hk2.drew)⟩
theorem extended_is (pv av:Value) (wd m:Nat) (p0:Int) (h1:wd≤4096) (h2:0≤p0) (h3:p0≤4096) (w:World) (hp:PaL w pv [p0]) (h:BvL w av [(wd,m)]) :
    Calls Tryz.prog 84 #[.agg #[pv,av]] w fun e w'=>e=.returned (.int .i64 ((wd:Int)+p0))∧Below w.heap.size w w':=by
  have hpS:=hp.shape
  have HP:=Lib.hid hp
  obtain ⟨po,pc,rfl,hpc⟩:=hp
  obtain ⟨pb,poff,rfl,hplt,hpc⟩:=hpc (by simp)
  have pc0:=hpc 0 p0 rfl
  rw [Nat.add_zero] at pc0
  clear hpc hpS
  obtain ⟨ao,cap,rfl⟩:=h.shape
  have HV:Hid (BvL w (.slice ao 1 cap) [(wd,m)]):=Lib.hid h
  clear h
  obtain ⟨W,eW,g1,bel,hsz⟩:=alloc1n w (Obj.cells #[.slice (some ⟨pb,poff,none⟩) 1 pc,.slice ao 1 cap] 46)
  have G1:=Lib.hid g1; have BL:=Lib.hid bel
  have SHP:Hid (∃ qo qn qc,(.slice (some ⟨pb,poff,none⟩) 1 pc:Value)=.slice qo qn qc):=Lib.hid ⟨_,_,_,rfl⟩
  have FI:Hid (∀ w1,Below W.heap.size W w1→Calls Tryz.prog 25 #[.agg #[.slice (some ⟨pb,poff,none⟩) 1 pc,.slice ao 1 cap]] w1 fun e w'=>∃ a k c,e=.returned (.agg #[.int .i64 (wd:Int),.slice a k c])∧NmB w' (.slice a k c) m∧Below w1.heap.size w1 w'):=Lib.hid (fun w1 hw=>first_nm _ _ [(wd,m)] wd m w1 SHP.out (HV.out.below (below_of bel hw)) rfl)
  have PC0:Hid (∀ w',Below W.heap.size W w'→w'.cell? ⟨pb,poff,none⟩=some (.int .i64 p0)):=Lib.hid (fun w' hb=>((below_of bel hb).cell (p:=⟨pb,poff,none⟩) hplt).trans pc0)
  have STAY:Hid (∀ w',Below W.heap.size W w'→w'.cell? ⟨w.heap.size,0,none⟩=some (.slice (some ⟨pb,poff,none⟩) 1 pc)∧w'.cell? ⟨w.heap.size,1,none⟩=some (.slice ao 1 cap)∧w'.cell? ⟨pb,poff,none⟩=some (.int .i64 p0)):=Lib.hid (fun w' hb=>by
    obtain ⟨e0,e1,-,-,_⟩:=blk2 (car hb G1.out)
    exact ⟨e0,e1,PC0.out _ hb⟩)
  have hk0:=Below.refl W.heap.size W
  have hfl0:=field0_bits
  have hfl1:=field1_bits
  clear g1 bel
  have hwr:IntKind.i64.wrap ((wd:Int)+p0)=(wd:Int)+p0:=IntWalk.i64_in _ (by omega)
  go_enter Tryz.func84,Tryz.ntmps84
  go_upto_region 1 with fail
  try rw [eW]
  go_region_held3 (fun w'=>w'.cell? ⟨w.heap.size,0,none⟩=some (.slice (some ⟨pb,poff,none⟩) 1 pc)∧w'.cell? ⟨w.heap.size,1,none⟩=some (.slice ao 1 cap)∧w'.cell? ⟨pb,poff,none⟩=some (.int .i64 p0))
    ((first | (refine STAY.out _ ?_; first | exact hk1 | exact hk1.drew | exact hk0 | exact hk0.drew)))
    (first
    | (go_at_call 25; (with_reducible refine Calls.mono (FI.out _ (by first | exact hk0 | exact hk0.drew)) ?_); rintro e u1 ⟨a1,k1,c1,rfl,hn,hb⟩; have hk1:Below W.heap.size W u1:=(by first | exact below_of hk0 hb | exact below_of hk0.drew hb); have TK1:True:=trivial; have M1:=Lib.hid hn; clear hn hb))
  all_goals
    go_wp2
    go_ret
    exact ⟨rfl,below_of BL.out (by first | exact hk1 | exact hk1.drew)⟩
end Go.Proofs.YtacbkpenohcgjaaGreat
namespace Go.Proofs.YtacbkpenohcgjaaGreat
open Go.RowKit Mth
def rotZ (wd m n:Nat):Nat:=m*2 ^ n+m / 2 ^ (wd - n)
theorem rotated_is (pv av:Value) (wd m n:Nat) (h2:wd≤4096) (hn:n≤wd) (hm:LtE (rotZ wd m n)) (w:World) (hp:∃ po pn pc,pv=.slice po pn pc) (h:BvL w av [(wd,m)]) :
    Calls Tryz.prog 131 #[.agg #[pv,av],.int .i64 (n:Int)] w fun e w'=>∃ v',e=.returned v'∧IntV w' v' ((rotZ wd m n:Nat):Int)∧Below w.heap.size w w':=by
  obtain ⟨po,pn,pc,rfl⟩:=hp
  obtain ⟨ao,cap,rfl⟩:=h.shape
  have hm1:LtE m:=⟨Nat.lt_of_le_of_lt (Nat.le_trans (Nat.le_mul_of_pos_right _ (two_pos n)) (Nat.le_add_right _ _)) hm.out⟩
  obtain ⟨W,eW,g1,g2,bel,hsz⟩:=alloc2 w (Obj.cells #[.slice po pn pc,.slice ao 1 cap] 46) (Obj.cells #[.bool false,.slice none 0 0] 50)
  have G2:=Lib.hid g2; have BL:=Lib.hid bel
  have hWs:w.heap.size+1<W.heap.size:=hsz
  have FI:=Lib.hid (first_nm (.slice po pn pc) _ [(wd,m)] wd m W ⟨_,_,_,rfl⟩ (h.below bel) rfl)
  have DN:Hid (∀ v w1,NmB w1 v m→Calls Tryz.prog 105 #[v,.int .i64 ((wd:Int) - (n:Int))] w1 fun e w'=>ResM w1 w' e (m / 2 ^ (wd - n))):=Lib.hid (fun v w1 hv=>by
    have h:=down_any v m (wd - n) (by omega) w1 hv hm1
    rw [show ((wd - n:Nat):Int)=(wd:Int) - (n:Int) by omega] at h
    exact h)
  have JN:Hid (∀ va vb w1,NmB w1 va m→NmB w1 vb (m / 2 ^ (wd - n))→Calls Tryz.prog 103 #[va,vb,.int .i64 (n:Int)] w1 fun e w'=>ResM w1 w' e (rotZ wd m n)):=Lib.hid (fun va vb w1 ha hb=>joinedB_any va vb m _ n (by omega) w1 ha hb hm)
  have AM:Hid (∀ v w1,NmB w1 v (rotZ wd m n)→Calls Tryz.prog 102 #[v] w1 fun e w'=>∃ v',e=.returned v'∧IntV w' v' ((rotZ wd m n:Nat):Int)∧Below w1.heap.size w1 w'):=Lib.hid (fun v w1 hv=>amount_any v _ w1 hv)
  have hwr:IntKind.i64.wrap ((wd:Int) - (n:Int))=(wd:Int) - (n:Int):=IntWalk.i64_in _ (by omega)
  have hwr2:wrap64 ((wd:Int) - (n:Int))=(wd:Int) - (n:Int):=IntWalk.wrap64_in _ (by omega)
  generalize rotZ wd m n=z at *
  generalize m / 2 ^ (wd - n)=y at *
  obtain ⟨c0,c1,-,-,_⟩:=blk2 g1
  clear h g1 g2 bel hm hm1
  go_enter Tryz.func131,Tryz.ntmps131
  go_wp2_with fail
  try rw [eW]
  refine FI.out.mono ?_
  rintro e u1 ⟨a1,k1,c1',rfl,hn1,hb1⟩
  obtain ⟨V,eV,gV,bV,hVs⟩:=alloc1n u1 (Obj.cells #[.int .i64 (wd:Int),.slice a1 k1 c1'] 28)
  have MV:=Lib.hid (hn1.below bV)
  have BV:=Lib.hid (below_of BL.out (below_of hb1 bV))
  have GA:=Lib.hid gV; have GB:=Lib.hid (car bV (car hb1 G2.out))
  have hu1:W.heap.size≤u1.heap.size:=hb1.size
  have EV:=Lib.hid eV
  clear hn1 hb1 gV bV eV c0 c1
  go_upto_region 2 with fail
  try rw [EV.out]
  have STAY:Hid (∀ w',Below V.heap.size V w'→w'.cell? ⟨u1.heap.size,0,none⟩=some (.int .i64 (wd:Int))∧w'.cell? ⟨u1.heap.size,1,none⟩=some (.slice a1 k1 c1')):=Lib.hid (fun w' hb=>by
    obtain ⟨e0,e1,-,-,_⟩:=blk2 (car hb GA.out)
    exact ⟨e0,e1⟩)
  have STAY2:Hid (∀ w' y0 y1,Below V.heap.size V w'→((w'.setCell ⟨w.heap.size+1,0,none⟩ y0).setCell ⟨w.heap.size+1,1,none⟩ y1).cell? ⟨u1.heap.size,0,none⟩=some (.int .i64 (wd:Int))∧((w'.setCell ⟨w.heap.size+1,0,none⟩ y0).setCell ⟨w.heap.size+1,1,none⟩ y1).cell? ⟨u1.heap.size,1,none⟩=some (.slice a1 k1 c1')):=Lib.hid (fun w' y0 y1 hb=>by
    obtain ⟨e0,e1,-,-,_⟩:=blk2 (blk_far2 (R:=w.heap.size+1) (y0:=y0) (y1:=y1) (car hb GA.out) (by omega))
    exact ⟨e0,e1⟩)
  have hk0:=Below.refl V.heap.size V
  go_region_held3 (fun w'=>w'.cell? ⟨u1.heap.size,0,none⟩=some (.int .i64 (wd:Int))∧w'.cell? ⟨u1.heap.size,1,none⟩=some (.slice a1 k1 c1'))
    ((first | (refine STAY.out _ ?_; first | exact hk3 | exact hk3.drew | exact hk2 | exact hk2.drew | exact hk1 | exact hk1.drew | exact hk0 | exact hk0.drew) | exact STAY2.out _ _ _ hk3 | exact STAY2.out _ _ _ hk3.drew))
    (first
    | (have tk:=TK2; go_at_call 102; (with_reducible refine Calls.mono (AM.out _ _ (by first | exact M2.out | exact nmb_drew M2.out)) ?_); rintro e u4 ⟨v4,rfl,hn,hb⟩; have hk3:Below V.heap.size V u4:=(by first | exact below_of hk2 hb | exact below_of hk2.drew hb); have I3:=Lib.hid hn; obtain ⟨n3,a3,k3,c3,rfl⟩:=hn.shape; have GR:=Lib.hid (car hk3 GB.out); obtain ⟨q0,q1,r0,r1,_⟩:=blk2 GR.out; have hz3:=hk3.size; clear hn hb)
    | (have tk:=TK1; go_at_call 103; (with_reducible refine Calls.mono (JN.out _ _ _ (MV.out.below (by first | exact hk1 | exact hk1.drew)) (by first | exact M1.out | exact nmb_drew M1.out)) ?_); rintro e u3 ⟨a3',k3',c3',rfl,hn,hb⟩; have hk2:Below V.heap.size V u3:=(by first | exact below_of hk1 hb | exact below_of hk1.drew hb); have TK2:True:=trivial; have M2:=Lib.hid hn; clear hn hb)
    | (go_at_call 105; (with_reducible refine Calls.mono (DN.out _ _ (MV.out.below (by first | exact hk0 | exact hk0.drew))) ?_); rintro e u2 ⟨a2,k2,c2,rfl,hn,hb⟩; have hk1:Below V.heap.size V u2:=(by first | exact below_of hk0 hb | exact below_of hk0.drew hb); have TK1:True:=trivial; have M1:=Lib.hid hn; clear hn hb))
  all_goals
    go_wp2
    exact bodyPost_ret (results_it rfl rfl (set2_row _ _ GR.out)) rfl ⟨_,rfl,I3.out.far GR.out,((below_of BV.out hk3).setCell (by show w.heap.size≤w.heap.size+1; omega) _).setCell (by show w.heap.size≤w.heap.size+1; omega) _⟩
theorem mod_nat (p wd:Nat):((p:Int) % (wd:Int))=((p % wd:Nat):Int):=by rw [Int.natCast_emod]
theorem tmod_nat (p wd:Nat):((p:Int).tmod (wd:Int))=((p % wd:Nat):Int):=by rw [Int.tmod_eq_emod_of_nonneg (by omega),Int.natCast_emod]
theorem rotL_is (pv av:Value) (wd m p q:Nat) (hq:p % wd=q) (h1:1≤wd) (h2:wd≤4096) (hp4:p≤4096) (hm:LtE (rotZ wd m (q))) (w:World) (hp:PaL w pv [(p:Int)]) (h:BvL w av [(wd,m)]) :
    Calls Tryz.prog 87 #[.agg #[pv,av]] w fun e w'=>∃ v',e=.returned v'∧IntV w' v' (((rotZ wd m q:Nat):Int))∧Below w.heap.size w w':=by
  have hpS:=hp.shape
  have HP:=Lib.hid hp
  obtain ⟨po,pc,rfl,hpc⟩:=hp
  obtain ⟨pb,poff,rfl,hplt,hpc⟩:=hpc (by simp)
  have pc0:=hpc 0 (p:Int) rfl
  rw [Nat.add_zero] at pc0
  clear hpc hpS
  obtain ⟨ao,cap,rfl⟩:=h.shape
  have HV:Hid (BvL w (.slice ao 1 cap) [(wd,m)]):=Lib.hid h
  clear h
  obtain ⟨W,eW,g1,g2,bel,hsz⟩:=alloc2 w (Obj.cells #[.slice (some ⟨pb,poff,none⟩) 1 pc,.slice ao 1 cap] 46) (Obj.cells #[.bool false,.slice none 0 0] 50)
  have G2:=Lib.hid g2
  have hWs:w.heap.size+1<W.heap.size:=hsz
  have G1:=Lib.hid g1; have BL:=Lib.hid bel
  have SHP:Hid (∃ qo qn qc,(.slice (some ⟨pb,poff,none⟩) 1 pc:Value)=.slice qo qn qc):=Lib.hid ⟨_,_,_,rfl⟩
  have FI:Hid (∀ w1,Below W.heap.size W w1→Calls Tryz.prog 25 #[.agg #[.slice (some ⟨pb,poff,none⟩) 1 pc,.slice ao 1 cap]] w1 fun e w'=>∃ a k c,e=.returned (.agg #[.int .i64 (wd:Int),.slice a k c])∧NmB w' (.slice a k c) m∧Below w1.heap.size w1 w'):=Lib.hid (fun w1 hw=>first_nm _ _ [(wd,m)] wd m w1 SHP.out (HV.out.below (below_of bel hw)) rfl)
  have RO:Hid (∀ w1,Below W.heap.size W w1→Calls Tryz.prog 131 #[.agg #[.slice (some ⟨pb,poff,none⟩) 1 pc,.slice ao 1 cap],.int .i64 ((q:Int))] w1 fun e w'=>∃ v',e=.returned v'∧IntV w' v' ((rotZ wd m (q):Nat):Int)∧Below w1.heap.size w1 w'):=Lib.hid (fun w1 hw=>by
    have h:=rotated_is (.slice (some ⟨pb,poff,none⟩) 1 pc) (.slice ao 1 cap) wd m (q) h2 (by have:=Nat.mod_lt p (show 0<wd by omega); omega) hm w1 SHP.out (HV.out.below (below_of bel hw))
    exact h)
  have PC0:Hid (∀ w',Below W.heap.size W w'→w'.cell? ⟨pb,poff,none⟩=some (.int .i64 (p:Int))):=Lib.hid (fun w' hb=>((below_of bel hb).cell (p:=⟨pb,poff,none⟩) hplt).trans pc0)
  have STAY:Hid (∀ w',Below W.heap.size W w'→w'.cell? ⟨w.heap.size,0,none⟩=some (.slice (some ⟨pb,poff,none⟩) 1 pc)∧w'.cell? ⟨w.heap.size,1,none⟩=some (.slice ao 1 cap)∧w'.cell? ⟨pb,poff,none⟩=some (.int .i64 (p:Int))):=Lib.hid (fun w' hb=>by
    obtain ⟨e0,e1,-,-,_⟩:=blk2 (car hb G1.out)
    exact ⟨e0,e1,PC0.out _ hb⟩)
  have STAY2:Hid (∀ w' y0 y1,Below W.heap.size W w'→((w'.setCell ⟨w.heap.size+1,0,none⟩ y0).setCell ⟨w.heap.size+1,1,none⟩ y1).cell? ⟨w.heap.size,0,none⟩=some (.slice (some ⟨pb,poff,none⟩) 1 pc)∧((w'.setCell ⟨w.heap.size+1,0,none⟩ y0).setCell ⟨w.heap.size+1,1,none⟩ y1).cell? ⟨w.heap.size,1,none⟩=some (.slice ao 1 cap)∧((w'.setCell ⟨w.heap.size+1,0,none⟩ y0).setCell ⟨w.heap.size+1,1,none⟩ y1).cell? ⟨pb,poff,none⟩=some (.int .i64 (p:Int))):=Lib.hid (fun w' y0 y1 hb=>by
    obtain ⟨e0,e1,-,-,_⟩:=blk2 (blk_far2 (R:=w.heap.size+1) (y0:=y0) (y1:=y1) (car hb G1.out) (by omega))
    exact ⟨e0,e1,(World.cell?_setCell_other (w:=w'.setCell ⟨w.heap.size+1,0,none⟩ y0) (a:=⟨w.heap.size+1,1,none⟩) (b:=⟨pb,poff,none⟩) (v:=y1) (fun e=>by have:=congrArg Addr.block e; simp only at this; omega)).trans ((World.cell?_setCell_other (w:=w') (a:=⟨w.heap.size+1,0,none⟩) (b:=⟨pb,poff,none⟩) (v:=y0) (fun e=>by have:=congrArg Addr.block e; simp only at this; omega)).trans (PC0.out _ hb))⟩)
  have hk0:=Below.refl W.heap.size W
  have hfl0:=field0_bits
  have hfl1:=field1_bits
  clear g1 bel g2
  have hmod:((p:Int) % (wd:Int))=(q:Int):=by rw [mod_nat,hq]
  have htmod:((p:Int).tmod (wd:Int))=(q:Int):=by rw [tmod_nat,hq]
  have hp0:(0:Int)≤(p:Int):=by omega
  have hw2:(1:Int)≤(wd:Int):=by omega
  have hw0:((wd:Int) == 0)=false:=beq_eq_false_iff_ne.2 (by omega)
  have hwn:¬ wd=0:=by omega
  clear hm hq
  go_enter Tryz.func87,Tryz.ntmps87
  go_upto_region 1 with fail
  try rw [eW]
  go_region_held3 (fun w'=>w'.cell? ⟨w.heap.size,0,none⟩=some (.slice (some ⟨pb,poff,none⟩) 1 pc)∧w'.cell? ⟨w.heap.size,1,none⟩=some (.slice ao 1 cap)∧w'.cell? ⟨pb,poff,none⟩=some (.int .i64 (p:Int)))
    ((first | (refine STAY.out _ ?_; first | exact hk2 | exact hk2.drew | exact hk1 | exact hk1.drew | exact hk0 | exact hk0.drew) | exact STAY2.out _ _ _ hk2 | exact STAY2.out _ _ _ hk2.drew))
    (first
    | (have tk:=TK1; go_at_call 131; (with_reducible refine Calls.mono (RO.out _ (by first | exact hk1 | exact hk1.drew)) ?_); rintro e u2 ⟨v2,rfl,hn,hb⟩; have hk2:Below W.heap.size W u2:=(by first | exact below_of hk1 hb | exact below_of hk1.drew hb); have TK2:True:=trivial; have I2:=Lib.hid hn; obtain ⟨n2,a2,k2,c2,rfl⟩:=hn.shape; have GR:=Lib.hid (car hk2 G2.out); obtain ⟨q0,q1,r0,r1,_⟩:=blk2 GR.out; have hz2:=hk2.size; clear hn hb)
    | (go_at_call 25; (with_reducible refine Calls.mono (FI.out _ (by first | exact hk0 | exact hk0.drew)) ?_); rintro e u1 ⟨a1,k1,c1,rfl,hn,hb⟩; have hk1:Below W.heap.size W u1:=(by first | exact below_of hk0 hb | exact below_of hk0.drew hb); have TK1:True:=trivial; have M1:=Lib.hid hn; clear hn hb))
  all_goals
    go_wp2
    exact bodyPost_ret (results_it rfl rfl (set2_row _ _ GR.out)) rfl ⟨_,rfl,I2.out.far GR.out,((below_of BL.out hk2).setCell (by show w.heap.size≤w.heap.size+1; omega) _).setCell (by show w.heap.size≤w.heap.size+1; omega) _⟩
theorem rotR_is (pv av:Value) (wd m p q:Nat) (hq:p % wd=q) (h1:1≤wd) (h2:wd≤4096) (hp4:p≤4096) (hm:LtE (rotZ wd m (wd - q))) (w:World) (hp:PaL w pv [(p:Int)]) (h:BvL w av [(wd,m)]) :
    Calls Tryz.prog 88 #[.agg #[pv,av]] w fun e w'=>∃ v',e=.returned v'∧IntV w' v' ((rotZ wd m (wd - q):Nat):Int)∧Below w.heap.size w w':=by
  obtain ⟨po,pc,rfl,hpc⟩:=hp
  obtain ⟨pb,poff,rfl,hplt,hpc⟩:=hpc (by simp)
  have pc0:=hpc 0 (p:Int) rfl
  rw [Nat.add_zero] at pc0
  clear hpc
  obtain ⟨ao,cap,rfl⟩:=h.shape
  have HV:Hid (BvL w (.slice ao 1 cap) [(wd,m)]):=Lib.hid h
  clear h
  obtain ⟨W,eW,g1,g2,bel,hsz⟩:=alloc2 w (Obj.cells #[.slice (some ⟨pb,poff,none⟩) 1 pc,.slice ao 1 cap] 46) (Obj.cells #[.bool false,.slice none 0 0] 50)
  have G1:=Lib.hid g1; have G2:=Lib.hid g2; have BL:=Lib.hid bel
  have hWs:w.heap.size+1<W.heap.size:=hsz
  have SHP:Hid (∃ qo qn qc,(Value.slice (some ⟨pb,poff,none⟩) 1 pc)=.slice qo qn qc):=Lib.hid ⟨_,_,_,rfl⟩
  have FI:=Lib.hid (first_nm (.slice (some ⟨pb,poff,none⟩) 1 pc) _ [(wd,m)] wd m W SHP.out (HV.out.below bel) rfl)
  have hqw:q≤wd:=by have:=Nat.mod_lt p (show 0<wd by omega); omega
  have RO:Hid (∀ w1,Below W.heap.size W w1→Calls Tryz.prog 131 #[.agg #[.slice (some ⟨pb,poff,none⟩) 1 pc,.slice ao 1 cap],.int .i64 ((wd:Int) - (q:Int))] w1 fun e w'=>∃ v',e=.returned v'∧IntV w' v' ((rotZ wd m (wd - q):Nat):Int)∧Below w1.heap.size w1 w'):=Lib.hid (fun w1 hw=>by
    have h:=rotated_is (.slice (some ⟨pb,poff,none⟩) 1 pc) (.slice ao 1 cap) wd m (wd - q) h2 (by omega) hm w1 SHP.out (HV.out.below (below_of bel hw))
    rw [show ((wd - q:Nat):Int)=(wd:Int) - (q:Int) by omega] at h
    exact h)
  have PC0:Hid (∀ w',Below W.heap.size W w'→w'.cell? ⟨pb,poff,none⟩=some (.int .i64 (p:Int))):=Lib.hid (fun w' hb=>((below_of bel hb).cell (p:=⟨pb,poff,none⟩) hplt).trans pc0)
  have htmod:((p:Int).tmod (wd:Int))=(q:Int):=by rw [tmod_nat,hq]
  have hwn:¬ wd=0:=by omega
  have hwr:IntKind.i64.wrap ((wd:Int) - (q:Int))=(wd:Int) - (q:Int):=IntWalk.i64_in _ (by omega)
  have hfl0:=field0_bits
  obtain ⟨c0,c1,-,-,_⟩:=blk2 g1
  generalize ((rotZ wd m (wd - q):Nat):Int)=z at *
  clear g1 g2 bel hm hq
  go_enter Tryz.func88,Tryz.ntmps88
  go_wp2_with fail
  try rw [eW]
  refine FI.out.mono ?_
  rintro e X ⟨a1,k1,c1',rfl,-,hb⟩
  have BX:=Lib.hid hb
  have GA:=Lib.hid (car hb G1.out)
  have hWX:=hb.size
  clear hb c0 c1
  go_upto_region 2 with fail
  have STAY:Hid (∀ w',Below X.heap.size X w'→w'.cell? ⟨w.heap.size,0,none⟩=some (.slice (some ⟨pb,poff,none⟩) 1 pc)∧w'.cell? ⟨w.heap.size,1,none⟩=some (.slice ao 1 cap)∧w'.cell? ⟨pb,poff,none⟩=some (.int .i64 (p:Int))):=Lib.hid (fun w' hb=>by
    obtain ⟨e0,e1,-,-,_⟩:=blk2 (car hb GA.out)
    exact ⟨e0,e1,PC0.out _ (below_of BX.out hb)⟩)
  have STAY2:Hid (∀ w' y0 y1,Below X.heap.size X w'→((w'.setCell ⟨w.heap.size+1,0,none⟩ y0).setCell ⟨w.heap.size+1,1,none⟩ y1).cell? ⟨w.heap.size,0,none⟩=some (.slice (some ⟨pb,poff,none⟩) 1 pc)∧((w'.setCell ⟨w.heap.size+1,0,none⟩ y0).setCell ⟨w.heap.size+1,1,none⟩ y1).cell? ⟨w.heap.size,1,none⟩=some (.slice ao 1 cap)∧((w'.setCell ⟨w.heap.size+1,0,none⟩ y0).setCell ⟨w.heap.size+1,1,none⟩ y1).cell? ⟨pb,poff,none⟩=some (.int .i64 (p:Int))):=Lib.hid (fun w' y0 y1 hb=>by
    obtain ⟨e0,e1,-,-,_⟩:=blk2 (blk_far2 (R:=w.heap.size+1) (y0:=y0) (y1:=y1) (car hb GA.out) (by omega))
    exact ⟨e0,e1,(World.cell?_setCell_other (w:=w'.setCell ⟨w.heap.size+1,0,none⟩ y0) (a:=⟨w.heap.size+1,1,none⟩) (b:=⟨pb,poff,none⟩) (v:=y1) (fun e=>by have:=congrArg Addr.block e; simp only at this; omega)).trans ((World.cell?_setCell_other (w:=w') (a:=⟨w.heap.size+1,0,none⟩) (b:=⟨pb,poff,none⟩) (v:=y0) (fun e=>by have:=congrArg Addr.block e; simp only at this; omega)).trans (PC0.out _ (below_of BX.out hb)))⟩)
  have hk0:=Below.refl X.heap.size X
  go_region_held3 (fun w'=>w'.cell? ⟨w.heap.size,0,none⟩=some (.slice (some ⟨pb,poff,none⟩) 1 pc)∧w'.cell? ⟨w.heap.size,1,none⟩=some (.slice ao 1 cap)∧w'.cell? ⟨pb,poff,none⟩=some (.int .i64 (p:Int)))
    ((first | (refine STAY.out _ ?_; first | exact hk1 | exact hk1.drew | exact hk0 | exact hk0.drew) | exact STAY2.out _ _ _ hk1 | exact STAY2.out _ _ _ hk1.drew))
    (first
    | (go_at_call 131; (with_reducible refine Calls.mono (RO.out _ (below_of BX.out (by first | exact hk0 | exact hk0.drew))) ?_); rintro e u4 ⟨v4,rfl,hn,hb⟩; have hk1:Below X.heap.size X u4:=(by first | exact below_of hk0 hb | exact below_of hk0.drew hb); have I3:=Lib.hid hn; obtain ⟨n3,a3,k3,c3,rfl⟩:=hn.shape; have GR:=Lib.hid (car (below_of BX.out hk1) G2.out); obtain ⟨q0,q1,r0,r1,_⟩:=blk2 GR.out; have hz3:=hk1.size; clear hn hb))
  all_goals
    go_wp2
    exact bodyPost_ret (results_it rfl rfl (set2_row _ _ GR.out)) rfl ⟨_,rfl,I3.out.far GR.out,((below_of BL.out (below_of BX.out hk1)).setCell (by show w.heap.size≤w.heap.size+1; omega) _).setCell (by show w.heap.size≤w.heap.size+1; omega) _⟩
end Go.Proofs.YtacbkpenohcgjaaGreat
namespace Go.Proofs.YtacbkpenohcgjaaGreat
open Go.RowKit Mth
theorem between_is (pv av:Value) (wd m:Nat) (p0 p1:Int) (h2:wd≤4096) (h0:0≤p1) (h3:p1≤p0) (h4:p0<wd) (w:World) (hp:PaL w pv [p0,p1]) (h:BvL w av [(wd,m)]) :
    Calls Tryz.prog 57 #[.agg #[pv,av]] w fun e w'=>e=.returned (.int .i64 (p0 - p1+1))∧Below w.heap.size w w':=by
  have hpS:=hp.shape
  have HP:=Lib.hid hp
  obtain ⟨po,pc,rfl,hpc⟩:=hp
  obtain ⟨pb,poff,rfl,hplt,hpc⟩:=hpc (by simp)
  have pc0:=hpc 0 p0 rfl
  have pc1:=hpc 1 p1 rfl
  rw [Nat.add_zero] at pc0
  clear hpc hpS
  obtain ⟨ao,cap,rfl⟩:=h.shape
  have HV:Hid (BvL w (.slice ao 1 cap) [(wd,m)]):=Lib.hid h
  clear h
  obtain ⟨W,eW,g1,bel,hsz⟩:=alloc1n w (Obj.cells #[.slice (some ⟨pb,poff,none⟩) 2 pc,.slice ao 1 cap] 46)
  have G1:=Lib.hid g1; have BL:=Lib.hid bel
  have SHP:Hid (∃ qo qn qc,(.slice (some ⟨pb,poff,none⟩) 2 pc:Value)=.slice qo qn qc):=Lib.hid ⟨_,_,_,rfl⟩
  have FI:Hid (∀ w1,Below W.heap.size W w1→Calls Tryz.prog 25 #[.agg #[.slice (some ⟨pb,poff,none⟩) 2 pc,.slice ao 1 cap]] w1 fun e w'=>∃ a k c,e=.returned (.agg #[.int .i64 (wd:Int),.slice a k c])∧NmB w' (.slice a k c) m∧Below w1.heap.size w1 w'):=Lib.hid (fun w1 hw=>first_nm _ _ [(wd,m)] wd m w1 SHP.out (HV.out.below (below_of bel hw)) rfl)
  have PC0:Hid (∀ w',Below W.heap.size W w'→w'.cell? ⟨pb,poff,none⟩=some (.int .i64 p0)):=Lib.hid (fun w' hb=>((below_of bel hb).cell (p:=⟨pb,poff,none⟩) hplt).trans pc0)
  have PC1:Hid (∀ w',Below W.heap.size W w'→w'.cell? ⟨pb,poff+1,none⟩=some (.int .i64 p1)):=Lib.hid (fun w' hb=>((below_of bel hb).cell (p:=⟨pb,poff+1,none⟩) hplt).trans pc1)
  have STAY:Hid (∀ w',Below W.heap.size W w'→w'.cell? ⟨w.heap.size,0,none⟩=some (.slice (some ⟨pb,poff,none⟩) 2 pc)∧w'.cell? ⟨w.heap.size,1,none⟩=some (.slice ao 1 cap)∧w'.cell? ⟨pb,poff,none⟩=some (.int .i64 p0)∧w'.cell? ⟨pb,poff+1,none⟩=some (.int .i64 p1)):=Lib.hid (fun w' hb=>by
    obtain ⟨e0,e1,-,-,_⟩:=blk2 (car hb G1.out)
    exact ⟨e0,e1,PC0.out _ hb,PC1.out _ hb⟩)
  have hk0:=Below.refl W.heap.size W
  have hfl0:=field0_bits
  have hfl1:=field1_bits
  clear g1 bel
  have hwr:IntKind.i64.wrap (p0 - p1)=p0 - p1:=IntWalk.i64_in _ (by omega)
  have hwr2:IntKind.i64.wrap (p0 - p1+1)=p0 - p1+1:=IntWalk.i64_in _ (by omega)
  have hge:decide ((wd:Int)≤p0)=false:=decide_eq_false (by omega)
  go_enter Tryz.func57,Tryz.ntmps57
  go_upto_region 1 with fail
  try rw [eW]
  go_region_held3 (fun w'=>w'.cell? ⟨w.heap.size,0,none⟩=some (.slice (some ⟨pb,poff,none⟩) 2 pc)∧w'.cell? ⟨w.heap.size,1,none⟩=some (.slice ao 1 cap)∧w'.cell? ⟨pb,poff,none⟩=some (.int .i64 p0)∧w'.cell? ⟨pb,poff+1,none⟩=some (.int .i64 p1))
    ((first | (refine STAY.out _ ?_; first | exact hk1 | exact hk1.drew | exact hk0 | exact hk0.drew)))
    (first
    | (go_at_call 25; (with_reducible refine Calls.mono (FI.out _ (by first | exact hk0 | exact hk0.drew)) ?_); rintro e u1 ⟨a1,k1,c1,rfl,hn,hb⟩; have hk1:Below W.heap.size W u1:=(by first | exact below_of hk0 hb | exact below_of hk0.drew hb); have TK1:True:=trivial; have M1:=Lib.hid hn; clear hn hb))
  all_goals
    obtain ⟨e0,e1,e2,e3⟩:=STAY.out _ hk1
    go_wp2_with fail
    go_region
    go_wp2
    go_ret
    exact ⟨rfl,below_of BL.out (by first | exact hk1 | exact hk1.drew)⟩
end Go.Proofs.YtacbkpenohcgjaaGreat
namespace Go.Proofs.YtacbkpenohcgjaaGreat
open Go.RowKit Mth
theorem apply_parE (kk:Int) (pf f:Nat) (d:Value) (hd:d.oneCell'=true) (hcp:∀ args W,(callFunc pf args).run Tryz.prog W=.ok (.enter pf args) W) (hcf:∀ args W,(callFunc f args).run Tryz.prog W=.ok (.enter f args) W)
    (hO:∀ w1,Calls Tryz.prog 9 #[.int .i64 kk] w1 fun e w'=>e=.returned (.tuple #[.agg #[.int .i64 1,.func (.func pf) #[] #[],.bool false,d,.func (.func f) #[] #[]],.bool true])∧Below w1.heap.size w1 w')
    (pv av:Value) (ps:List Int) (wd m :Nat) (wx:Int) (hx:isW wx=false) (h1:1≤wd) (h2:wd≤4096) (hm:m<2 ^ wd) (w:World) (hp:PaL w pv ps) (h:BvL w av [(wd,m)])
    (hP:∀ w1,PaL w1 pv ps→Calls Tryz.prog pf #[pv] w1 fun e w'=>e=.returned (.bool true)∧Below w1.heap.size w1 w')
    (hW:∀ w1,PaL w1 pv ps→BvL w1 av [(wd,m)]→Calls Tryz.prog 12 #[.agg #[.int .i64 1,.func (.func pf) #[] #[],.bool false,d,.func (.func f) #[] #[]],.agg #[pv,av]] w1 fun e w'=>e=.returned (.int .i64 (wx:Int))∧Below w1.heap.size w1 w')
     :
    Calls Tryz.prog 5 #[.int .i64 kk,pv,av] w fun e w'=>e=.returned (.tuple #[BvE,.int .i64 55])∧Below w.heap.size w w':=by
  obtain ⟨ao,cap,hav⟩:=h.shape
  refine apply_err kk 1 55 (.func (.func pf) #[] #[]) d false f rfl hd (by decide) pv av w hp.shape ⟨_,_,_,hav⟩ hO (fun w1 hw=>?_)
  exact fault_p_55 1 d f hd pf hcp pv av w1 hp.shape ao 1 cap hav rfl (fun w2 hw2=>hP w2 ((hp.below hw).below hw2)) (fun w2 hw2=>areRight_fine av _ w2 ((h.below hw).below hw2) (fine_one h1 h2 hm) (by simp)) wd wd m m (fun w2 hw2=>first_any pv av _ wd m w2 hp.shape ((h.below hw).below hw2) rfl) (fun w2 hw2=>last_any pv av _ 0 wd m w2 hp.shape ((h.below hw).below hw2) rfl (by omega) rfl) rfl wx hx (fun w2 hw2=>hW w2 ((hp.below hw).below hw2) ((h.below hw).below hw2))
theorem lte_of {n a b:Nat} (h:n<2 ^ a) (ha:a≤8192):LtE n:=⟨Nat.lt_of_lt_of_le h (Nat.pow_le_pow_right (by omega) ha)⟩
theorem concat_lt {wd wd' m n:Nat} (hm:m<2 ^ wd) (hn:n<2 ^ wd'):m*2 ^ wd'+n<2 ^ (wd+wd'):=by
  rw [Nat.pow_add]
  have h:=Nat.mul_le_mul_right (2 ^ wd') (show m+1≤2 ^ wd from hm)
  rw [Nat.add_mul] at h
  omega
theorem rot_lt {wd m n:Nat} (hm:m<2 ^ wd) (hn:n≤wd):rotZ wd m n<2 ^ (wd+n):=by
  unfold rotZ
  have h2:m / 2 ^ (wd - n)<2 ^ n:=Nat.div_lt_of_lt_mul (by rw [← Nat.pow_add,Nat.sub_add_cancel hn]; exact hm)
  rw [Nat.pow_add]
  have h:=Nat.mul_le_mul_right (2 ^ n) (show m+1≤2 ^ wd from hm)
  rw [Nat.add_mul] at h
  omega
theorem apply_zextE (pv av:Value) (wd m p:Nat) (h1:1≤wd) (h2:wd≤4096) (hm:m<2 ^ wd) (hp4:p≤4096) (hp5:4096<wd+p) (w:World) (hp:PaL w pv [(p:Int)]) (h:BvL w av [(wd,m)]) :
    Calls Tryz.prog 5 #[.int .i64 64,pv,av] w fun e w'=>e=.returned (.tuple #[BvE,.int .i64 55])∧Below w.heap.size w w' :=
  apply_parE 64 83 85 (.func (.func 84) #[] #[]) rfl (fun args W=>enters_of Tryz.func83 (by kernel_rfl) rfl args W) (fun args W=>enters_of Tryz.func85 (by kernel_rfl) rfl args W) (operatorOf_at 64 (by omega) 1 (.func (.func 83) #[] #[]) (.func (.func 84) #[] #[]) false 85 rfl rfl (by kernel_rfl) (by kernel_rfl) (by kernel_rfl) (by kernel_rfl) (by kernel_rfl)) pv av _ wd m ((wd+p:Nat):Int) (by simp only [isW,Bool.and_eq_false_iff,decide_eq_false_iff_not]; omega) h1 h2 hm w hp h (fun w1 hp1=>isCount_yes pv _ (by omega) (by omega) w1 hp1)
    (fun w1 hp1 hb1=>by
      obtain ⟨ao,cap,hav⟩:=hb1.shape
      refine widthOf_fn 1 _ _ false 84 85 rfl pv av w1 hp1.shape ⟨_,_,_,hav⟩ (fun args W=>enters_of Tryz.func84 (by kernel_rfl) rfl args W) (fun w2 hw2=>?_)
      have h:=extended_is pv av wd m (p:Int) h2 (by omega) (by omega) w2 (hp1.below hw2) (hb1.below hw2)
      rw [show ((wd+p:Nat):Int)=(wd:Int)+(p:Int) by omega]
      exact h)
theorem apply_sextE (pv av:Value) (wd m p:Nat) (h1:1≤wd) (h2:wd≤4096) (hm:m<2 ^ wd) (hp4:p≤4096) (hp5:4096<wd+p) (w:World) (hp:PaL w pv [(p:Int)]) (h:BvL w av [(wd,m)]) :
    Calls Tryz.prog 5 #[.int .i64 65,pv,av] w fun e w'=>e=.returned (.tuple #[BvE,.int .i64 55])∧Below w.heap.size w w' :=
  apply_parE 65 83 86 (.func (.func 84) #[] #[]) rfl (fun args W=>enters_of Tryz.func83 (by kernel_rfl) rfl args W) (fun args W=>enters_of Tryz.func86 (by kernel_rfl) rfl args W) (operatorOf_at 65 (by omega) 1 (.func (.func 83) #[] #[]) (.func (.func 84) #[] #[]) false 86 rfl rfl (by kernel_rfl) (by kernel_rfl) (by kernel_rfl) (by kernel_rfl) (by kernel_rfl)) pv av _ wd m ((wd+p:Nat):Int) (by simp only [isW,Bool.and_eq_false_iff,decide_eq_false_iff_not]; omega) h1 h2 hm w hp h (fun w1 hp1=>isCount_yes pv _ (by omega) (by omega) w1 hp1)
    (fun w1 hp1 hb1=>by
      obtain ⟨ao,cap,hav⟩:=hb1.shape
      refine widthOf_fn 1 _ _ false 84 86 rfl pv av w1 hp1.shape ⟨_,_,_,hav⟩ (fun args W=>enters_of Tryz.func84 (by kernel_rfl) rfl args W) (fun w2 hw2=>?_)
      have h:=extended_is pv av wd m (p:Int) h2 (by omega) (by omega) w2 (hp1.below hw2) (hb1.below hw2)
      rw [show ((wd+p:Nat):Int)=(wd:Int)+(p:Int) by omega]
      exact h)
end Go.Proofs.YtacbkpenohcgjaaGreat
namespace Go.Proofs.YtacbkpenohcgjaaGreat
open Go.RowKit Mth
theorem BvK.a {w:World} {wd k c n:Nat} {a:Option Addr} (h:BvK w wd a k c n):∃ xs,BvA w (.agg #[.int .i64 (wd:Int),.slice a k c]) (wd:Int) xs∧val B64 xs=n:=by
  obtain ⟨xs,rfl,s,l,t,e,b,f⟩:=h
  exact ⟨xs,⟨_,rfl,s,l,f⟩,e⟩
end Go.Proofs.YtacbkpenohcgjaaGreat
