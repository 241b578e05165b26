import Derived.Test.YtacbkpenohcgjaaGreatVN2
import Derived.Test.YtacbkpenohcgjaaGreatVN1
set_option linter.unusedVariables false
set_option linter.unusedSimpArgs false
set_option maxHeartbeats 16000000
set_option maxRecDepth 100000
namespace Go.Proofs.YtacbkpenohcgjaaGreat
open Go.RowKit Mth
theorem widthOf_fn (n x:Int) (p:Value) (mx:Bool) (dn f:Nat) (hp:p.oneCell'=true) (pv av:Value) (w:World) (hpv:∃ po pn pc,pv=.slice po pn pc) (hav:∃ ao ak ac,av=.slice ao ak ac)
    (hcf:∀ args W,(callFunc dn args).run Tryz.prog W=.ok (.enter dn args) W) (hW:∀ w1,Below w.heap.size w w1→Calls Tryz.prog dn #[.agg #[pv,av]] w1 fun e w'=>e=.returned (.int .i64 x)∧Below w1.heap.size w1 w') :
    Calls Tryz.prog 12 #[.agg #[.int .i64 n,p,.bool mx,.func (.func dn) #[] #[],.func (.func f) #[] #[]],.agg #[pv,av]] w fun e w'=>e=.returned (.int .i64 x)∧Below w.heap.size w w':=by
  obtain ⟨po,pn,pc,rfl⟩:=hpv
  obtain ⟨ao,ak,ac,rfl⟩:=hav
  obtain ⟨W,eW,g1,g2,bel,hsz⟩:=alloc2 w (Obj.cells #[.int .i64 n,p,.bool mx,.func (.func dn) #[] #[],.func (.func f) #[] #[]] 42) (Obj.cells #[.slice po pn pc,.slice ao ak ac] 46)
  have FA:=Lib.hid (hW W bel)
  have BL:=Lib.hid bel
  obtain ⟨c0,c1,c2,c3,c4⟩:=blk5o g1
  obtain ⟨q0,q1,r0,r1,_⟩:=blk2 g2
  clear g1 g2 bel hW
  have hbn:∀ W,Sem.run Tryz.prog (binOp BinOp.eql 39 (Value.func (Fn.func dn) #[] #[]) Value.nilFunc) W=.ok (.bool false) W:=fun W=>by kernel_rfl
  go_enter Tryz.func12,Tryz.ntmps12
  go_wp2_with fail
  try rw [eW]
  refine FA.out.mono ?_
  rintro e w2 ⟨rfl,hb2⟩
  have B2:=Lib.hid (below_of BL.out hb2)
  clear hb2
  go_wp2
  go_ret
  exact ⟨rfl,B2.out⟩
theorem widthOf_nil (n:Int) (p:Value) (mx:Bool) (f:Nat) (hp1:p.oneCell'=true) (pv av:Value) (L:List (Nat × Nat)) (wd m:Nat) (w:World) (hp:∃ po pn pc,pv=.slice po pn pc) (h:BvL w av L) (h0:L[0]?=some (wd,m)) :
    Calls Tryz.prog 12 #[.agg #[.int .i64 n,p,.bool mx,.nilFunc,.func (.func f) #[] #[]],.agg #[pv,av]] w fun e w'=>e=.returned (.int .i64 (wd:Int))∧Below w.heap.size w w':=by
  obtain ⟨po,pn,pc,rfl⟩:=hp
  obtain ⟨ao,cap,rfl⟩:=h.shape
  obtain ⟨W,eW,g1,g2,bel,hsz⟩:=alloc2 w (Obj.cells #[.int .i64 n,p,.bool mx,.nilFunc,.func (.func f) #[] #[]] 42) (Obj.cells #[.slice po pn pc,.slice ao L.length cap] 46)
  have FA:=Lib.hid (first_any (.slice po pn pc) _ L wd m W ⟨_,_,_,rfl⟩ (h.below bel) h0)
  have BL:=Lib.hid bel
  obtain ⟨c0,c1,c2,c3,c4⟩:=blk5o g1
  obtain ⟨q0,q1,r0,r1,_⟩:=blk2 g2
  clear h g1 g2 bel h0
  generalize L.length=mm at *
  have hbn:∀ W,Sem.run Tryz.prog (binOp BinOp.eql 39 Value.nilFunc Value.nilFunc) W=.ok (.bool true) W:=fun W=>by kernel_rfl
  have hfl:=field0_bits
  go_enter Tryz.func12,Tryz.ntmps12
  go_wp2_with fail
  try rw [eW]
  refine FA.out.mono ?_
  rintro e w2 ⟨v2,rfl,hv2,hb2⟩
  have B2:=Lib.hid (below_of BL.out hb2)
  obtain ⟨u2,xs2,rfl,s2,-⟩:=hv2
  obtain ⟨a2,k2,rfl⟩:=s2.shape
  clear hb2 s2
  go_wp2
  go_ret
  exact ⟨rfl,B2.out⟩
def BvLX (w:World) (av:Value) (L:List (Int × List Nat)):Prop:=∃ ao cap,av=.slice ao L.length cap∧(L≠[]→∃ b off,ao=some ⟨b,off,none⟩∧b<w.heap.size∧∀ i p,L[i]?=some p→∃ u,w.cell? ⟨b,off+i*2,none⟩=some (.int .i64 p.1)∧w.cell? ⟨b,off+i*2+1,none⟩=some u∧Sl w .u64 u p.2∧Lim B64 p.2∧p.2.length≤4000000)
theorem BvLX.below {w w':World} {av:Value} {L:List (Int × List Nat)} (h:BvLX w av L) (hb:Below w.heap.size w w'):BvLX w' av L:=by
  obtain ⟨ao,cap,rfl,h⟩:=h
  refine ⟨ao,cap,rfl,fun hne=>?_⟩
  obtain ⟨b,off,rfl,hlt,h⟩:=h hne
  refine ⟨b,off,rfl,Nat.lt_of_lt_of_le hlt hb.size,fun i p hp=>?_⟩
  obtain ⟨u,h1,h2,h3,h4⟩:=h i p hp
  exact ⟨u,(hb.cell (p:=⟨b,off+i*2,none⟩) hlt).trans h1,(hb.cell (p:=⟨b,off+i*2+1,none⟩) hlt).trans h2,h3.below hb,h4⟩
theorem BvLX.shape {w:World} {av:Value} {L:List (Int × List Nat)} (h:BvLX w av L):∃ ao cap,av=.slice ao L.length cap:=by obtain ⟨ao,cap,h,-⟩:=h; exact ⟨ao,cap,h⟩
def rightX (p:Int × List Nat):Bool:=rightF p.1 (val B64 p.2)
theorem BvLX.fine {w:World} {av:Value} {L:List (Int × List Nat)} (h:BvLX w av L) (hr:∀ p∈L,rightX p=true):BvL w av (L.map fun p=>(p.1.toNat,val B64 p.2))∧∀ p∈L.map (fun p=>(p.1.toNat,val B64 p.2)),FineV p:=by
  have hw:∀ p∈L,1≤p.1∧p.1≤4096∧val B64 p.2<2 ^ p.1.toNat:=fun p hp=>by
    have h1:=hr p hp
    unfold rightX rightF isW at h1
    simp only [Bool.and_eq_true,decide_eq_true_eq] at h1
    obtain ⟨⟨a,b⟩,c⟩:=h1
    refine ⟨a,b, ?_⟩
    exact Nat.lt_of_lt_of_le (lt_bl _) (Nat.pow_le_pow_right (by omega) (by omega))
  refine ⟨?_,fun q hq=>?_⟩
  · obtain ⟨ao,cap,rfl,h⟩:=h
    refine ⟨ao,cap,by rw [List.length_map],fun hne=>?_⟩
    obtain ⟨b,off,rfl,hlt,h⟩:=h (fun e=>hne (by rw [e]; rfl))
    refine ⟨b,off,rfl,hlt,fun i q hq=>?_⟩
    rw [List.getElem?_map] at hq
    obtain ⟨p,hp,rfl⟩:=Option.map_eq_some_iff.1 hq
    obtain ⟨u,h1,h2,h3,h4,h5⟩:=h i p hp
    obtain ⟨w1,w2,w3⟩:=hw p (List.mem_of_getElem? hp)
    exact ⟨u,p.2,by rw [h1]; simp only; rw [Int.toNat_of_nonneg (by omega)],h2,h3,h4,h5,rfl⟩
  · obtain ⟨p,hp,rfl⟩:=List.mem_map.1 hq
    obtain ⟨w1,w2,w3⟩:=hw p hp
    exact ⟨by simp only; omega,by simp only; omega,w3⟩
theorem areRight_bad (av:Value) (L:List (Int × List Nat)) (w:World) (h:BvLX w av L) (j:Nat) (hj:j<L.length) (hbad:rightX L[j]=false) (hgood:∀ i (hi:i<j),rightX (L[i]'(by omega))=true) (hlen:L.length≤1048576) :
    Calls Tryz.prog 24 #[av] w fun e w'=>e=.returned (.bool false)∧Below w.heap.size w w':=by
  have HV:=Lib.hid h
  have HG:=Lib.hid hgood
  have HB:=Lib.hid hbad
  obtain ⟨ao,cap,rfl⟩:=h.shape
  clear h hgood hbad
  go_enter Tryz.func24,Tryz.ntmps24
  go_wp2_with fail
  go_loopw [7] (fun i wr=>∃ k:Nat,k≤j∧i=.int .i64 (k:Int)∧Below w.heap.size w wr) (fun i _=>L.length - (intOf i).toNat)
  case atStart=>exact ⟨0,Nat.zero_le _,rfl,Below.refl _ _⟩
  case round =>
    obtain ⟨k,hk,rfl,hb⟩:=hrel
    have hl:k<L.length:=by omega
    obtain ⟨ao',cap',e,hc⟩:=HV.out.below hb
    simp only [Value.slice.injEq] at e
    obtain ⟨rfl,-,rfl⟩:=e
    obtain ⟨b,off,rfl,hlt,hc⟩:=hc (fun e=>by rw [e] at hl; simp at hl)
    obtain ⟨u,h1,h2,h3,h4,h5⟩:=hc k L[k] (List.getElem?_eq_getElem hl)
    have hr:rightX L[k]=decide (k<j):=by
      by_cases hkj:k<j
      · rw [decide_eq_true hkj]; exact HG.out k hkj
      · obtain rfl:k=j:=by omega
        rw [decide_eq_false hkj]; exact HB.out
    generalize L[k]=p at *
    obtain ⟨x,xs⟩:=p
    dsimp only at h1 h2 h3 h4 h5
    obtain ⟨V,eV,gV,bV,hVs⟩:=alloc1n wr (Obj.cells #[.int .i64 x,u] 28)
    have RT:=Lib.hid (right_any x u xs V (h3.below bV) h4)
    rw [show rightF x (val B64 xs)=decide (k<j) from hr] at RT
    have BV:=Lib.hid (below_of hb bV)
    obtain ⟨uo,uc,rfl⟩:=h3.shape
    obtain ⟨c0,c1,r0,r1,_⟩:=blk2 gV
    clear hc h3 h4 h5 gV bV hb hr
    by_cases hkj:k<j
    · rw [decide_eq_true hkj] at RT
      go_wp2_with fail
      try rw [eV]
      refine RT.out.mono ?_
      rintro e w2 ⟨rfl,hb2⟩
      have B2:=Lib.hid (below_of BV.out hb2)
      clear hb2
      go_wp2
      go_roundw
      case rel=>exact ⟨k+1,by omega,by go_num,B2.out⟩
      case measure=>(simp [intOf]; try omega)
    · rw [decide_eq_false hkj] at RT
      go_wp2_with fail
      try rw [eV]
      refine RT.out.mono ?_
      rintro e w2 ⟨rfl,hb2⟩
      have B2:=Lib.hid (below_of BV.out hb2)
      clear hb2
      go_wp2
      go_ret
      exact ⟨rfl,B2.out⟩
theorem areRight_no (av:Value) (L:List (Int × List Nat)) (w:World) (h:BvLX w av L) (hlen:L.length≤1048576) (hb:¬ ∀ p∈L,rightX p=true) :
    Calls Tryz.prog 24 #[av] w fun e w'=>e=.returned (.bool false)∧Below w.heap.size w w':=by
  have:∃ j,∃ (hj:j<L.length),rightX L[j]=false∧∀ i (hi:i<j),rightX (L[i]'(by omega))=true:=by
    clear h hlen
    induction L with
    | nil=>exact absurd (fun p hp=>by cases hp) hb
    | cons q l ih =>
      cases hq:rightX q
      · exact ⟨0,by simp,hq,fun i hi=>absurd hi (by omega)⟩
      · obtain ⟨j,hj,h1,h2⟩:=ih (fun hh=>hb (fun p hp=>by
          rcases List.mem_cons.1 hp with rfl | hp
          · exact hq
          · exact hh p hp))
        refine ⟨j+1,by simpa using hj,by simpa using h1,fun i hi=>?_⟩
        cases i with
        | zero=>simpa using hq
        | succ i=>simpa using h2 i (by omega)
  obtain ⟨j,hj,h1,h2⟩:=this
  exact areRight_bad av L w h j hj h1 h2 hlen
end Go.Proofs.YtacbkpenohcgjaaGreat
namespace Go.Proofs.YtacbkpenohcgjaaGreat
open Go.RowKit Mth
theorem apply_gen (kk n:Int) (p d:Value) (mx:Bool) (f:Nat) (hp:p.oneCell'=true) (hd:d.oneCell'=true) (hcf:∀ args W,(callFunc f args).run Tryz.prog W=.ok (.enter f args) W)
    (pv av:Value) (wd:Nat) (z:Int) (h1:1≤wd) (h2:wd≤4096) (w:World) (hpv:∃ po pn pc,pv=.slice po pn pc) (hav:∃ ao ak ac,av=.slice ao ak ac)
    (hO:∀ w1,Calls Tryz.prog 9 #[.int .i64 kk] w1 fun e w'=>e=.returned (.tuple #[.agg #[.int .i64 n,p,.bool mx,d,.func (.func f) #[] #[]],.bool true])∧Below w1.heap.size w1 w')
    (hF:∀ w1,Below w.heap.size w w1→Calls Tryz.prog 10 #[.agg #[.int .i64 n,p,.bool mx,d,.func (.func f) #[] #[]],.agg #[pv,av]] w1 fun e w'=>e=.returned (.int .i64 0)∧Below w1.heap.size w1 w')
    (hW:∀ w1,Below w.heap.size w w1→Calls Tryz.prog 12 #[.agg #[.int .i64 n,p,.bool mx,d,.func (.func f) #[] #[]],.agg #[pv,av]] w1 fun e w'=>e=.returned (.int .i64 (wd:Int))∧Below w1.heap.size w1 w')
    (hN:∀ w1,Below w.heap.size w w1→Calls Tryz.prog f #[.agg #[pv,av]] w1 fun e w'=>∃ v',e=.returned v'∧IntV w' v' z∧Below w1.heap.size w1 w') :
    Calls Tryz.prog 5 #[.int .i64 kk,pv,av] w fun e w'=>∃ v',e=.returned (.tuple #[v',.int .i64 0])∧BvO w' w.heap.size v' wd (vecN wd z)∧Below w.heap.size w w':=by
  obtain ⟨po,pn,pc,rfl⟩:=hpv
  obtain ⟨ao,ak,ac,rfl⟩:=hav
  obtain ⟨W,eW,gW,bW,hWs⟩:=alloc1n w (Obj.cells #[.int .i64 0,.slice none 0 0] 28)
  have OP:=Lib.hid (hO W)
  have FT:Hid (∀ w1,Below W.heap.size W w1→_):=Lib.hid (fun w1 h=>hF w1 (below_of bW h))
  have WO:Hid (∀ w1,Below W.heap.size W w1→_):=Lib.hid (fun w1 h=>hW w1 (below_of bW h))
  have NU:Hid (∀ w1,Below W.heap.size W w1→_):=Lib.hid (fun w1 h=>hN w1 (below_of bW h))
  have VE:Hid (∀ v w1,IntV w1 v z→Calls Tryz.prog 11 #[.int .i64 (wd:Int),v] w1 fun e w'=>∃ v',e=.returned (.agg #[.int .i64 (wd:Int),v'])∧Ow w' w1.heap.size v' (vecN wd z)∧Below w1.heap.size w1 w'):=Lib.hid (fun v w1 hv=>vector_any wd h1 h2 v z w1 hv)
  have hs1:∀ (a:Addr) (W:World) m,Sem.run Tryz.prog (store a p m) W=stored Tryz.prog W a p m:=fun a W m=>run_store Tryz.prog W a _ m hp
  have hs2:∀ (a:Addr) (W:World) m,Sem.run Tryz.prog (store a (.func (.func f) #[] #[]) m) W=stored Tryz.prog W a (.func (.func f) #[] #[]) m:=fun a W m=>run_store Tryz.prog W a _ m rfl
  have hs3:∀ (a:Addr) (W:World) m,Sem.run Tryz.prog (store a d m) W=stored Tryz.prog W a d m:=fun a W m=>run_store Tryz.prog W a _ m hd
  have GW:=Lib.hid gW; have BW:=Lib.hid bW
  clear gW bW hF hW hN hO hp hd
  go_enter Tryz.func5,Tryz.ntmps5
  go_wp2_with fail
  try rw [eW]
  refine OP.out.mono ?_
  rintro e w2 ⟨rfl,hb2⟩
  obtain ⟨V,eV,gV1,gV2,bV,hVs⟩:=alloc2 w2 (Obj.cells #[.int .i64 n,p,.bool mx,d,.func (.func f) #[] #[]] 42) (Obj.cells #[.slice po pn pc,.slice ao ak ac] 46)
  have BV:=Lib.hid (below_of hb2 bV)
  have FF:=Lib.hid (FT.out V BV.out)
  have G1:=Lib.hid gV1; have G2:=Lib.hid gV2; have G0:=Lib.hid (car BV.out GW.out)
  have hw2:W.heap.size≤w2.heap.size:=hb2.size
  have hz:W.heap.size≤V.heap.size:=BV.out.size
  have hw0:w.heap.size<W.heap.size:=hWs
  obtain ⟨x0,x1,x2,x3,x4⟩:=blk5o gV1
  obtain ⟨y0,y1,-,-,_⟩:=blk2 gV2
  clear hb2 gV1 gV2 bV
  go_wp2_with fail
  try rw [eV]
  refine FF.out.mono ?_
  rintro e w5 ⟨rfl,hb5⟩
  have B5:=Lib.hid (below_of BV.out hb5)
  have GA:=Lib.hid (car hb5 G1.out); have GB:=Lib.hid (car hb5 G2.out); have GC:=Lib.hid (car hb5 G0.out)
  have hz5:=hb5.size
  obtain ⟨x0',x1',x2',x3',x4'⟩:=blk5o GA.out
  obtain ⟨y0',y1',-,-,_⟩:=blk2 GB.out
  obtain ⟨s0,s1,s2,s3,_⟩:=blk2 GC.out
  clear hb5 x0 x1 x2 x3 x4 y0 y1
  have STAY:Hid (∀ w',Below w5.heap.size w5 w'→w'.cell? ⟨w2.heap.size,0,none⟩=some (.int .i64 n)∧w'.cell? ⟨w2.heap.size,1,none⟩=some p∧w'.cell? ⟨w2.heap.size,2,none⟩=some (.bool mx)∧w'.cell? ⟨w2.heap.size,3,none⟩=some d∧w'.cell? ⟨w2.heap.size,4,none⟩=some (.func (.func f) #[] #[])∧w'.cell? ⟨w2.heap.size+1,0,none⟩=some (.slice po pn pc)∧w'.cell? ⟨w2.heap.size+1,1,none⟩=some (.slice ao ak ac)):=Lib.hid (fun w' hb=>by
    obtain ⟨e0,e1,e2,e3,e4⟩:=blk5o (car hb GA.out)
    obtain ⟨e5,e6,-,-,_⟩:=blk2 (car hb GB.out)
    exact ⟨e0,e1,e2,e3,e4,e5,e6⟩)
  have STAY2:Hid (∀ w' y0 y1,Below w5.heap.size w5 w'→((w'.setCell ⟨w.heap.size,0,none⟩ y0).setCell ⟨w.heap.size,1,none⟩ y1).cell? ⟨w2.heap.size,0,none⟩=some (.int .i64 n)∧((w'.setCell ⟨w.heap.size,0,none⟩ y0).setCell ⟨w.heap.size,1,none⟩ y1).cell? ⟨w2.heap.size,1,none⟩=some p∧((w'.setCell ⟨w.heap.size,0,none⟩ y0).setCell ⟨w.heap.size,1,none⟩ y1).cell? ⟨w2.heap.size,2,none⟩=some (.bool mx)∧((w'.setCell ⟨w.heap.size,0,none⟩ y0).setCell ⟨w.heap.size,1,none⟩ y1).cell? ⟨w2.heap.size,3,none⟩=some d∧((w'.setCell ⟨w.heap.size,0,none⟩ y0).setCell ⟨w.heap.size,1,none⟩ y1).cell? ⟨w2.heap.size,4,none⟩=some (.func (.func f) #[] #[])∧((w'.setCell ⟨w.heap.size,0,none⟩ y0).setCell ⟨w.heap.size,1,none⟩ y1).cell? ⟨w2.heap.size+1,0,none⟩=some (.slice po pn pc)∧((w'.setCell ⟨w.heap.size,0,none⟩ y0).setCell ⟨w.heap.size,1,none⟩ y1).cell? ⟨w2.heap.size+1,1,none⟩=some (.slice ao ak ac)):=Lib.hid (fun w' y0 y1 hb=>by
    obtain ⟨e0,e1,e2,e3,e4⟩:=blk5o (blk_far2 (R:=w.heap.size) (y0:=y0) (y1:=y1) (car hb GA.out) (by omega))
    obtain ⟨e5,e6,-,-,_⟩:=blk2 (blk_far2 (R:=w.heap.size) (y0:=y0) (y1:=y1) (car hb GB.out) (by omega))
    exact ⟨e0,e1,e2,e3,e4,e5,e6⟩)
  have hB0:=Below.refl w5.heap.size w5
  go_upto_region 8 with fail
  clear x0' x1' x2' x3' x4' y0' y1' s0 s1 s2 s3
  go_region_held3 (fun w'=>w'.cell? ⟨w2.heap.size,0,none⟩=some (.int .i64 n)∧w'.cell? ⟨w2.heap.size,1,none⟩=some p∧w'.cell? ⟨w2.heap.size,2,none⟩=some (.bool mx)∧w'.cell? ⟨w2.heap.size,3,none⟩=some d∧w'.cell? ⟨w2.heap.size,4,none⟩=some (.func (.func f) #[] #[])∧w'.cell? ⟨w2.heap.size+1,0,none⟩=some (.slice po pn pc)∧w'.cell? ⟨w2.heap.size+1,1,none⟩=some (.slice ao ak ac))
    ((first | (refine STAY.out _ ?_; first | exact hk8 | exact hk8.drew | exact hk7 | exact hk7.drew | exact hk6 | exact hk6.drew | exact hB0 | exact hB0.drew) | exact STAY2.out _ _ _ hk8 | exact STAY2.out _ _ _ hk8.drew))
    (first
    | (have tk:=H7; go_at_call 11; (with_reducible refine Calls.mono (VE.out _ _ ?_) ?_); (first | exact H7.out | exact H7.out.below (Below.refl _ _).drew); rintro e w8 ⟨v8,rfl,ho8,hb8⟩; have hk8:Below w5.heap.size w5 w8:=(by first | exact below_of hk7 hb8 | exact below_of hk7.drew hb8); have H8:=Lib.hid ho8; have GC8:=Lib.hid (car hk8 GC.out); have B8:=Lib.hid hk8; obtain ⟨a8,k8,c8,rfl⟩:=ho8.shape; obtain ⟨s0,s1,s2,s3,_⟩:=blk2 GC8.out; have hz8:=hk8.size; clear ho8 hb8)
    | (have tk:=T6; (with_reducible refine Calls.mono (NU.out _ (below_of B5.out (by first | exact hk6 | exact hk6.drew))) ?_); rintro e w7 ⟨v7,rfl,hi7,hb7⟩; have hk7:Below w5.heap.size w5 w7:=(by first | exact below_of hk6 hb7 | exact below_of hk6.drew hb7); have H7:=Lib.hid hi7; obtain ⟨n7,a7,k7,c7,rfl⟩:=hi7.shape; have hz7:=hk7.size; clear hi7 hb7)
    | (go_at_call 12; (with_reducible refine Calls.mono (WO.out _ (below_of B5.out (by first | exact hB0 | exact hB0.drew))) ?_); rintro e w6 ⟨rfl,hb6⟩; have hk6:Below w5.heap.size w5 w6:=(by first | exact below_of hB0 hb6 | exact below_of hB0.drew hb6); have T6:True:=trivial; clear hb6))
  all_goals
    go_wp2
    exact bodyPost_ret (results_bte rfl rfl rfl (set2_row _ _ GC8.out)) rfl ⟨_,rfl,⟨_,rfl,((H8.out.far (by omega)).far (by omega)).mono (by omega)⟩,((below_of BW.out (below_of B5.out B8.out)).setCell (Nat.le_refl _) _).setCell (Nat.le_refl _) _⟩
end Go.Proofs.YtacbkpenohcgjaaGreat
namespace Go.Proofs.YtacbkpenohcgjaaGreat
open Go.RowKit Mth
def ordNum (k:Nat):Nat:=if k<72 then 129 else 130
def ordHolds (k:Nat):Nat:=match k with
  | 68=>134 | 69=>135 | 70=>136 | 71=>137
  | 72=>134 | 73=>135 | 74=>136 | _=>137
def ordRow (k:Nat):List Value:=if k<68 then [.nilFunc,.nilFunc] else [.func (.func (ordNum k)) #[] #[],.func (.func (ordHolds k)) #[] #[]]
def ordTab:Array Value:=((List.range 76).flatMap ordRow).toArray
theorem ordTab_size:ordTab.size=152:=by kernel_rfl
theorem info_ords:(Tryz.prog.info? 113).map (·.size)=some ordTab.size:=by kernel_rfl
theorem ordTab_one:ordTab.all (·.oneCell')=true:=by kernel_rfl
theorem zero_ords:Tryz.zeroCells113.size=ordTab.size:=by kernel_rfl
theorem ordTab_list:ordTab.toList.toArray=ordTab:=by simp
theorem orders_any (w:World):Calls Tryz.prog 98 #[] w fun e w'=>e=.returned (.agg ordTab)∧Below w.heap.size w w':=by
  have BA:=Lib.hid ((Below.refl w.heap.size w).alloc (Nat.le_refl _) (.cells ordTab 113))
  go_enter Tryz.func98,Tryz.ntmps98
  go_wp2_with fail
  refine upon_storeBig (tab:=ordTab) rfl (by kernel_rfl) info_ords zero_ords ordTab_one ?_
  go_wp2_with fail
  refine bodyPost_ret (v:=.agg ordTab) ?_ rfl ⟨rfl,BA.out⟩
  have hld:=run_loadVar_new (P:=Tryz.prog) w 113 ordTab 76 96 Tryz.underlying113 info_ords
  simp [results,Tryz.results98,asAddr,Result.andThen,hld]
theorem results_or {fn:Func} {tmps:Array Value} {w:World} {g:Nat} {x0 x1 u:Value} (h:fn.results=#[.cell 2 96,.tmp 3]) (h1:tmps.getD 2 undef=.pointer (some ⟨g,0,none⟩)) (h2:tmps.getD 3 undef=u) (hb:w.heap[g]?=some (.cells #[x0,x1] 96 (0,0))) :
    (results fn tmps).run Tryz.prog w=.ok (.tuple #[.agg #[x0,x1],u]) w:=by
  obtain ⟨c0,c1,_⟩:=blk2 hb
  rw [Array.getD_eq_getD_getElem?] at h1 h2
  simp [results,h,h1,h2,go_sem,c0,c1]
theorem orderOf_at (k:Nat) (hk:k<76) (f1 f2:Nat) (h0:ordTab[k*2]?=some (.func (.func f1) #[] #[])) (h1:ordTab[k*2+1]?=some (.func (.func f2) #[] #[])) (w:World) :
    Calls Tryz.prog 51 #[.int .i64 (k:Int)] w fun e w'=>e=.returned (.tuple #[.agg #[.func (.func f1) #[] #[],.func (.func f2) #[] #[]],.bool true])∧Below w.heap.size w w':=by
  obtain ⟨W,eW,gW,bW,hWs⟩:=alloc1 w (Obj.cells #[.nilFunc,.nilFunc] 96)
  have OP:=Lib.hid (orders_any W)
  have GW:Hid (W.heap[w.heap.size]?=_):=Lib.hid gW
  have BW:=Lib.hid bW
  have hT:=ordTab_size
  have hsf:∀ (f:Nat) (a:Addr) (W:World) m,Sem.run Tryz.prog (store a (.func (.func f) #[] #[]) m) W=stored Tryz.prog W a (.func (.func f) #[] #[]) m:=fun f a W m=>run_store Tryz.prog W a _ m rfl
  have hbn:∀ W,Sem.run Tryz.prog (binOp BinOp.neq 70 (Value.func (Fn.func f2) #[] #[]) Value.nilFunc) W=.ok (.bool true) W:=fun W=>by kernel_rfl
  have HT:Hid (ordTab[k*2]?=some (.func (.func f1) #[] #[])∧ordTab[k*2+1]?=some (.func (.func f2) #[] #[])):=Lib.hid ⟨h0,h1⟩
  clear gW bW h0 h1
  go_enter Tryz.func51,Tryz.ntmps51
  go_wp2_with fail
  try rw [eW]
  refine OP.out.mono ?_
  rintro e w1 ⟨rfl,hb1⟩
  have HB1:=Lib.hid hb1
  have G1:=Lib.hid ((hb1.block _ hWs).trans GW.out)
  clear hb1 OP
  go_wp2_with fail
  refine upon_storeBig (tab:=ordTab) rfl ordTab_list info_ords zero_ords ordTab_one ?_
  obtain ⟨V,eV,gV,bV,hVs⟩:=alloc1 w1 (Obj.cells ordTab 113)
  rw [eV]
  have hc:∀ j,V.cell? ⟨w1.heap.size,j,none⟩=ordTab[j]?:=fun j=>cell_of_row V w1.heap.size j _ _ (0,0) gV
  have c0:=(hc _).trans HT.out.1; have c1:=(hc _).trans HT.out.2
  have G5:=Lib.hid (bV.block _ (by have:=HB1.out.size; omega) |>.trans G1.out)
  obtain ⟨y0,y1,f0,f1',_⟩:=blk2 G5.out
  have BV:=Lib.hid (below_of BW.out (below_of HB1.out bV))
  have hl1:w.heap.size<w1.heap.size:=Nat.lt_of_lt_of_le hWs HB1.out.size
  have hn1:w1.heap.size≠w.heap.size:=by omega
  have hn2:w.heap.size≠w1.heap.size:=by omega
  clear hc
  go_wp2_with fail
  go_region_with fail
  all_goals
    go_wp2
    refine bodyPost_ret (v:=.tuple #[.agg #[.func (.func f1) #[] #[],.func (.func f2) #[] #[]],.bool true]) ?_ rfl ⟨rfl, ?_⟩
    · exact results_or rfl rfl rfl (set2_row _ _ G5.out)
    · exact ((BV.out.setCell (Nat.le_refl _) _).setCell (Nat.le_refl _) _).drew
end Go.Proofs.YtacbkpenohcgjaaGreat
namespace Go.Proofs.YtacbkpenohcgjaaGreat
open Go.RowKit Mth
theorem below_to9 {w0 w w':World} (hb:Below w.heap.size w w') (h:Below w0.heap.size w0 w):Below w0.heap.size w0 w':=below_of h hb
theorem isBelow_any (X Y:Int) (w:World):Calls Tryz.prog 134 #[.int .i64 (zcmp X Y)] w fun e w'=>e=.returned (.bool (decide (X<Y)))∧w'=w:=by
  have hd:decide (zcmp X Y<0)=decide (X<Y):=by
    rw [decide_eq_decide]
    unfold zcmp
    (repeat' split)<;>omega
  rw [← hd]
  generalize zcmp X Y=o
  go_enter Tryz.func134,Tryz.ntmps134
  go_wp2
  go_ret
  exact ⟨rfl,rfl⟩
end Go.Proofs.YtacbkpenohcgjaaGreat
