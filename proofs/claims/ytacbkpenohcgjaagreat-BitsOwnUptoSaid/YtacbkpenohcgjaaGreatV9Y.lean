import Derived.Test.YtacbkpenohcgjaaGreatV9YG
import Derived.Test.YtacbkpenohcgjaaGreatV9M
import Derived.Test.YtacbkpenohcgjaaGreatVN5
import Derived.Test.YtacbkpenohcgjaaGreatVN3
import Derived.StillTailTactics
set_option linter.unusedVariables false
set_option linter.unusedSimpArgs false
set_option maxHeartbeats 16000000
set_option maxRecDepth 100000
namespace Go.Proofs.YtacbkpenohcgjaaGreat
open Go.RowKit Mth
theorem own9_walk (op:Int) (pv av:Value) (ps:List Int) (L:List (Int × List Nat)) (w:World) (hp:PaL w pv ps∧ps.length≤1048576) (ha:BvLX w av L∧L.length≤1048576):Calls Tryz.prog 4 #[.int .i64 op,pv,av] w fun e w'=>e=.returned (.bool true)∧Below w.heap.size w w':=by
  obtain ⟨x,er,n,P⟩:=both_apply op ps L
  have P1:Hid (∀ pv av W,PaL W pv ps→BvLX W av L→Calls Tryz.prog 5 #[.int .i64 op,pv,av] W fun e w'=>ResF W w' e x er n):=Lib.hid (fun pv av W h1 h2=>(P pv av W h1 h2).1)
  have P2:Hid (∀ w1,Below w.heap.size w w1→Calls Tryz.prog 6 #[.int .i64 op,pv,av] w1 fun e w'=>ResN w1 w' e x er n):=Lib.hid (fun w1 hw=>(P pv av w1 (hp.1.below hw) (ha.1.below hw)).2)
  have de:(er != er)=false:=bne_self_eq_false er
  have hl:=ha.2
  have hpl:=hp.2
  have HP:=Lib.hid hp.1; have HA:=Lib.hid ha.1
  obtain ⟨po,pc,rfl,-⟩:=hp.1
  obtain ⟨ao,ac,rfl,-⟩:=ha.1
  clear P hp ha
  go_enter Tryz.func4,Tryz.ntmps4
  go_wp2_with (at_builtin; refine append_pal rfl _ _ rfl w.heap.size _ ps rfl rfl HP.out (by omega) (Nat.le_refl _) ?_; intro v1 w1 hown1 hgr1; obtain ⟨po1,pc1,rfl⟩:=own_lenB hown1; have PA1:=Lib.hid (pal_row hown1); have B1:=Lib.hid ((KeepsB.of_grown hgr1).below (Nat.le_refl _) (fun b hb e=>by cases e)); clear hown1 hgr1)
  have O1:Hid (OwB w1 L (.slice none 0 0) (.int .i64 ((0:Nat):Int)) w1):=Lib.hid ⟨0,[],Nat.zero_le _,rfl,rfl,BxO.nil _ _,Below.refl _ _⟩
  go_loopw [8,9] (fun lv i wr=>OwB w1 L lv i wr) (fun _ i _=>L.length - (intOf i).toNat)
  case atStart=>exact O1.out
  case round =>
    obtain ⟨k,Q,hk,rfl,hQ,hB,hb⟩:=hrel
    have HB:=Lib.hid hB; have HBE:=Lib.hid hb; have HQ:=Lib.hid hQ
    have hQl:Q.length=k:=by have:=congrArg List.length hQ; rw [List.length_map,List.length_take] at this; omega
    have hrow:=hB.row
    rw [hQl] at hrow
    obtain ⟨lo,lc,rfl⟩:=own_lenB hrow
    have HR:=Lib.hid hrow
    have BW:=Lib.hid (below_of B1.out hb)
    by_cases hlt:k<L.length
    · have hx:L[k]?=some L[k]:=List.getElem?_eq_getElem hlt
      obtain ⟨b,off,u,rfl,hbl,c0,c1,hs,hlim,hln⟩:=(HA.out.below BW.out).one hx
      obtain ⟨ua,uc,rfl⟩:=hs.shape
      have HS:=Lib.hid hs; have HLI:=Lib.hid hlim
      have hln2:L[k].2.length≤16777216:=by omega
      have HBL:=Lib.hid hbl
      have HN:Hid (∀ lv' va wa wc T,wa.ownsRow wr.heap.size 37 1 va L[k].2.length (cellsOf .u64 L[k].2)→wr.grownBy wa none→wc.ownsRow w1.heap.size 28 2 lv' (k+1) (bxCells Q++[.int .i64 L[k].1,va])→(wa.alloc (.cells #[.int .i64 L[k].1,va] T)).grownBy wc (Value.slice lo k lc).ownBlock→(lv'.ownBlock=(Value.slice lo k lc).ownBlock∨lv'.ownBlock=some (wa.alloc (.cells #[.int .i64 L[k].1,va] T)).heap.size)→OwB w1 L lv' (.int .i64 ((k+1:Nat):Int)) wc) :=
        Lib.hid (fun lv' va wa wc T h1 h2 h3 h4 h5=>owb_next hlt HQ.out hQl HB.out HBE.out HLI.out hln h1 h2 h3 h4 h5)
      have hz1:w1.heap.size≤wr.heap.size:=hb.size
      clear hx hlim hs hB hb hQ hbl hrow hQl
      generalize L[k]=p at *
      obtain ⟨px,pl⟩:=p
      dsimp only at c0 hln hln2
      change Hid (Sl wr .u64 (.slice ua pl.length uc) pl) at HS
      clear hln
      go_wp2_with (first
        | (at_builtin; refine append_slN rfl _ _ rfl _ pl rfl rfl HS.out hln2 ?_; intro va wa howna hgra; obtain ⟨aa,ac2,rfl⟩:=own_lenB howna; have HOA:=Lib.hid howna; have HGA:=Lib.hid hgra; have KA:=Lib.hid ((KeepsB.of_grown hgra).weak (Y:=fun _=>True) (fun b _ _ e=>by cases e)); have c0a:wa.cell? ⟨b,off+k*2,none⟩=some (.int .i64 px):=(World.cell?_of_block (KA.out.block b HBL.out trivial)).trans c0; have hza:wr.heap.size≤wa.heap.size:=KA.out.size; clear howna hgra)
        | (at_builtin; refine append_bx rfl _ _ rfl w1.heap.size _ k (bxCells Q) wa.heap.size 1 px (.slice aa pl.length ac2) rfl rfl rfl (own_keepsB (own_keepsB HR.out KA.out (fun _ _=>trivial)) (KeepsB.alloc wa _) (fun _ _=>trivial)) (heap_alloc_new wa _) (by omega) (by simp; omega) ?_; intro vc wc hownc hgrc horc; obtain ⟨cc,cc2,rfl⟩:=own_lenB hownc; have HNX:=Lib.hid (HN.out _ _ _ _ _ HOA.out HGA.out hownc hgrc horc); clear hownc hgrc horc))
      go_roundw
      case rel=>exact HNX.out
      case measure=>simp [intOf]; omega
    · obtain rfl:k=L.length:=by omega
      have hQ2:Q.map Prod.fst=L:=by rw [hQ,List.take_length]
      have HL:Hid (BvLX wr (.slice lo L.length lc) L):=Lib.hid (by
        have h:=hB.bvlx
        rw [hQ2] at h
        exact h)
      have PA:=Lib.hid (PA1.out.below hb)
      clear hB hb hQ hQ2 hQl HB HQ hlt O1 hrow HR
      generalize hm:L.length=m at *
      have HM:=Lib.hid hm
      clear hm
      go_wp2_with fail
      refine (P1.out _ _ _ PA.out HL.out).mono ?_
      rintro e w3 ⟨a1,k1,c1,rfl,hs1,ho1,hb1⟩
      obtain ⟨V1,eV1,gV,bV,hsz⟩:=alloc1n w3 (Obj.cells #[.int .i64 x,.slice a1 k1 c1] 28)
      have hk1:=slN_len hs1
      have S1:=Lib.hid (hs1.below bV); have X1:=Lib.hid ((penx_of ho1 hb1).below bV); have B3:=Lib.hid (below_of BW.out (below_of hb1 bV)); have G1:=Lib.hid gV; have E1:=Lib.hid eV1
      clear hs1 hb1 ho1 gV bV eV1 P1
      go_upto_region 11 with fail
      rw [E1.out]
      go_wp2_with fail
      refine (P2.out _ B3.out).mono ?_
      rintro e w4 ⟨a2,k2,c2,rfl,hs2,hb2⟩
      obtain ⟨V2,eV2,gV,bV,-⟩:=alloc1n w4 (Obj.cells #[.int .i64 x,.slice a2 k2 c2] 28)
      have S2:=Lib.hid (hs2.below bV); have S1':=Lib.hid (S1.out.below (below_to9 bV hb2)); have X2:=Lib.hid (X1.out.below (below_to9 bV hb2)); have G2:=Lib.hid gV; have G1':=Lib.hid (car bV (car hb2 G1.out)); have E2:=Lib.hid eV2
      clear hs2 hb2 gV bV eV2 P2 S1 X1 G1
      go_upto_region 12 with fail
      rw [E2.out]
      obtain ⟨p0,p1,-,-,_⟩:=blk2 G1'.out
      obtain ⟨q0,q1,-,-,_⟩:=blk2 G2.out
      go_wp2_with fail
      refine (sameN S1'.out S2.out).mono ?_
      rintro e w5 ⟨rfl,hb5⟩
      have X5:=Lib.hid (X2.out.below hb5); have G5:=Lib.hid (car hb5 G1'.out)
      clear hb5 p0 p1 q0 q1 X2 G1' G2 S1' S2
      go_wp2_with fail
      go_loopw [15] (fun i w6=>∃ j:Nat,j≤k1∧i=.int .i64 (j:Int)∧PenX wr w3.heap.size w6 a1 k1∧w6.heap[w3.heap.size]?=some (.cells #[.int .i64 x,.slice a1 k1 c1] 28 (0,0))) (fun i _=>k1 - (intOf i).toNat)
      case atStart=>exact ⟨0,Nat.zero_le _,rfl,X5.out,G5.out⟩
      case round =>
        obtain ⟨j,hj,rfl,hx6,hg6⟩:=hrel
        rename World=>w6
        obtain ⟨g0,g1,-,-,_⟩:=blk2 hg6
        by_cases hjl:j<k1
        · obtain ⟨g,u,rfl,hgl,d0,d1,hset⟩:=hx6.at hjl
          have HNX:Hid (PenX wr w3.heap.size (w6.setCell ⟨g,j,none⟩ (.int .u64 77)) (some ⟨g,0,none⟩) k1∧(w6.setCell ⟨g,j,none⟩ (.int .u64 77)).heap[w3.heap.size]?=some (.cells #[.int .i64 x,.slice (some ⟨g,0,none⟩) k1 c1] 28 (0,0))):=Lib.hid ⟨hset _,box_set hg6 hgl⟩
          clear hx6 hg6 hset
          go_wp2_with fail
          go_roundw
          case rel=>exact ⟨j+1,hjl,rfl,HNX.out⟩
          case measure=>simp [intOf]; omega
        · obtain rfl:j=k1:=by omega
          have B6:=Lib.hid hx6.1
          have BW6:=Lib.hid (below_of BW.out hx6.1)
          clear hx6 hg6 hjl X5 G5
          go_wp2_with fail
          go_loopw [16] (fun i w7=>∃ j:Nat,j≤m∧i=.int .i64 (j:Int)∧Below wr.heap.size wr w7) (fun i _=>m - (intOf i).toNat)
          case atStart=>exact ⟨0,Nat.zero_le _,rfl,B6.out⟩
          case round =>
            obtain ⟨j,hj,rfl,hb7⟩:=hrel
            rename World=>w7
            have HB7:=Lib.hid hb7
            have BW7:=Lib.hid (below_of BW.out hb7)
            by_cases hjl:j<m
            · have hx:L[j]?=some (L[j]'(by rw [HM.out]; exact hjl)):=List.getElem?_eq_getElem _
              generalize L[j]'(by rw [HM.out]; exact hjl)=p at *
              obtain ⟨b1,off1,u1,rfl,hbl1,c10,c11,s1,-,-⟩:=(HL.out.below hb7).one hx
              obtain ⟨b2,off2,u2,rfl,hbl2,c20,c21,s2,-,-⟩:=(HA.out.below BW7.out).one hx
              obtain ⟨ua1,uc1,rfl⟩:=s1.shape
              obtain ⟨ua2,uc2,rfl⟩:=s2.shape
              have dr:Below w7.heap.size w7 w7.drew:=(Below.refl _ _).drew
              have SA:=Lib.hid (same9_yes _ _ p.1 p.2 w7.drew ⟨_,rfl,s1.below dr⟩ ⟨_,rfl,s2.below dr⟩)
              have BD:=Lib.hid (below_of hb7 dr)
              obtain ⟨px,pl⟩:=p
              dsimp only at c10 c20
              change Hid (Calls Tryz.prog 7 #[.agg #[.int .i64 px,.slice ua1 pl.length uc1],.agg #[.int .i64 px,.slice ua2 pl.length uc2]] w7.drew _) at SA
              dsimp only at c11 c21
              clear hb7 s1 s2 hx dr hbl1 hbl2
              generalize pl.length=q at *
              go_wp2_with fail
              go_still_tail 8,(by kernel_rfl)
              change wpList _ _ _ _ _ w7.drew
              go_wp2_with fail
              refine SA.out.mono ?_
              rintro e w8 ⟨rfl,hb8⟩
              have B8:=Lib.hid (below_of BD.out hb8)
              clear hb8 SA
              go_wp2
              go_roundw
              case rel=>exact ⟨j+1,hjl,rfl,B8.out⟩
              case measure=>simp [intOf]; omega
            · obtain rfl:j=m:=by omega
              clear hb7 hjl B6 BW6
              go_wp2_with fail
              go_loopw [17] (fun i w8=>∃ j:Nat,j≤ps.length∧i=.int .i64 (j:Int)∧Below w7.heap.size w7 w8) (fun i _=>ps.length - (intOf i).toNat)
              case atStart=>exact ⟨0,Nat.zero_le _,rfl,Below.refl _ _⟩
              case round =>
                obtain ⟨j2,hj2,rfl,hb8⟩:=hrel
                rename World=>w8
                have B8:=Lib.hid hb8
                by_cases hjl2:j2<ps.length
                · have hx:ps[j2]?=some ps[j2]:=List.getElem?_eq_getElem hjl2
                  generalize ps[j2]=p at *
                  obtain ⟨b1,off1,rfl,hbl1,c1⟩:=(PA.out.below (below_of HB7.out hb8)).one hx
                  obtain ⟨b2,off2,rfl,hbl2,c2⟩:=(HP.out.below (below_of BW7.out hb8)).one hx
                  have dp:(p != p)=false:=bne_self_eq_false p
                  have R:Hid (∀ n,Below w7.heap.size w7 (w8.drewN n)):=Lib.hid (fun n=>below_drewN hb8 n)
                  have k1:IntKind.i64.wrap (j2:Int)=(j2:Int):=by rw [IntKind.wrap_i64]; omega
                  have k2:(0:Int)≤(j2:Int):=by omega
                  have k3:(j2:Int)<(ps.length:Int):=by omega
                  clear hb8 hx hbl1 hbl2
                  go_wp2_with fail
                  go_quiet (fail)
                  go_wp2
                  go_roundw
                  case rel=>exact ⟨j2+1,hjl2,rfl,R.out _⟩
                  case measure=>simp [intOf]; omega
                · obtain rfl:j2=ps.length:=by omega
                  have B9:=Lib.hid (below_of BW7.out hb8)
                  clear hb8 hjl2
                  go_wp2_with fail
                  refine (alive9 _).mono ?_
                  rintro e w9 ⟨rfl,hb9⟩
                  have B10:=Lib.hid (below_of B9.out hb9)
                  clear hb9
                  go_wp2
                  go_ret
                  exact ⟨rfl,B10.out⟩
end Go.Proofs.YtacbkpenohcgjaaGreat
