import Derived.Test.YtacbkpenohcgjaaGreatVNB9
import Derived.Test.YtacbkpenohcgjaaGreatVN9
import Derived.Test.YtacbkpenohcgjaaGreatVN7
import Derived.Test.YtacbkpenohcgjaaGreatVYB4
import Derived.Test.YtacbkpenohcgjaaGreatVNC9
import Derived.Test.YtacbkpenohcgjaaGreatVY3
import Derived.Test.YtacbkpenohcgjaaGreatVYJ
import Derived.Test.YtacbkpenohcgjaaGreatVFA
import Derived.IntWalk
set_option linter.unusedVariables false
set_option linter.unusedSimpArgs false
set_option maxHeartbeats 16000000
set_option maxRecDepth 100000
namespace Go.Proofs.YtacbkpenohcgjaaGreat
open Go.RowKit Mth
theorem big_b16B {n:Nat} (h:n<Big):n<B16 ^ (4*maxL):=by rw [← b64_b16]; exact h
theorem small9 (n:Int) (w:World) (h1:-9223372036854775808≤n) (h2:n≤9223372036854775807):Calls Tryz.prog 43 #[.int .i64 n] w fun e w'=>ResZ9 w w' e n:=(small1_any n w h1 h2).mono fun e w' ⟨v',he,hz,hb⟩=>by
  obtain ⟨n,a,k,c,rfl⟩:=hz.shape
  exact ⟨n,a,k,c,he,hz,hb⟩
theorem times9 (va vb:Value) (x y:Int) (w:World) (ha:ZV w va x) (hb:ZV w vb y) (hx:x.natAbs<Big) (hy:y.natAbs<Big):Calls Tryz.prog 46 #[va,vb] w fun e w'=>ResZ9 w w' e (x*y):=(times_any2 va vb x y w ha hb (4*maxL) (4*maxL) (big_b16B hx) (big_b16B hy) (by unfold maxL; omega)).mono fun e w' ⟨v',he,hz,hb⟩=>by
  obtain ⟨n,a,k,c,rfl⟩:=hz.shape
  exact ⟨n,a,k,c,he,hz,hb⟩
theorem cut9 (va vb:Value) (x y:Int) (w:World) (ha:ZV w va x) (hb:ZV w vb y) (hy:y.natAbs<HugeD) (h0:y≠0):Calls Tryz.prog 48 #[va,vb] w fun e w'=>∃ n a k c m b l d,e=.returned (.tuple #[.agg #[.bool n,.slice a k c],.agg #[.bool m,.slice b l d]])∧ZV w' (.agg #[.bool n,.slice a k c]) (qC x y)∧ZV w' (.agg #[.bool m,.slice b l d]) (rC x y)∧Below w.heap.size w w':=(cut_any va vb x y w ha hb hy h0).mono fun e w' ⟨v1,v2,he,z1,z2,hb⟩=>by
  obtain ⟨n,a,k,c,rfl⟩:=z1.shape
  obtain ⟨m,b,l,d,rfl⟩:=z2.shape
  exact ⟨n,a,k,c,m,b,l,d,he,z1,z2,hb⟩
theorem round9 (va vb:Value) (x y:Int) (w:World) (ha:ZV w va x) (hb:ZV w vb y) (hx:x.natAbs<HugeD) (hy:y.natAbs<HugeD) (h0:y≠0):Calls Tryz.prog 49 #[va,vb,.bool false] w fun e w'=>ResZ9 w w' e (qF x y):=(rounded_any va vb x y false w ha hb hx hy h0).mono fun e w' ⟨v',he,hz,hb⟩=>by
  rw [rUF_f] at hz
  obtain ⟨n,a,k,c,rfl⟩:=hz.shape
  exact ⟨n,a,k,c,he,hz,hb⟩
def Box2Z (W wx:World) (z1 z2:Int) (s t:Value):Prop:=∃ (g1:Nat) (n1:Bool) (a1:Option Addr) (k1 c1:Nat) (g2:Nat) (n2:Bool) (a2:Option Addr) (k2 c2:Nat),s=.pointer (some ⟨g1,0,none⟩)∧t=.pointer (some ⟨g2,0,none⟩)∧W.heap.size≤g1∧W.heap.size≤g2∧wx.heap[g1]?=some (.cells #[.bool n1,.slice a1 k1 c1] 61 (0,0))∧wx.heap[g2]?=some (.cells #[.bool n2,.slice a2 k2 c2] 61 (0,0))∧ZV wx (.agg #[.bool n1,.slice a1 k1 c1]) z1∧ZV wx (.agg #[.bool n2,.slice a2 k2 c2]) z2∧Below W.heap.size W wx
theorem rzero_any (v:Value) (z:Int) (bb:Bool) (hbb:decide (z=0)=bb) (w:World) (h:ZV w v z):Calls Tryz.prog 47 #[v] w fun e w'=>e=.returned (.bool bb)∧Below w.heap.size w w':=by
  obtain ⟨n,a,k,c,rfl⟩:=h.shape
  obtain ⟨W,eW,gW,bW,hWs⟩:=alloc1n w (Obj.cells #[.bool n,.slice a k c] 61)
  obtain ⟨c0,c1,-,-,_⟩:=blk2 gW
  obtain ⟨-,xs,s1,l1,t1,e1,rfl⟩:=h.parts
  have BW:=Lib.hid bW
  have d:((xs.length:Int) == 0)=bb:=by
    rw [← hbb]
    by_cases e:z=0
    · subst e
      have:xs=[]:=by
        by_cases hx:xs=[]
        · exact hx
        · have h2:=val_ge_top (B:=B16) t1 (List.length_pos_iff.2 hx)
          have h3:0<B16 ^ (xs.length - 1):=Nat.pow_pos (by unfold B16; omega)
          omega
      subst this
      rfl
    · rw [decide_eq_false e,beq_eq_false_iff_ne]
      intro hx
      obtain rfl:=List.eq_nil_of_length_eq_zero (show xs.length=0 by omega)
      exact e (by rw [show val B16 []=0 from rfl] at e1; omega)
  generalize xs.length=k at *
  clear h s1 l1 t1 e1 gW bW hbb
  cases bb
  all_goals
    go_enter Tryz.func47,Tryz.ntmps47
    go_wp2_with fail
    try rw [eW]
    go_wp2
    go_ret
    exact ⟨rfl,BW.out⟩
theorem reck_44 (av:Value) (wd m:Nat) (h1:1≤wd) (h2:wd≤4096) (hm:m<2 ^ wd) (w:World) (h:BvL w av [(wd,m)]) :
    Calls Tryz.prog 20 #[.int .i64 44,av] w fun e w'=>ResZ9 w w' e (-(m:Int)):=by
  obtain ⟨ao,cap,rfl,hc⟩:=h
  obtain ⟨b,off,rfl,hlt,hc⟩:=hc (by simp)
  obtain ⟨u0,xs,k1,k2,k3,k4,k5,k6⟩:=hc 0 (wd,m) rfl
  dsimp only at k1 k2 k6
  simp only [Nat.zero_mul,Nat.add_zero] at k1 k2
  obtain ⟨W,eW,gW,bW,hWs⟩:=alloc1n w (Obj.cells #[.bool false,.slice none 0 0] 61)
  have UA:Hid (∀ w1,Below W.heap.size W w1→Calls Tryz.prog 40 #[.agg #[.int .i64 (wd:Int),u0]] w1 fun e w'=>ResZ9 w1 w' e (m:Int)):=Lib.hid (fun w1 hw=>by
    have h:=rU_any (wd:Int) _ xs w1 (k3.below (below_of bW hw)) k4 k5
    rw [k6] at h
    exact h)
  have SA:Hid (∀ w1,Below W.heap.size W w1→Calls Tryz.prog 41 #[.agg #[.int .i64 (wd:Int),u0]] w1 fun e w'=>ResZ9 w1 w' e (sgV wd m)):=Lib.hid (fun w1 hw=>rS_any _ wd m h1 h2 hm w1 ⟨_,xs,rfl,k3.below (below_of bW hw),k4,k5,k6⟩)
  obtain ⟨o0,ca,rfl⟩:=k3.shape
  have CA:Hid (∀ w1,Below W.heap.size W w1→w1.cell? ⟨b,off,none⟩=some (.int .i64 (wd:Int))∧w1.cell? ⟨b,off+1,none⟩=some (.slice o0 xs.length ca)):=Lib.hid (fun w1 hw=>⟨((below_of bW hw).cell (p:=⟨b,off,none⟩) hlt).trans k1,((below_of bW hw).cell (p:=⟨b,off+1,none⟩) hlt).trans k2⟩)
  have MM:Hid (∀ v w1,ZV w1 v (m:Int)→Calls Tryz.prog 42 #[v] w1 fun e w'=>ResZ9 w1 w' e (-(m:Int))):=Lib.hid (fun v w1 hz=>minus9 v _ w1 hz)
  generalize sgV wd m=s at *
  generalize (m:Int)=p at *
  generalize xs.length=kx at *
  generalize -p=z at *
  have GW:=Lib.hid gW; have BW:=Lib.hid bW
  clear k1 k2 k3 k4 k5 k6 hc hlt gW bW hm
  simp only [List.length_cons,List.length_nil] at *
  have STAYq:Hid (∀ w',Below W.heap.size W w'→w'.cell? ⟨b,off,none⟩=some (.int .i64 (wd:Int))∧w'.cell? ⟨b,off+1,none⟩=some (.slice o0 kx ca)∧Below W.heap.size W w'∧W.heap.size≤w'.heap.size):=Lib.hid (fun w' hb=>by
    obtain ⟨e0,e1⟩:=CA.out w' hb
    exact ⟨e0,e1,hb,hb.size⟩)
  have hBq:=(Below.refl W.heap.size W).drew
  go_enter Tryz.func20,Tryz.ntmps20
  go_upto_region 1 with fail
  try rw [eW]
  go_cut [5,6] (fun sa sb wx=>Box2Z W wx p s sa sb)
  case first =>
    go_region_held3 (fun w'=>w'.cell? ⟨b,off,none⟩=some (.int .i64 (wd:Int))∧w'.cell? ⟨b,off+1,none⟩=some (.slice o0 kx ca)∧Below W.heap.size W w'∧W.heap.size≤w'.heap.size)
      (((try go_split_ands); refine STAYq.out _ ?_; repeat (first | (with_reducible assumption) | (with_reducible exact Below.refl _ _) | (with_reducible refine Below.drew ?_) | (with_reducible exact below_to (by with_reducible assumption) (by with_reducible assumption)) | ((with_reducible refine Below.alloc ?_ ?_ _); rotate_left; (focus (first | omega | (simp; done) | (simp; omega)))) | ((with_reducible refine Below.setCell ?_ ?_ _); rotate_left; (focus (first | omega | (simp; done) | (simp; omega)))))))
      (first
      | (have tk:=TKq_1; go_at_call 41; go_split_ands; (with_reducible refine Calls.mono (SA.out _ (by with_reducible assumption)) ?_); rintro e wq_2 ⟨nq_2,aq_2,kq_2,cq_2,rfl,ziq_2,hbq_2⟩; have hkq_2:=below_to hbq_2 (by with_reducible assumption); have hzq_2:=hkq_2.size; obtain ⟨hcq_2,hfq_2⟩:=bcell hbq_2; have hyq_2:=hbq_2.size; (try simp only [sz_alloc,sz_set,sz_drew] at hyq_2); (try (have hqq_2:W.heap.size<wq_2.heap.size:=by omega)); (try (have hrq_2:W.heap.size+1<wq_2.heap.size:=by omega)); (try (have hpq_2_1:wq_1.heap.size<wq_2.heap.size:=by omega)); (try (have hsq_2_1:wq_1.heap.size+1<wq_2.heap.size:=by omega)); have TKq_2:True:=trivial)
      | (go_at_call 40; go_split_ands; (with_reducible refine Calls.mono (UA.out _ (by with_reducible assumption)) ?_); rintro e wq_1 ⟨nq_1,aq_1,kq_1,cq_1,rfl,ziq_1,hbq_1⟩; have hkq_1:=below_to hbq_1 (by with_reducible assumption); have hzq_1:=hkq_1.size; obtain ⟨hcq_1,hfq_1⟩:=bcell hbq_1; have hyq_1:=hbq_1.size; (try simp only [sz_alloc,sz_set,sz_drew] at hyq_1); (try (have hqq_1:W.heap.size<wq_1.heap.size:=by omega)); (try (have hrq_1:W.heap.size+1<wq_1.heap.size:=by omega)); have TKq_1:True:=trivial))
    all_goals
      (go_wp2_with fail
       go_meet
       clear hcq_1 hfq_1 hcq_2 hfq_2
       refine ⟨_,nq_1,aq_1,kq_1,cq_1,_,nq_2,aq_2,kq_2,cq_2,rfl,rfl, ?_, ?_, ?_, ?_, ?_, ?_, ?_⟩)
    all_goals
      repeat (first | (with_reducible assumption) | ((with_reducible refine nblk_new ?_); (first | omega | (simp only [sz_alloc,sz_set,sz_drew]; omega) | (focus (simp only [sz_alloc,sz_set,sz_drew]; done)))) | ((with_reducible refine nblk_lt ?_ ?_); (first | omega | (simp only [sz_alloc,sz_set,sz_drew]; omega) | (focus (simp only [sz_alloc,sz_set,sz_drew]; done)))) | (with_reducible refine nblk_own ?_) | ((with_reducible refine nblk_two ?_ ?_); (first | omega | (simp only [sz_alloc,sz_set,sz_drew]; omega) | (focus (simp only [sz_alloc,sz_set,sz_drew]; done)))) | (with_reducible refine nblk_drew ?_) | (with_reducible refine nblk_call hbq_2 ?_) | (with_reducible refine nblk_call hbq_1 ?_) | (with_reducible refine zv_alloc ?_) | (with_reducible refine zv_drew ?_) | (with_reducible refine zv_set ?_ ?_) | (with_reducible refine zv_call hbq_2 ?_) | (with_reducible refine zv_call hbq_1 ?_) | (with_reducible exact Below.refl _ _) | (with_reducible refine Below.drew ?_) | ((with_reducible refine Below.alloc ?_ ?_ _); rotate_left; (focus (first | omega | (simp; done) | (simp; omega)))) | ((with_reducible refine Below.setCell ?_ ?_ _); rotate_left; (focus (first | omega | (simp; done) | (simp; omega)))) | (with_reducible refine bel_call hbq_2 ?_) | (with_reducible refine bel_call hbq_1 ?_) | (first | omega | (simp only [sz_alloc,sz_set,sz_drew]; omega) | (focus (simp only [sz_alloc,sz_set,sz_drew]; done))))
  case rest =>
    obtain ⟨y1,n1,a1,k1,c1,y2,n2,a2,k2,c2,rfl,rfl,hy1,hy2,hG1,hG2,hI1,hI2,hb⟩:=hcut
    generalize wc=X at *
    have BX:=Lib.hid hb
    have GX:=Lib.hid (car hb GW.out)
    have GA:=Lib.hid hG1; have GB:=Lib.hid hG2; have I1:=Lib.hid hI1; have I2:=Lib.hid hI2
    have hWX:=hb.size
    clear hG1 hG2 hI1 hI2 hb STAYq hBq CA UA SA
    obtain ⟨x0,x1,-,-,_⟩:=blk2 GA.out
    go_wp2_with fail
    refine (MM.out _ _ I1.out).mono ?_
    rintro e w6 ⟨n6,a6,k6,c6,rfl,hz6,hb6⟩
    clear x0 x1
    have BV:=Lib.hid (below_of BW.out BX.out)
    have G9:=Lib.hid (car hb6 GX.out)
    have B9:=Lib.hid (below_of BV.out hb6)
    have Z9:=Lib.hid hz6
    obtain ⟨q0,q1,r0,r1,_⟩:=blk2 G9.out
    clear hb6 hz6
    go_wp2
    exact bodyPost_ret (results_zt rfl rfl (set2_row _ _ G9.out)) rfl ⟨_,_,_,_,rfl,Z9.out.far G9.out,(B9.out.setCell (Nat.le_refl _) _).setCell (Nat.le_refl _) _⟩
end Go.Proofs.YtacbkpenohcgjaaGreat
namespace Go.Proofs.YtacbkpenohcgjaaGreat
open Go.RowKit Mth
def recZ (op:Int) (p q s t:Int):Int:=if op=51 then (if p=q then 1 else 0) else if op=52 then (p+q) else if op=53 then (p+-q) else if op=54 then (p*q) else if op=55 then (if q=0 then -1 else qC p q) else if op=56 then (if q=0 then p else rC p q) else if op=57 then (if t=0 then (if s<0 then 1 else -1) else qC s t) else if op=58 then (if t=0 then s else rC s t) else if op=59 then (if t=0 then s else s+-(qF s t*t)) else 0
theorem rec_51 (p q s t:Int):recZ 51 p q s t=(if p=q then 1 else 0):=by unfold recZ; rw [if_pos rfl]
theorem rec_52 (p q s t:Int):recZ 52 p q s t=(p+q):=by unfold recZ; rw [if_neg (by decide)]; rw [if_pos rfl]
theorem rec_53 (p q s t:Int):recZ 53 p q s t=(p+-q):=by unfold recZ; rw [if_neg (by decide)]; rw [if_neg (by decide)]; rw [if_pos rfl]
theorem rec_54 (p q s t:Int):recZ 54 p q s t=(p*q):=by unfold recZ; rw [if_neg (by decide)]; rw [if_neg (by decide)]; rw [if_neg (by decide)]; rw [if_pos rfl]
theorem rec_55 (p q s t:Int):recZ 55 p q s t=(if q=0 then -1 else qC p q):=by unfold recZ; rw [if_neg (by decide)]; rw [if_neg (by decide)]; rw [if_neg (by decide)]; rw [if_neg (by decide)]; rw [if_pos rfl]
theorem rec_56 (p q s t:Int):recZ 56 p q s t=(if q=0 then p else rC p q):=by unfold recZ; rw [if_neg (by decide)]; rw [if_neg (by decide)]; rw [if_neg (by decide)]; rw [if_neg (by decide)]; rw [if_neg (by decide)]; rw [if_pos rfl]
theorem rec_57 (p q s t:Int):recZ 57 p q s t=(if t=0 then (if s<0 then 1 else -1) else qC s t):=by unfold recZ; rw [if_neg (by decide)]; rw [if_neg (by decide)]; rw [if_neg (by decide)]; rw [if_neg (by decide)]; rw [if_neg (by decide)]; rw [if_neg (by decide)]; rw [if_pos rfl]
theorem rec_58 (p q s t:Int):recZ 58 p q s t=(if t=0 then s else rC s t):=by unfold recZ; rw [if_neg (by decide)]; rw [if_neg (by decide)]; rw [if_neg (by decide)]; rw [if_neg (by decide)]; rw [if_neg (by decide)]; rw [if_neg (by decide)]; rw [if_neg (by decide)]; rw [if_pos rfl]
theorem rec_59 (p q s t:Int):recZ 59 p q s t=(if t=0 then s else s+-(qF s t*t)):=by unfold recZ; rw [if_neg (by decide)]; rw [if_neg (by decide)]; rw [if_neg (by decide)]; rw [if_neg (by decide)]; rw [if_neg (by decide)]; rw [if_neg (by decide)]; rw [if_neg (by decide)]; rw [if_neg (by decide)]; rw [if_pos rfl]
theorem big_hugeZ {z:Int} (h:z.natAbs<Big):z.natAbs<HugeD:=Nat.lt_of_lt_of_le h (Nat.le_trans big_huge huge_d)
theorem sgV_le {wd n:Nat} (h2:wd≤4096) (hn:n<2 ^ wd):(sgV wd n).natAbs≤2 ^ wd:=by unfold sgV; split<;>omega
theorem two_bigs {wd:Nat} (h2:wd≤4096):2 ^ wd+2 ^ wd<Big:=by
  have h5:2 ^ (wd+1)<Big:=by
    unfold Big
    rw [b64_two]
    exact Nat.pow_lt_pow_right (by omega) (by unfold maxL; omega)
  rw [Nat.pow_succ] at h5
  omega
theorem qF_near (x y:Int) (h:¬ y=0):(qF x y).natAbs<x.natAbs+y.natAbs+1∧(qF x y*y).natAbs<x.natAbs+y.natAbs:=by
  obtain ⟨h1,-⟩:=near_rest (a:=x) h
  have h2:(qF x y*y).natAbs<x.natAbs+y.natAbs:=by
    generalize qF x y*y=u at *
    omega
  refine ⟨?_,h2⟩
  rw [Int.natAbs_mul] at h2
  have h3:(qF x y).natAbs≤(qF x y).natAbs*y.natAbs:=Nat.le_mul_of_pos_right _ (by omega)
  omega
theorem reck_all (op:Int) (h51:51≤op) (h59:op≤59) (av:Value) (wd m n:Nat) (h1:1≤wd) (h2:wd≤4096) (hm:m<2 ^ wd) (hn:n<2 ^ wd) (w:World) (h:BvL w av [(wd,m),(wd,n)]) :
    Calls Tryz.prog 20 #[.int .i64 op,av] w fun e w'=>ResZ9 w w' e (recZ op (m:Int) (n:Int) (sgV wd m) (sgV wd n)):=by
  obtain ⟨z,hz⟩:∃ z,recZ op (m:Int) (n:Int) (sgV wd m) (sgV wd n)=z:=⟨_,rfl⟩
  rw [hz]
  have d44:(op == 44)=false:=beq_eq_false_iff_ne.2 (by omega)
  have HO:Hid (op=51∨op=52∨op=53∨op=54∨op=55∨op=56∨op=57∨op=58∨op=59):=Lib.hid (by omega)
  have HB:Hid (∃ P:Nat,P+P<Big∧(m:Int).natAbs≤P∧(n:Int).natAbs≤P∧(sgV wd m).natAbs≤P∧(sgV wd n).natAbs≤P):=Lib.hid ⟨2 ^ wd,two_bigs h2,by omega,by omega,sgV_le h2 hm,sgV_le h2 hn⟩
  have HZ:=Lib.hid hz
  clear hz h51 h59
  obtain ⟨ao,cap,rfl,hc⟩:=h
  obtain ⟨b,off,rfl,hlt,hc⟩:=hc (by simp)
  obtain ⟨u0,xs,k1,k2,k3,k4,k5,k6⟩:=hc 0 (wd,m) rfl
  obtain ⟨u1,ys,l1,l2,l3,l4,l5,l6⟩:=hc 1 (wd,n) rfl
  dsimp only at k1 k2 k6 l1 l2 l6
  simp only [Nat.zero_mul,Nat.add_zero,Nat.one_mul] at k1 k2 l1 l2
  obtain ⟨W,eW,gW,bW,hWs⟩:=alloc1n w (Obj.cells #[.bool false,.slice none 0 0] 61)
  have UA:Hid (∀ w1,Below W.heap.size W w1→Calls Tryz.prog 40 #[.agg #[.int .i64 (wd:Int),u0]] w1 fun e w'=>ResZ9 w1 w' e (m:Int)):=Lib.hid (fun w1 hw=>by
    have h:=rU_any (wd:Int) _ xs w1 (k3.below (below_of bW hw)) k4 k5
    rw [k6] at h
    exact h)
  have SA:Hid (∀ w1,Below W.heap.size W w1→Calls Tryz.prog 41 #[.agg #[.int .i64 (wd:Int),u0]] w1 fun e w'=>ResZ9 w1 w' e (sgV wd m)):=Lib.hid (fun w1 hw=>rS_any _ wd m h1 h2 hm w1 ⟨_,xs,rfl,k3.below (below_of bW hw),k4,k5,k6⟩)
  have UB:Hid (∀ w1,Below W.heap.size W w1→Calls Tryz.prog 40 #[.agg #[.int .i64 (wd:Int),u1]] w1 fun e w'=>ResZ9 w1 w' e (n:Int)):=Lib.hid (fun w1 hw=>by
    have h:=rU_any (wd:Int) _ ys w1 (l3.below (below_of bW hw)) l4 l5
    rw [l6] at h
    exact h)
  have SB:Hid (∀ w1,Below W.heap.size W w1→Calls Tryz.prog 41 #[.agg #[.int .i64 (wd:Int),u1]] w1 fun e w'=>ResZ9 w1 w' e (sgV wd n)):=Lib.hid (fun w1 hw=>rS_any _ wd n h1 h2 hn w1 ⟨_,ys,rfl,l3.below (below_of bW hw),l4,l5,l6⟩)
  obtain ⟨o0,ca,rfl⟩:=k3.shape
  obtain ⟨o1,cb,rfl⟩:=l3.shape
  have CA:Hid (∀ w1,Below W.heap.size W w1→w1.cell? ⟨b,off,none⟩=some (.int .i64 (wd:Int))∧w1.cell? ⟨b,off+1,none⟩=some (.slice o0 xs.length ca)):=Lib.hid (fun w1 hw=>⟨((below_of bW hw).cell (p:=⟨b,off,none⟩) hlt).trans k1,((below_of bW hw).cell (p:=⟨b,off+1,none⟩) hlt).trans k2⟩)
  have CB:Hid (∀ w1,Below W.heap.size W w1→w1.cell? ⟨b,off+2,none⟩=some (.int .i64 (wd:Int))∧w1.cell? ⟨b,off+2+1,none⟩=some (.slice o1 ys.length cb)):=Lib.hid (fun w1 hw=>⟨((below_of bW hw).cell (p:=⟨b,off+2,none⟩) hlt).trans l1,((below_of bW hw).cell (p:=⟨b,off+2+1,none⟩) hlt).trans l2⟩)
  generalize sgV wd m=s at *
  generalize (m:Int)=p at *
  generalize xs.length=kx at *
  generalize sgV wd n=t at *
  generalize (n:Int)=q at *
  generalize ys.length=ky at *
  have GW:=Lib.hid gW; have BW:=Lib.hid bW
  clear k1 k2 k3 k4 k5 k6 l1 l2 l3 l4 l5 l6 hc hlt gW bW hm hn
  simp only [List.length_cons,List.length_nil] at *
  have STAYq:Hid (∀ w',Below W.heap.size W w'→w'.cell? ⟨b,off,none⟩=some (.int .i64 (wd:Int))∧w'.cell? ⟨b,off+1,none⟩=some (.slice o0 kx ca)∧Below W.heap.size W w'∧W.heap.size≤w'.heap.size):=Lib.hid (fun w' hb=>by
    obtain ⟨e0,e1⟩:=CA.out w' hb
    exact ⟨e0,e1,hb,hb.size⟩)
  have hBq:=(Below.refl W.heap.size W).drew
  go_enter Tryz.func20,Tryz.ntmps20
  go_upto_region 1 with fail
  try rw [eW]
  go_cut [5,6] (fun sa sb wx=>Box2Z W wx p s sa sb)
  case first =>
    go_region_held3 (fun w'=>w'.cell? ⟨b,off,none⟩=some (.int .i64 (wd:Int))∧w'.cell? ⟨b,off+1,none⟩=some (.slice o0 kx ca)∧Below W.heap.size W w'∧W.heap.size≤w'.heap.size)
      (((try go_split_ands); refine STAYq.out _ ?_; repeat (first | (with_reducible assumption) | (with_reducible exact Below.refl _ _) | (with_reducible refine Below.drew ?_) | (with_reducible exact below_to (by with_reducible assumption) (by with_reducible assumption)) | ((with_reducible refine Below.alloc ?_ ?_ _); rotate_left; (focus (first | omega | (simp; done) | (simp; omega)))) | ((with_reducible refine Below.setCell ?_ ?_ _); rotate_left; (focus (first | omega | (simp; done) | (simp; omega)))))))
      (first
      | (have tk:=TKq_1; go_at_call 41; go_split_ands; (with_reducible refine Calls.mono (SA.out _ (by with_reducible assumption)) ?_); rintro e wq_2 ⟨nq_2,aq_2,kq_2,cq_2,rfl,ziq_2,hbq_2⟩; have hkq_2:=below_to hbq_2 (by with_reducible assumption); have hzq_2:=hkq_2.size; obtain ⟨hcq_2,hfq_2⟩:=bcell hbq_2; have hyq_2:=hbq_2.size; (try simp only [sz_alloc,sz_set,sz_drew] at hyq_2); (try (have hqq_2:W.heap.size<wq_2.heap.size:=by omega)); (try (have hrq_2:W.heap.size+1<wq_2.heap.size:=by omega)); (try (have hpq_2_1:wq_1.heap.size<wq_2.heap.size:=by omega)); (try (have hsq_2_1:wq_1.heap.size+1<wq_2.heap.size:=by omega)); have TKq_2:True:=trivial)
      | (go_at_call 40; go_split_ands; (with_reducible refine Calls.mono (UA.out _ (by with_reducible assumption)) ?_); rintro e wq_1 ⟨nq_1,aq_1,kq_1,cq_1,rfl,ziq_1,hbq_1⟩; have hkq_1:=below_to hbq_1 (by with_reducible assumption); have hzq_1:=hkq_1.size; obtain ⟨hcq_1,hfq_1⟩:=bcell hbq_1; have hyq_1:=hbq_1.size; (try simp only [sz_alloc,sz_set,sz_drew] at hyq_1); (try (have hqq_1:W.heap.size<wq_1.heap.size:=by omega)); (try (have hrq_1:W.heap.size+1<wq_1.heap.size:=by omega)); have TKq_1:True:=trivial))
    all_goals
      (go_wp2_with fail
       go_meet
       clear hcq_1 hfq_1 hcq_2 hfq_2
       refine ⟨_,nq_1,aq_1,kq_1,cq_1,_,nq_2,aq_2,kq_2,cq_2,rfl,rfl, ?_, ?_, ?_, ?_, ?_, ?_, ?_⟩)
    all_goals
      repeat (first | (with_reducible assumption) | ((with_reducible refine nblk_new ?_); (first | omega | (simp only [sz_alloc,sz_set,sz_drew]; omega) | (focus (simp only [sz_alloc,sz_set,sz_drew]; done)))) | ((with_reducible refine nblk_lt ?_ ?_); (first | omega | (simp only [sz_alloc,sz_set,sz_drew]; omega) | (focus (simp only [sz_alloc,sz_set,sz_drew]; done)))) | (with_reducible refine nblk_own ?_) | ((with_reducible refine nblk_two ?_ ?_); (first | omega | (simp only [sz_alloc,sz_set,sz_drew]; omega) | (focus (simp only [sz_alloc,sz_set,sz_drew]; done)))) | (with_reducible refine nblk_drew ?_) | (with_reducible refine nblk_call hbq_2 ?_) | (with_reducible refine nblk_call hbq_1 ?_) | (with_reducible refine zv_alloc ?_) | (with_reducible refine zv_drew ?_) | (with_reducible refine zv_set ?_ ?_) | (with_reducible refine zv_call hbq_2 ?_) | (with_reducible refine zv_call hbq_1 ?_) | (with_reducible exact Below.refl _ _) | (with_reducible refine Below.drew ?_) | ((with_reducible refine Below.alloc ?_ ?_ _); rotate_left; (focus (first | omega | (simp; done) | (simp; omega)))) | ((with_reducible refine Below.setCell ?_ ?_ _); rotate_left; (focus (first | omega | (simp; done) | (simp; omega)))) | (with_reducible refine bel_call hbq_2 ?_) | (with_reducible refine bel_call hbq_1 ?_) | (first | omega | (simp only [sz_alloc,sz_set,sz_drew]; omega) | (focus (simp only [sz_alloc,sz_set,sz_drew]; done))))
  case rest =>
    obtain ⟨y1,n1,a1,k1,c1,y2,n2,a2,k2,c2,rfl,rfl,hy1,hy2,hG1,hG2,hI1,hI2,hb⟩:=hcut
    generalize wc=X at *
    have BX:=Lib.hid hb
    have GX:=Lib.hid (car hb GW.out)
    have GA:=Lib.hid hG1; have GB:=Lib.hid hG2; have I1:=Lib.hid hI1; have I2:=Lib.hid hI2
    have hWX:=hb.size
    clear hG1 hG2 hI1 hI2 hb STAYq hBq CA UA SA
    have UX:Hid (∀ w1,Below X.heap.size X w1→_):=Lib.hid (fun w1 hw=>UB.out w1 (below_of BX.out hw))
    have SX:Hid (∀ w1,Below X.heap.size X w1→_):=Lib.hid (fun w1 hw=>SB.out w1 (below_of BX.out hw))
    have STAYr:Hid (∀ w',Below X.heap.size X w'→w'.cell? ⟨b,off+2,none⟩=some (.int .i64 (wd:Int))∧w'.cell? ⟨b,off+2+1,none⟩=some (.slice o1 ky cb)∧Below X.heap.size X w'∧X.heap.size≤w'.heap.size):=Lib.hid (fun w' hb=>by
      obtain ⟨e0,e1⟩:=CB.out w' (below_of BX.out hb)
      exact ⟨e0,e1,hb,hb.size⟩)
    have hBr:=(Below.refl X.heap.size X).drew
    go_upto_region 4 with fail
    go_cut [7,8] (fun sa sb wx=>Box2Z X wx q t sa sb)
    case first =>
      go_region_held3 (fun w'=>w'.cell? ⟨b,off+2,none⟩=some (.int .i64 (wd:Int))∧w'.cell? ⟨b,off+2+1,none⟩=some (.slice o1 ky cb)∧Below X.heap.size X w'∧X.heap.size≤w'.heap.size)
        (((try go_split_ands); refine STAYr.out _ ?_; repeat (first | (with_reducible assumption) | (with_reducible exact Below.refl _ _) | (with_reducible refine Below.drew ?_) | (with_reducible exact below_to (by with_reducible assumption) (by with_reducible assumption)) | ((with_reducible refine Below.alloc ?_ ?_ _); rotate_left; (focus (first | omega | (simp; done) | (simp; omega)))) | ((with_reducible refine Below.setCell ?_ ?_ _); rotate_left; (focus (first | omega | (simp; done) | (simp; omega)))))))
        (first
        | (have tk:=TKr_1; go_at_call 41; go_split_ands; (with_reducible refine Calls.mono (SX.out _ (by with_reducible assumption)) ?_); rintro e wr_2 ⟨nr_2,ar_2,kr_2,cr_2,rfl,zir_2,hbr_2⟩; have hkr_2:=below_to hbr_2 (by with_reducible assumption); have hzr_2:=hkr_2.size; obtain ⟨hcr_2,hfr_2⟩:=bcell hbr_2; have hyr_2:=hbr_2.size; (try simp only [sz_alloc,sz_set,sz_drew] at hyr_2); (try (have hqr_2:X.heap.size<wr_2.heap.size:=by omega)); (try (have hrr_2:X.heap.size+1<wr_2.heap.size:=by omega)); (try (have hpr_2_1:wr_1.heap.size<wr_2.heap.size:=by omega)); (try (have hsr_2_1:wr_1.heap.size+1<wr_2.heap.size:=by omega)); have TKr_2:True:=trivial)
        | (go_at_call 40; go_split_ands; (with_reducible refine Calls.mono (UX.out _ (by with_reducible assumption)) ?_); rintro e wr_1 ⟨nr_1,ar_1,kr_1,cr_1,rfl,zir_1,hbr_1⟩; have hkr_1:=below_to hbr_1 (by with_reducible assumption); have hzr_1:=hkr_1.size; obtain ⟨hcr_1,hfr_1⟩:=bcell hbr_1; have hyr_1:=hbr_1.size; (try simp only [sz_alloc,sz_set,sz_drew] at hyr_1); (try (have hqr_1:X.heap.size<wr_1.heap.size:=by omega)); (try (have hrr_1:X.heap.size+1<wr_1.heap.size:=by omega)); have TKr_1:True:=trivial))
      all_goals
        (go_wp2_with fail
         go_meet
         clear hcr_1 hfr_1 hcr_2 hfr_2
         refine ⟨_,nr_1,ar_1,kr_1,cr_1,_,nr_2,ar_2,kr_2,cr_2,rfl,rfl, ?_, ?_, ?_, ?_, ?_, ?_, ?_⟩)
      all_goals
        repeat (first | (with_reducible assumption) | ((with_reducible refine nblk_new ?_); (first | omega | (simp only [sz_alloc,sz_set,sz_drew]; omega) | (focus (simp only [sz_alloc,sz_set,sz_drew]; done)))) | ((with_reducible refine nblk_lt ?_ ?_); (first | omega | (simp only [sz_alloc,sz_set,sz_drew]; omega) | (focus (simp only [sz_alloc,sz_set,sz_drew]; done)))) | (with_reducible refine nblk_own ?_) | ((with_reducible refine nblk_two ?_ ?_); (first | omega | (simp only [sz_alloc,sz_set,sz_drew]; omega) | (focus (simp only [sz_alloc,sz_set,sz_drew]; done)))) | (with_reducible refine nblk_drew ?_) | (with_reducible refine nblk_call hbr_2 ?_) | (with_reducible refine nblk_call hbr_1 ?_) | (with_reducible refine zv_alloc ?_) | (with_reducible refine zv_drew ?_) | (with_reducible refine zv_set ?_ ?_) | (with_reducible refine zv_call hbr_2 ?_) | (with_reducible refine zv_call hbr_1 ?_) | (with_reducible exact Below.refl _ _) | (with_reducible refine Below.drew ?_) | ((with_reducible refine Below.alloc ?_ ?_ _); rotate_left; (focus (first | omega | (simp; done) | (simp; omega)))) | ((with_reducible refine Below.setCell ?_ ?_ _); rotate_left; (focus (first | omega | (simp; done) | (simp; omega)))) | (with_reducible refine bel_call hbr_2 ?_) | (with_reducible refine bel_call hbr_1 ?_) | (first | omega | (simp only [sz_alloc,sz_set,sz_drew]; omega) | (focus (simp only [sz_alloc,sz_set,sz_drew]; done))))
    case rest =>
      obtain ⟨y3,n3,a3,k3,c3,y4,n4,a4,k4,c4,rfl,rfl,hy3,hy4,hG3,hG4,hI3,hI4,hb⟩:=hcut
      generalize wc=Y at *
      have BY:=Lib.hid (below_of BX.out hb)
      have GY:=Lib.hid (car hb GX.out)
      have HA:=Lib.hid (car hb GA.out); have HB:=Lib.hid (car hb GB.out); have J1:=Lib.hid (I1.out.below hb); have J2:=Lib.hid (I2.out.below hb)
      have HC:=Lib.hid hG3; have HD:=Lib.hid hG4; have J3:=Lib.hid hI3; have J4:=Lib.hid hI4
      have hXY:=hb.size
      clear hG3 hG4 hI3 hI4 hb STAYr hBr CB UB SB UX SX GX GA GB I1 I2 BX
      have OO:Hid (∀ w1,Calls Tryz.prog 43 #[.int .i64 1] w1 fun e w'=>ResZ9 w1 w' e 1):=Lib.hid (fun w1=>small9 1 w1 (by omega) (by omega))
      go_wp2_with fail
      refine (OO.out _).mono ?_
      rintro e w5 ⟨n5,a5,k5,c5,rfl,hz5,hb5⟩
      obtain ⟨V,eV,gV,bV,hVs⟩:=alloc1n w5 (Obj.cells #[.bool n5,.slice a5 k5 c5] 61)
      have hb6:=below_of hb5 bV
      have BV:=Lib.hid (below_of BW.out (below_of BY.out hb6))
      have GV:=Lib.hid (car hb6 GY.out)
      have KA:=Lib.hid (car hb6 HA.out); have KB:=Lib.hid (car hb6 HB.out); have KC:=Lib.hid (car hb6 HC.out); have KD:=Lib.hid (car hb6 HD.out); have KE:=Lib.hid gV
      have L1:=Lib.hid (J1.out.below hb6); have L2:=Lib.hid (J2.out.below hb6); have L3:=Lib.hid (J3.out.below hb6); have L4:=Lib.hid (J4.out.below hb6); have L5:=Lib.hid (hz5.below bV)
      have EV:=Lib.hid eV
      clear hb6 hb5 hz5 gV bV eV GY HA HB HC HD J1 J2 J3 J4 BY OO
      go_upto_region 6 with fail
      try rw [EV.out]
      clear EV
      rcases HO.out with rfl | rfl | rfl | rfl | rfl | rfl | rfl | rfl | rfl
      · clear HO d44
        by_cases hc:p=q
        · have e:z=1:=by
            have e:=(rec_51 p q s t).symm.trans HZ.out
            rw [if_pos hc] at e
            exact e.symm
          subst e
          have CM:Hid (∀ va vb w1,ZV w1 va p→ZV w1 vb q→Calls Tryz.prog 44 #[va,vb] w1 fun e w'=>e=.returned (.int .i64 0)∧Below w1.heap.size w1 w'):=Lib.hid (by
            have e0:zcmp p q=0:=by rw [hc]; unfold zcmp; rw [if_neg (Int.lt_irrefl _),if_neg (Int.lt_irrefl _)]
            rw [← e0]
            exact fun va vb w1 hx hy=>cmp1_any va vb _ _ w1 hx hy)
          clear hc
          obtain ⟨zA0,zA1,-,-,_⟩:=blk2 KA.out
          obtain ⟨zC0,zC1,-,-,_⟩:=blk2 KC.out
          go_wp2_with fail
          refine (CM.out _ _ _ L1.out L3.out).mono ?_
          rintro e w6 ⟨rfl,hb⟩
          have B6:=Lib.hid (below_of BV.out hb); have G6:=Lib.hid (car hb GV.out)
          have ME:=Lib.hid (car hb KE.out); have N5:=Lib.hid (L5.out.below hb)
          clear hb zA0 zA1 zC0 zC1
          obtain ⟨x0,x1,-,-,_⟩:=blk2 ME.out
          obtain ⟨q0,q1,r0,r1,_⟩:=blk2 G6.out
          go_wp2
          exact bodyPost_ret (results_zt rfl rfl (set2_row _ _ G6.out)) rfl ⟨_,_,_,_,rfl,N5.out.far G6.out,(B6.out.setCell (Nat.le_refl _) _).setCell (Nat.le_refl _) _⟩
        · have e:z=0:=by
            have e:=(rec_51 p q s t).symm.trans HZ.out
            rw [if_neg hc] at e
            exact e.symm
          subst e
          have d0:(zcmp p q == 0)=false:=beq_eq_false_iff_ne.2 (by unfold zcmp; (repeat' split)<;>omega)
          have CM:Hid (∀ va vb w1,ZV w1 va p→ZV w1 vb q→Calls Tryz.prog 44 #[va,vb] w1 fun e w'=>e=.returned (.int .i64 (zcmp p q))∧Below w1.heap.size w1 w'):=Lib.hid (by
            exact fun va vb w1 hx hy=>cmp1_any va vb _ _ w1 hx hy)
          generalize zcmp p q=o at *
          clear hc
          obtain ⟨zA0,zA1,-,-,_⟩:=blk2 KA.out
          obtain ⟨zC0,zC1,-,-,_⟩:=blk2 KC.out
          go_wp2_with fail
          refine (CM.out _ _ _ L1.out L3.out).mono ?_
          rintro e w6 ⟨rfl,hb⟩
          have B6:=Lib.hid (below_of BV.out hb); have G6:=Lib.hid (car hb GV.out)
          clear hb zA0 zA1 zC0 zC1
          obtain ⟨q0,q1,r0,r1,_⟩:=blk2 G6.out
          go_wp2
          exact bodyPost_ret (results_zt rfl rfl (set2_row _ _ G6.out)) rfl ⟨_,_,_,_,rfl,(zv_nil _).far G6.out,(B6.out.setCell (Nat.le_refl _) _).setCell (Nat.le_refl _) _⟩
      · clear HO d44
        have PL:Hid (∀ va vb w1,ZV w1 va (p)→ZV w1 vb (q)→Calls Tryz.prog 45 #[va,vb] w1 fun e w'=>ResZ9 w1 w' e (z)):=Lib.hid (by
          have e:=(rec_52 p q s t).symm.trans HZ.out
          obtain ⟨P,b0,b1,b2,b3,b4⟩:=HB.out
          rw [← e]
          exact fun va vb w1 hx hy=>plus9 va vb _ _ w1 hx hy (big_hugeZ (by omega)) (big_hugeZ (by omega)))
        obtain ⟨xA0,xA1,-,-,_⟩:=blk2 KA.out
        obtain ⟨xC0,xC1,-,-,_⟩:=blk2 KC.out
        go_wp2_with fail
        refine (PL.out _ _ _ L1.out L3.out).mono ?_
        rintro e w6 ⟨n6,a6,k6,c6,rfl,hz6,hb6⟩
        clear xA0 xA1 xC0 xC1
        have G9:=Lib.hid (car hb6 GV.out)
        have B9:=Lib.hid (below_of BV.out hb6)
        have Z9:=Lib.hid hz6
        obtain ⟨q0,q1,r0,r1,_⟩:=blk2 G9.out
        clear hb6 hz6
        go_wp2
        exact bodyPost_ret (results_zt rfl rfl (set2_row _ _ G9.out)) rfl ⟨_,_,_,_,rfl,Z9.out.far G9.out,(B9.out.setCell (Nat.le_refl _) _).setCell (Nat.le_refl _) _⟩
      · clear HO d44
        obtain ⟨qn,hqn⟩:∃ x,-q=x:=⟨_,rfl⟩
        have HQ:=Lib.hid hqn
        clear hqn
        have MN:Hid (∀ v w1,ZV w1 v q→Calls Tryz.prog 42 #[v] w1 fun e w'=>ResZ9 w1 w' e qn):=Lib.hid (by
          rw [← HQ.out]
          exact fun v w1 hv=>minus9 v _ w1 hv)
        have PL:Hid (∀ va vb w1,ZV w1 va (p)→ZV w1 vb (qn)→Calls Tryz.prog 45 #[va,vb] w1 fun e w'=>ResZ9 w1 w' e (z)):=Lib.hid (by
          have e:=(rec_53 p q s t).symm.trans HZ.out
          obtain ⟨P,b0,b1,b2,b3,b4⟩:=HB.out
          rw [← e,← HQ.out]
          exact fun va vb w1 hx hy=>plus9 va vb _ _ w1 hx hy (big_hugeZ (by omega)) (big_hugeZ (by omega)))
        have MX:Hid (∀ w1,Below V.heap.size V w1→_):=Lib.hid (fun w1 hw=>MN.out _ w1 (L3.out.below hw))
        have PX:Hid (∀ vb w1,Below V.heap.size V w1→ZV w1 vb qn→_):=Lib.hid (fun vb w1 hw hz=>PL.out _ vb w1 (L1.out.below hw) hz)
        go_upto_region 14 with fail
        have STAYv:Hid (∀ w',Below V.heap.size V w'→w'.cell? ⟨y1,0,none⟩=some (.bool n1)∧w'.cell? ⟨y1,1,none⟩=some (.slice a1 k1 c1)∧w'.cell? ⟨y3,0,none⟩=some (.bool n3)∧w'.cell? ⟨y3,1,none⟩=some (.slice a3 k3 c3)):=Lib.hid (fun w' hb=>by
          obtain ⟨e0,e1,-,-,_⟩:=blk2 (car hb KA.out)
          obtain ⟨e2,e3,-,-,_⟩:=blk2 (car hb KC.out)
          exact ⟨e0,e1,e2,e3⟩)
        have STAZv:Hid (∀ w' yy0 yy1,Below V.heap.size V w'→((w'.setCell ⟨w.heap.size,0,none⟩ yy0).setCell ⟨w.heap.size,1,none⟩ yy1).cell? ⟨y1,0,none⟩=some (.bool n1)∧((w'.setCell ⟨w.heap.size,0,none⟩ yy0).setCell ⟨w.heap.size,1,none⟩ yy1).cell? ⟨y1,1,none⟩=some (.slice a1 k1 c1)∧((w'.setCell ⟨w.heap.size,0,none⟩ yy0).setCell ⟨w.heap.size,1,none⟩ yy1).cell? ⟨y3,0,none⟩=some (.bool n3)∧((w'.setCell ⟨w.heap.size,0,none⟩ yy0).setCell ⟨w.heap.size,1,none⟩ yy1).cell? ⟨y3,1,none⟩=some (.slice a3 k3 c3)):=Lib.hid (fun w' yy0 yy1 hb=>by
          obtain ⟨e0,e1,-,-,_⟩:=blk2 (blk_far2 (R:=w.heap.size) (y0:=yy0) (y1:=yy1) (car hb KA.out) (by omega))
          obtain ⟨e2,e3,-,-,_⟩:=blk2 (blk_far2 (R:=w.heap.size) (y0:=yy0) (y1:=yy1) (car hb KC.out) (by omega))
          exact ⟨e0,e1,e2,e3⟩)
        have hkv_0:=Below.refl V.heap.size V
        go_region_held3 (fun w'=>w'.cell? ⟨y1,0,none⟩=some (.bool n1)∧w'.cell? ⟨y1,1,none⟩=some (.slice a1 k1 c1)∧w'.cell? ⟨y3,0,none⟩=some (.bool n3)∧w'.cell? ⟨y3,1,none⟩=some (.slice a3 k3 c3))
          ((first | (refine STAYv.out _ ?_; first | exact hkv_2 | exact hkv_2.drew | exact hkv_1 | exact hkv_1.drew | exact hkv_0 | exact hkv_0.drew) | exact STAZv.out _ _ _ hkv_2 | exact STAZv.out _ _ _ hkv_2.drew))
          (first
          | (have tk:=TKv_1; go_at_call 45; (with_reducible refine Calls.mono (PX.out _ _ (by first | exact hkv_1 | exact hkv_1.drew) ?_) ?_); (first | exact ziv_1.out | exact zv_drew ziv_1.out); rintro e wv_2 ⟨nv_2,av_2,kv_2,cv_2,rfl,zz,hb⟩; have hkv_2:Below V.heap.size V wv_2:=(by first | exact below_of hkv_1 hb | exact below_of hkv_1.drew hb); have ziv_2:=Lib.hid zz; have G9:=Lib.hid (car hkv_2 GV.out); obtain ⟨q0,q1,r0,r1,_⟩:=blk2 G9.out; have hz9:=hkv_2.size; have TKv_2:True:=trivial; clear zz hb)
          | (go_at_call 42; (with_reducible refine Calls.mono (MX.out _ (by first | exact hkv_0 | exact hkv_0.drew)) ?_); rintro e wv_1 ⟨nv_1,av_1,kv_1,cv_1,rfl,zz,hb⟩; have hkv_1:Below V.heap.size V wv_1:=(by first | exact below_of hkv_0 hb | exact below_of hkv_0.drew hb); have ziv_1:=Lib.hid zz; have TKv_1:True:=trivial; clear zz hb))
        all_goals
          go_wp2
          exact bodyPost_ret (results_zt rfl rfl (set2_row _ _ G9.out)) rfl ⟨_,_,_,_,rfl,ziv_2.out.far G9.out,((below_of BV.out hkv_2).setCell (Nat.le_refl _) _).setCell (Nat.le_refl _) _⟩
      · clear HO d44
        have TM:Hid (∀ va vb w1,ZV w1 va p→ZV w1 vb q→Calls Tryz.prog 46 #[va,vb] w1 fun e w'=>ResZ9 w1 w' e z):=Lib.hid (by
          have e:=(rec_54 p q s t).symm.trans HZ.out
          obtain ⟨P,b0,b1,b2,b3,b4⟩:=HB.out
          rw [← e]
          exact fun va vb w1 hx hy=>times9 va vb _ _ w1 hx hy (by omega) (by omega))
        obtain ⟨xA0,xA1,-,-,_⟩:=blk2 KA.out
        obtain ⟨xC0,xC1,-,-,_⟩:=blk2 KC.out
        go_wp2_with fail
        refine (TM.out _ _ _ L1.out L3.out).mono ?_
        rintro e w6 ⟨n6,a6,k6,c6,rfl,hz6,hb6⟩
        clear xA0 xA1 xC0 xC1
        have G9:=Lib.hid (car hb6 GV.out)
        have B9:=Lib.hid (below_of BV.out hb6)
        have Z9:=Lib.hid hz6
        obtain ⟨q0,q1,r0,r1,_⟩:=blk2 G9.out
        clear hb6 hz6
        go_wp2
        exact bodyPost_ret (results_zt rfl rfl (set2_row _ _ G9.out)) rfl ⟨_,_,_,_,rfl,Z9.out.far G9.out,(B9.out.setCell (Nat.le_refl _) _).setCell (Nat.le_refl _) _⟩
      · clear HO d44
        by_cases hc:q=0
        · have e:z=-1:=by
            have e:=(rec_55 p q s t).symm.trans HZ.out
            rw [if_pos hc] at e
            exact e.symm
          subst e
          have ZZ:Hid (∀ v w1,ZV w1 v (q)→Calls Tryz.prog 47 #[v] w1 fun e w'=>e=.returned (.bool true)∧Below w1.heap.size w1 w'):=Lib.hid (fun v w1 hv=>rzero_any v _ true (decide_eq_true hc) w1 hv)
          have MO:Hid (∀ v w1,ZV w1 v (1)→Calls Tryz.prog 42 #[v] w1 fun e w'=>ResZ9 w1 w' e (-1)):=Lib.hid (fun v w1 hv=>minus9 v _ w1 hv)
          clear hc
          obtain ⟨zC0,zC1,-,-,_⟩:=blk2 KC.out
          go_wp2_with fail
          refine (ZZ.out _ _ L3.out).mono ?_
          rintro e w6 ⟨rfl,hb⟩
          have B6:=Lib.hid (below_of BV.out hb); have G6:=Lib.hid (car hb GV.out)
          have ME:=Lib.hid (car hb KE.out); have N5:=Lib.hid (L5.out.below hb)
          clear hb zC0 zC1
          obtain ⟨zE0,zE1,-,-,_⟩:=blk2 ME.out
          go_wp2_with fail
          refine (MO.out _ _ N5.out).mono ?_
          rintro e w8 ⟨n8,a8,k8,c8,rfl,hz8,hb8⟩
          clear zE0 zE1
          have G9:=Lib.hid (car hb8 G6.out)
          have B9:=Lib.hid (below_of B6.out hb8)
          have Z9:=Lib.hid hz8
          obtain ⟨q0,q1,r0,r1,_⟩:=blk2 G9.out
          clear hb8 hz8
          go_wp2
          exact bodyPost_ret (results_zt rfl rfl (set2_row _ _ G9.out)) rfl ⟨_,_,_,_,rfl,Z9.out.far G9.out,(B9.out.setCell (Nat.le_refl _) _).setCell (Nat.le_refl _) _⟩
        · have ZZ:Hid (∀ v w1,ZV w1 v (q)→Calls Tryz.prog 47 #[v] w1 fun e w'=>e=.returned (.bool false)∧Below w1.heap.size w1 w'):=Lib.hid (fun v w1 hv=>rzero_any v _ false (decide_eq_false hc) w1 hv)
          have CT:Hid (∃ zr,∀ va vb w1,ZV w1 va p→ZV w1 vb q→Calls Tryz.prog 48 #[va,vb] w1 fun e w'=>∃ nn aa kk cc mm bb ll dd,e=.returned (.tuple #[.agg #[.bool nn,.slice aa kk cc],.agg #[.bool mm,.slice bb ll dd]])∧ZV w' (.agg #[.bool nn,.slice aa kk cc]) z∧ZV w' (.agg #[.bool mm,.slice bb ll dd]) zr∧Below w1.heap.size w1 w'):=Lib.hid (by
            have e:=(rec_55 p q s t).symm.trans HZ.out
            rw [if_neg hc] at e
            obtain ⟨P,b0,b1,b2,b3,b4⟩:=HB.out
            refine ⟨rC p q, ?_⟩
            rw [← e]
            exact fun va vb w1 hx hy=>cut9 va vb _ _ w1 hx hy (big_hugeZ (by omega)) hc)
          obtain ⟨zr,CT⟩:=CT.out
          replace CT:=Lib.hid CT
          clear hc
          obtain ⟨zC0,zC1,-,-,_⟩:=blk2 KC.out
          go_wp2_with fail
          refine (ZZ.out _ _ L3.out).mono ?_
          rintro e w6 ⟨rfl,hb⟩
          have B6:=Lib.hid (below_of BV.out hb); have G6:=Lib.hid (car hb GV.out)
          have MA:=Lib.hid (car hb KA.out); have N1:=Lib.hid (L1.out.below hb)
          have MC:=Lib.hid (car hb KC.out); have N3:=Lib.hid (L3.out.below hb)
          clear hb zC0 zC1
          obtain ⟨zA0,zA1,-,-,_⟩:=blk2 MA.out
          obtain ⟨zC0,zC1,-,-,_⟩:=blk2 MC.out
          go_wp2_with fail
          refine (CT.out _ _ _ N1.out N3.out).mono ?_
          rintro e w8 ⟨n8,a8,k8,c8,m8,b8,l8,d8,rfl,za,zb,hb8⟩
          obtain ⟨V8,eV8,g8a,g8b,bV8,hV8s⟩:=alloc2 w8 (Obj.cells #[.bool n8,.slice a8 k8 c8] 61) (Obj.cells #[.bool m8,.slice b8 l8 d8] 61)
          have Z9:=Lib.hid (za.below bV8)
          have B9:=Lib.hid (below_of B6.out (below_of hb8 bV8)); have G9:=Lib.hid (car bV8 (car hb8 G6.out))
          obtain ⟨e0,e1,-,-,_⟩:=blk2 g8a
          obtain ⟨q0,q1,r0,r1,_⟩:=blk2 G9.out
          have EV8:=Lib.hid eV8
          clear za zb hb8 g8a g8b bV8 eV8 zA0 zA1 zC0 zC1
          go_upto_region 21 with fail
          try rw [EV8.out]
          go_wp2
          exact bodyPost_ret (results_zt rfl rfl (set2_row _ _ G9.out)) rfl ⟨_,_,_,_,rfl,Z9.out.far G9.out,(B9.out.setCell (Nat.le_refl _) _).setCell (Nat.le_refl _) _⟩
      · clear HO d44
        by_cases hc:q=0
        · have e:z=p:=by
            have e:=(rec_56 p q s t).symm.trans HZ.out
            rw [if_pos hc] at e
            exact e.symm
          subst e
          have ZZ:Hid (∀ v w1,ZV w1 v (q)→Calls Tryz.prog 47 #[v] w1 fun e w'=>e=.returned (.bool true)∧Below w1.heap.size w1 w'):=Lib.hid (fun v w1 hv=>rzero_any v _ true (decide_eq_true hc) w1 hv)
          clear hc
          obtain ⟨zC0,zC1,-,-,_⟩:=blk2 KC.out
          go_wp2_with fail
          refine (ZZ.out _ _ L3.out).mono ?_
          rintro e w6 ⟨rfl,hb⟩
          have B6:=Lib.hid (below_of BV.out hb); have G6:=Lib.hid (car hb GV.out)
          have MA:=Lib.hid (car hb KA.out); have N1:=Lib.hid (L1.out.below hb)
          clear hb zC0 zC1
          obtain ⟨x0,x1,-,-,_⟩:=blk2 MA.out
          obtain ⟨q0,q1,r0,r1,_⟩:=blk2 G6.out
          go_wp2
          exact bodyPost_ret (results_zt rfl rfl (set2_row _ _ G6.out)) rfl ⟨_,_,_,_,rfl,N1.out.far G6.out,(B6.out.setCell (Nat.le_refl _) _).setCell (Nat.le_refl _) _⟩
        · have ZZ:Hid (∀ v w1,ZV w1 v (q)→Calls Tryz.prog 47 #[v] w1 fun e w'=>e=.returned (.bool false)∧Below w1.heap.size w1 w'):=Lib.hid (fun v w1 hv=>rzero_any v _ false (decide_eq_false hc) w1 hv)
          have CT:Hid (∃ zr,∀ va vb w1,ZV w1 va p→ZV w1 vb q→Calls Tryz.prog 48 #[va,vb] w1 fun e w'=>∃ nn aa kk cc mm bb ll dd,e=.returned (.tuple #[.agg #[.bool nn,.slice aa kk cc],.agg #[.bool mm,.slice bb ll dd]])∧ZV w' (.agg #[.bool nn,.slice aa kk cc]) zr∧ZV w' (.agg #[.bool mm,.slice bb ll dd]) z∧Below w1.heap.size w1 w'):=Lib.hid (by
            have e:=(rec_56 p q s t).symm.trans HZ.out
            rw [if_neg hc] at e
            obtain ⟨P,b0,b1,b2,b3,b4⟩:=HB.out
            refine ⟨qC p q, ?_⟩
            rw [← e]
            exact fun va vb w1 hx hy=>cut9 va vb _ _ w1 hx hy (big_hugeZ (by omega)) hc)
          obtain ⟨zr,CT⟩:=CT.out
          replace CT:=Lib.hid CT
          clear hc
          obtain ⟨zC0,zC1,-,-,_⟩:=blk2 KC.out
          go_wp2_with fail
          refine (ZZ.out _ _ L3.out).mono ?_
          rintro e w6 ⟨rfl,hb⟩
          have B6:=Lib.hid (below_of BV.out hb); have G6:=Lib.hid (car hb GV.out)
          have MA:=Lib.hid (car hb KA.out); have N1:=Lib.hid (L1.out.below hb)
          have MC:=Lib.hid (car hb KC.out); have N3:=Lib.hid (L3.out.below hb)
          clear hb zC0 zC1
          obtain ⟨zA0,zA1,-,-,_⟩:=blk2 MA.out
          obtain ⟨zC0,zC1,-,-,_⟩:=blk2 MC.out
          go_wp2_with fail
          refine (CT.out _ _ _ N1.out N3.out).mono ?_
          rintro e w8 ⟨n8,a8,k8,c8,m8,b8,l8,d8,rfl,za,zb,hb8⟩
          obtain ⟨V8,eV8,g8a,g8b,bV8,hV8s⟩:=alloc2 w8 (Obj.cells #[.bool n8,.slice a8 k8 c8] 61) (Obj.cells #[.bool m8,.slice b8 l8 d8] 61)
          have Z9:=Lib.hid (zb.below bV8)
          have B9:=Lib.hid (below_of B6.out (below_of hb8 bV8)); have G9:=Lib.hid (car bV8 (car hb8 G6.out))
          obtain ⟨e0,e1,-,-,_⟩:=blk2 g8b
          obtain ⟨q0,q1,r0,r1,_⟩:=blk2 G9.out
          have EV8:=Lib.hid eV8
          clear za zb hb8 g8a g8b bV8 eV8 zA0 zA1 zC0 zC1
          go_upto_region 26 with fail
          try rw [EV8.out]
          go_wp2
          exact bodyPost_ret (results_zt rfl rfl (set2_row _ _ G9.out)) rfl ⟨_,_,_,_,rfl,Z9.out.far G9.out,(B9.out.setCell (Nat.le_refl _) _).setCell (Nat.le_refl _) _⟩
      · clear HO d44
        by_cases hc:t=0
        · by_cases hs:s<0
          · have e:z=1:=by
              have e:=(rec_57 p q s t).symm.trans HZ.out
              rw [if_pos hc,if_pos hs] at e
              exact e.symm
            subst e
            have ZZ:Hid (∀ v w1,ZV w1 v (t)→Calls Tryz.prog 47 #[v] w1 fun e w'=>e=.returned (.bool true)∧Below w1.heap.size w1 w'):=Lib.hid (fun v w1 hv=>rzero_any v _ true (decide_eq_true hc) w1 hv)
            have hbel:n2=true:=L2.out.parts.1.trans (decide_eq_true hs)
            subst hbel
            clear hc hs
            obtain ⟨zD0,zD1,-,-,_⟩:=blk2 KD.out
            go_wp2_with fail
            refine (ZZ.out _ _ L4.out).mono ?_
            rintro e w6 ⟨rfl,hb⟩
            have B6:=Lib.hid (below_of BV.out hb); have G6:=Lib.hid (car hb GV.out)
            have MB:=Lib.hid (car hb KB.out); have N2:=Lib.hid (L2.out.below hb)
            have ME:=Lib.hid (car hb KE.out); have N5:=Lib.hid (L5.out.below hb)
            clear hb zD0 zD1
            obtain ⟨w20,w21,-,-,_⟩:=blk2 MB.out
            obtain ⟨x0,x1,-,-,_⟩:=blk2 ME.out
            obtain ⟨q0,q1,r0,r1,_⟩:=blk2 G6.out
            go_wp2
            exact bodyPost_ret (results_zt rfl rfl (set2_row _ _ G6.out)) rfl ⟨_,_,_,_,rfl,N5.out.far G6.out,(B6.out.setCell (Nat.le_refl _) _).setCell (Nat.le_refl _) _⟩
          · have e:z=-1:=by
              have e:=(rec_57 p q s t).symm.trans HZ.out
              rw [if_pos hc,if_neg hs] at e
              exact e.symm
            subst e
            have ZZ:Hid (∀ v w1,ZV w1 v (t)→Calls Tryz.prog 47 #[v] w1 fun e w'=>e=.returned (.bool true)∧Below w1.heap.size w1 w'):=Lib.hid (fun v w1 hv=>rzero_any v _ true (decide_eq_true hc) w1 hv)
            have MO:Hid (∀ v w1,ZV w1 v (1)→Calls Tryz.prog 42 #[v] w1 fun e w'=>ResZ9 w1 w' e (-1)):=Lib.hid (fun v w1 hv=>minus9 v _ w1 hv)
            have hbel:n2=false:=L2.out.parts.1.trans (decide_eq_false hs)
            subst hbel
            clear hc hs
            obtain ⟨zD0,zD1,-,-,_⟩:=blk2 KD.out
            go_wp2_with fail
            refine (ZZ.out _ _ L4.out).mono ?_
            rintro e w6 ⟨rfl,hb⟩
            have B6:=Lib.hid (below_of BV.out hb); have G6:=Lib.hid (car hb GV.out)
            have MB:=Lib.hid (car hb KB.out); have N2:=Lib.hid (L2.out.below hb)
            have MD:=Lib.hid (car hb KD.out); have N4:=Lib.hid (L4.out.below hb)
            have ME:=Lib.hid (car hb KE.out); have N5:=Lib.hid (L5.out.below hb)
            clear hb zD0 zD1
            obtain ⟨w20,w21,-,-,_⟩:=blk2 MB.out
            obtain ⟨zD0,zD1,-,-,_⟩:=blk2 MD.out
            go_wp2_with fail
            refine (ZZ.out _ _ N4.out).mono ?_
            rintro e w7 ⟨rfl,hb⟩
            have B7:=Lib.hid (below_of B6.out hb); have G7:=Lib.hid (car hb G6.out)
            have PE:=Lib.hid (car hb ME.out); have Q5:=Lib.hid (N5.out.below hb)
            clear hb zD0 zD1
            clear w20 w21
            obtain ⟨zE0,zE1,-,-,_⟩:=blk2 PE.out
            go_wp2_with fail
            refine (MO.out _ _ Q5.out).mono ?_
            rintro e w8 ⟨n8,a8,k8,c8,rfl,hz8,hb8⟩
            clear zE0 zE1
            have G9:=Lib.hid (car hb8 G7.out)
            have B9:=Lib.hid (below_of B7.out hb8)
            have Z9:=Lib.hid hz8
            obtain ⟨q0,q1,r0,r1,_⟩:=blk2 G9.out
            clear hb8 hz8
            go_wp2
            exact bodyPost_ret (results_zt rfl rfl (set2_row _ _ G9.out)) rfl ⟨_,_,_,_,rfl,Z9.out.far G9.out,(B9.out.setCell (Nat.le_refl _) _).setCell (Nat.le_refl _) _⟩
        · have ZZ:Hid (∀ v w1,ZV w1 v (t)→Calls Tryz.prog 47 #[v] w1 fun e w'=>e=.returned (.bool false)∧Below w1.heap.size w1 w'):=Lib.hid (fun v w1 hv=>rzero_any v _ false (decide_eq_false hc) w1 hv)
          have CT:Hid (∃ zr,∀ va vb w1,ZV w1 va s→ZV w1 vb t→Calls Tryz.prog 48 #[va,vb] w1 fun e w'=>∃ nn aa kk cc mm bb ll dd,e=.returned (.tuple #[.agg #[.bool nn,.slice aa kk cc],.agg #[.bool mm,.slice bb ll dd]])∧ZV w' (.agg #[.bool nn,.slice aa kk cc]) z∧ZV w' (.agg #[.bool mm,.slice bb ll dd]) zr∧Below w1.heap.size w1 w'):=Lib.hid (by
            have e:=(rec_57 p q s t).symm.trans HZ.out
            rw [if_neg hc] at e
            obtain ⟨P,b0,b1,b2,b3,b4⟩:=HB.out
            refine ⟨rC s t, ?_⟩
            rw [← e]
            exact fun va vb w1 hx hy=>cut9 va vb _ _ w1 hx hy (big_hugeZ (by omega)) hc)
          obtain ⟨zr,CT⟩:=CT.out
          replace CT:=Lib.hid CT
          clear hc
          obtain ⟨zD0,zD1,-,-,_⟩:=blk2 KD.out
          go_wp2_with fail
          refine (ZZ.out _ _ L4.out).mono ?_
          rintro e w6 ⟨rfl,hb⟩
          have B6:=Lib.hid (below_of BV.out hb); have G6:=Lib.hid (car hb GV.out)
          have MB:=Lib.hid (car hb KB.out); have N2:=Lib.hid (L2.out.below hb)
          have MD:=Lib.hid (car hb KD.out); have N4:=Lib.hid (L4.out.below hb)
          clear hb zD0 zD1
          obtain ⟨zD0,zD1,-,-,_⟩:=blk2 MD.out
          go_wp2_with fail
          refine (ZZ.out _ _ N4.out).mono ?_
          rintro e w7 ⟨rfl,hb⟩
          have B7:=Lib.hid (below_of B6.out hb); have G7:=Lib.hid (car hb G6.out)
          have PB:=Lib.hid (car hb MB.out); have Q2:=Lib.hid (N2.out.below hb)
          have PD:=Lib.hid (car hb MD.out); have Q4:=Lib.hid (N4.out.below hb)
          clear hb zD0 zD1
          obtain ⟨zB0,zB1,-,-,_⟩:=blk2 PB.out
          obtain ⟨zD0,zD1,-,-,_⟩:=blk2 PD.out
          go_wp2_with fail
          refine (CT.out _ _ _ Q2.out Q4.out).mono ?_
          rintro e w8 ⟨n8,a8,k8,c8,m8,b8,l8,d8,rfl,za,zb,hb8⟩
          obtain ⟨V8,eV8,g8a,g8b,bV8,hV8s⟩:=alloc2 w8 (Obj.cells #[.bool n8,.slice a8 k8 c8] 61) (Obj.cells #[.bool m8,.slice b8 l8 d8] 61)
          have Z9:=Lib.hid (za.below bV8)
          have B9:=Lib.hid (below_of B7.out (below_of hb8 bV8)); have G9:=Lib.hid (car bV8 (car hb8 G7.out))
          obtain ⟨e0,e1,-,-,_⟩:=blk2 g8a
          obtain ⟨q0,q1,r0,r1,_⟩:=blk2 G9.out
          have EV8:=Lib.hid eV8
          clear za zb hb8 g8a g8b bV8 eV8 zB0 zB1 zD0 zD1
          go_upto_region 33 with fail
          try rw [EV8.out]
          go_wp2
          exact bodyPost_ret (results_zt rfl rfl (set2_row _ _ G9.out)) rfl ⟨_,_,_,_,rfl,Z9.out.far G9.out,(B9.out.setCell (Nat.le_refl _) _).setCell (Nat.le_refl _) _⟩
      · clear HO d44
        by_cases hc:t=0
        · have e:z=s:=by
            have e:=(rec_58 p q s t).symm.trans HZ.out
            rw [if_pos hc] at e
            exact e.symm
          subst e
          have ZZ:Hid (∀ v w1,ZV w1 v (t)→Calls Tryz.prog 47 #[v] w1 fun e w'=>e=.returned (.bool true)∧Below w1.heap.size w1 w'):=Lib.hid (fun v w1 hv=>rzero_any v _ true (decide_eq_true hc) w1 hv)
          clear hc
          obtain ⟨zD0,zD1,-,-,_⟩:=blk2 KD.out
          go_wp2_with fail
          refine (ZZ.out _ _ L4.out).mono ?_
          rintro e w6 ⟨rfl,hb⟩
          have B6:=Lib.hid (below_of BV.out hb); have G6:=Lib.hid (car hb GV.out)
          have MB:=Lib.hid (car hb KB.out); have N2:=Lib.hid (L2.out.below hb)
          clear hb zD0 zD1
          obtain ⟨x0,x1,-,-,_⟩:=blk2 MB.out
          obtain ⟨q0,q1,r0,r1,_⟩:=blk2 G6.out
          go_wp2
          exact bodyPost_ret (results_zt rfl rfl (set2_row _ _ G6.out)) rfl ⟨_,_,_,_,rfl,N2.out.far G6.out,(B6.out.setCell (Nat.le_refl _) _).setCell (Nat.le_refl _) _⟩
        · have ZZ:Hid (∀ v w1,ZV w1 v (t)→Calls Tryz.prog 47 #[v] w1 fun e w'=>e=.returned (.bool false)∧Below w1.heap.size w1 w'):=Lib.hid (fun v w1 hv=>rzero_any v _ false (decide_eq_false hc) w1 hv)
          have CT:Hid (∃ zr,∀ va vb w1,ZV w1 va s→ZV w1 vb t→Calls Tryz.prog 48 #[va,vb] w1 fun e w'=>∃ nn aa kk cc mm bb ll dd,e=.returned (.tuple #[.agg #[.bool nn,.slice aa kk cc],.agg #[.bool mm,.slice bb ll dd]])∧ZV w' (.agg #[.bool nn,.slice aa kk cc]) zr∧ZV w' (.agg #[.bool mm,.slice bb ll dd]) z∧Below w1.heap.size w1 w'):=Lib.hid (by
            have e:=(rec_58 p q s t).symm.trans HZ.out
            rw [if_neg hc] at e
            obtain ⟨P,b0,b1,b2,b3,b4⟩:=HB.out
            refine ⟨qC s t, ?_⟩
            rw [← e]
            exact fun va vb w1 hx hy=>cut9 va vb _ _ w1 hx hy (big_hugeZ (by omega)) hc)
          obtain ⟨zr,CT⟩:=CT.out
          replace CT:=Lib.hid CT
          clear hc
          obtain ⟨zD0,zD1,-,-,_⟩:=blk2 KD.out
          go_wp2_with fail
          refine (ZZ.out _ _ L4.out).mono ?_
          rintro e w6 ⟨rfl,hb⟩
          have B6:=Lib.hid (below_of BV.out hb); have G6:=Lib.hid (car hb GV.out)
          have MB:=Lib.hid (car hb KB.out); have N2:=Lib.hid (L2.out.below hb)
          have MD:=Lib.hid (car hb KD.out); have N4:=Lib.hid (L4.out.below hb)
          clear hb zD0 zD1
          obtain ⟨zB0,zB1,-,-,_⟩:=blk2 MB.out
          obtain ⟨zD0,zD1,-,-,_⟩:=blk2 MD.out
          go_wp2_with fail
          refine (CT.out _ _ _ N2.out N4.out).mono ?_
          rintro e w8 ⟨n8,a8,k8,c8,m8,b8,l8,d8,rfl,za,zb,hb8⟩
          obtain ⟨V8,eV8,g8a,g8b,bV8,hV8s⟩:=alloc2 w8 (Obj.cells #[.bool n8,.slice a8 k8 c8] 61) (Obj.cells #[.bool m8,.slice b8 l8 d8] 61)
          have Z9:=Lib.hid (zb.below bV8)
          have B9:=Lib.hid (below_of B6.out (below_of hb8 bV8)); have G9:=Lib.hid (car bV8 (car hb8 G6.out))
          obtain ⟨e0,e1,-,-,_⟩:=blk2 g8b
          obtain ⟨q0,q1,r0,r1,_⟩:=blk2 G9.out
          have EV8:=Lib.hid eV8
          clear za zb hb8 g8a g8b bV8 eV8 zB0 zB1 zD0 zD1
          go_upto_region 38 with fail
          try rw [EV8.out]
          go_wp2
          exact bodyPost_ret (results_zt rfl rfl (set2_row _ _ G9.out)) rfl ⟨_,_,_,_,rfl,Z9.out.far G9.out,(B9.out.setCell (Nat.le_refl _) _).setCell (Nat.le_refl _) _⟩
      · clear HO d44
        by_cases hc:t=0
        · have e:z=s:=by
            have e:=(rec_59 p q s t).symm.trans HZ.out
            rw [if_pos hc] at e
            exact e.symm
          subst e
          have ZZ:Hid (∀ v w1,ZV w1 v (t)→Calls Tryz.prog 47 #[v] w1 fun e w'=>e=.returned (.bool true)∧Below w1.heap.size w1 w'):=Lib.hid (fun v w1 hv=>rzero_any v _ true (decide_eq_true hc) w1 hv)
          clear hc
          obtain ⟨zD0,zD1,-,-,_⟩:=blk2 KD.out
          go_wp2_with fail
          refine (ZZ.out _ _ L4.out).mono ?_
          rintro e w6 ⟨rfl,hb⟩
          have B6:=Lib.hid (below_of BV.out hb); have G6:=Lib.hid (car hb GV.out)
          have MB:=Lib.hid (car hb KB.out); have N2:=Lib.hid (L2.out.below hb)
          clear hb zD0 zD1
          obtain ⟨x0,x1,-,-,_⟩:=blk2 MB.out
          obtain ⟨q0,q1,r0,r1,_⟩:=blk2 G6.out
          go_wp2
          exact bodyPost_ret (results_zt rfl rfl (set2_row _ _ G6.out)) rfl ⟨_,_,_,_,rfl,N2.out.far G6.out,(B6.out.setCell (Nat.le_refl _) _).setCell (Nat.le_refl _) _⟩
        · have ZZ:Hid (∀ v w1,ZV w1 v (t)→Calls Tryz.prog 47 #[v] w1 fun e w'=>e=.returned (.bool false)∧Below w1.heap.size w1 w'):=Lib.hid (fun v w1 hv=>rzero_any v _ false (decide_eq_false hc) w1 hv)
          obtain ⟨fq,hfq⟩:∃ x,qF s t=x:=⟨_,rfl⟩
          obtain ⟨uq,huq⟩:∃ x,fq*t=x:=⟨_,rfl⟩
          obtain ⟨un,hun⟩:∃ x,-uq=x:=⟨_,rfl⟩
          have e9:z=s+un:=by
            have e:=(rec_59 p q s t).symm.trans HZ.out
            rw [if_neg hc,hfq,huq,hun] at e
            exact e.symm
          have HN:Hid (fq.natAbs<Big∧un.natAbs<HugeD∧s.natAbs<Big∧t.natAbs<Big):=Lib.hid (by
            obtain ⟨P,b0,b1,b2,b3,b4⟩:=HB.out
            obtain ⟨hq1,hq2⟩:=qF_near s t hc
            rw [hfq] at hq1 hq2
            rw [huq] at hq2
            exact ⟨by omega,big_hugeZ (by omega),by omega,by omega⟩)
          have RD:Hid (∀ va vb w1,ZV w1 va s→ZV w1 vb t→Calls Tryz.prog 49 #[va,vb,.bool false] w1 fun e w'=>ResZ9 w1 w' e fq):=Lib.hid (by
            rw [← hfq]
            exact fun va vb w1 hx hy=>round9 va vb _ _ w1 hx hy (big_hugeZ HN.out.2.2.1) (big_hugeZ HN.out.2.2.2) hc)
          have TM:Hid (∀ va vb w1,ZV w1 va fq→ZV w1 vb t→Calls Tryz.prog 46 #[va,vb] w1 fun e w'=>ResZ9 w1 w' e uq):=Lib.hid (by
            rw [← huq]
            exact fun va vb w1 hx hy=>times9 va vb _ _ w1 hx hy HN.out.1 HN.out.2.2.2)
          have MN:Hid (∀ v w1,ZV w1 v uq→Calls Tryz.prog 42 #[v] w1 fun e w'=>ResZ9 w1 w' e un):=Lib.hid (by
            rw [← hun]
            exact fun v w1 hv=>minus9 v _ w1 hv)
          have PL:Hid (∀ va vb w1,ZV w1 va s→ZV w1 vb un→Calls Tryz.prog 45 #[va,vb] w1 fun e w'=>ResZ9 w1 w' e z):=Lib.hid (by
            rw [e9]
            exact fun va vb w1 hx hy=>plus9 va vb _ _ w1 hx hy (big_hugeZ HN.out.2.2.1) HN.out.2.1)
          clear hc e9 hfq huq hun
          obtain ⟨zD0,zD1,-,-,_⟩:=blk2 KD.out
          go_wp2_with fail
          refine (ZZ.out _ _ L4.out).mono ?_
          rintro e w6 ⟨rfl,hb⟩
          have B6:=Lib.hid (below_of BV.out hb); have G6:=Lib.hid (car hb GV.out)
          have MB:=Lib.hid (car hb KB.out); have N2:=Lib.hid (L2.out.below hb)
          have MD:=Lib.hid (car hb KD.out); have N4:=Lib.hid (L4.out.below hb)
          clear hb zD0 zD1
          obtain ⟨z20,z21,-,-,_⟩:=blk2 MB.out
          obtain ⟨z40,z41,-,-,_⟩:=blk2 MD.out
          go_wp2_with fail
          refine (RD.out _ _ _ N2.out N4.out).mono ?_
          rintro e w7 ⟨n7,a7,k7,c7,rfl,hz7,hb7⟩
          obtain ⟨V7,eV7,gV7,bV7,hV7s⟩:=alloc1n w7 (Obj.cells #[.bool n7,.slice a7 k7 c7] 61)
          have hb8:=below_of hb7 bV7
          have B7:=Lib.hid (below_of B6.out hb8); have G7:=Lib.hid (car hb8 G6.out)
          have PB:=Lib.hid (car hb8 MB.out); have PD:=Lib.hid (car hb8 MD.out); have PF:=Lib.hid gV7
          have Q2:=Lib.hid (N2.out.below hb8); have Q4:=Lib.hid (N4.out.below hb8); have Q6:=Lib.hid (hz7.below bV7)
          have EV7:=Lib.hid eV7
          have hF:w.heap.size<w7.heap.size:=(Array.getElem?_eq_some_iff.1 (car hb7 G6.out)).1
          clear hz7 hb7 hb8 gV7 bV7 eV7 z20 z21 z40 z41
          have TX:Hid (∀ w1,Below V7.heap.size V7 w1→_):=Lib.hid (fun w1 hw=>TM.out _ _ w1 (Q6.out.below hw) (Q4.out.below hw))
          have MX:Hid (∀ v w1,Below V7.heap.size V7 w1→ZV w1 v uq→_):=Lib.hid (fun v w1 _ hz=>MN.out v w1 hz)
          have PX:Hid (∀ vb w1,Below V7.heap.size V7 w1→ZV w1 vb un→_):=Lib.hid (fun vb w1 hw hz=>PL.out _ vb w1 (Q2.out.below hw) hz)
          go_upto_region 42 with fail
          try rw [EV7.out]
          clear EV7
          have STAYv:Hid (∀ w',Below V7.heap.size V7 w'→w'.cell? ⟨y2,0,none⟩=some (.bool n2)∧w'.cell? ⟨y2,1,none⟩=some (.slice a2 k2 c2)∧w'.cell? ⟨y4,0,none⟩=some (.bool n4)∧w'.cell? ⟨y4,1,none⟩=some (.slice a4 k4 c4)∧w'.cell? ⟨w7.heap.size,0,none⟩=some (.bool n7)∧w'.cell? ⟨w7.heap.size,1,none⟩=some (.slice a7 k7 c7)):=Lib.hid (fun w' hb=>by
            obtain ⟨e0,e1,-,-,_⟩:=blk2 (car hb PB.out)
            obtain ⟨e2,e3,-,-,_⟩:=blk2 (car hb PD.out)
            obtain ⟨e4,e5,-,-,_⟩:=blk2 (car hb PF.out)
            exact ⟨e0,e1,e2,e3,e4,e5⟩)
          have STAZv:Hid (∀ w' yy0 yy1,Below V7.heap.size V7 w'→((w'.setCell ⟨w.heap.size,0,none⟩ yy0).setCell ⟨w.heap.size,1,none⟩ yy1).cell? ⟨y2,0,none⟩=some (.bool n2)∧((w'.setCell ⟨w.heap.size,0,none⟩ yy0).setCell ⟨w.heap.size,1,none⟩ yy1).cell? ⟨y2,1,none⟩=some (.slice a2 k2 c2)∧((w'.setCell ⟨w.heap.size,0,none⟩ yy0).setCell ⟨w.heap.size,1,none⟩ yy1).cell? ⟨y4,0,none⟩=some (.bool n4)∧((w'.setCell ⟨w.heap.size,0,none⟩ yy0).setCell ⟨w.heap.size,1,none⟩ yy1).cell? ⟨y4,1,none⟩=some (.slice a4 k4 c4)∧((w'.setCell ⟨w.heap.size,0,none⟩ yy0).setCell ⟨w.heap.size,1,none⟩ yy1).cell? ⟨w7.heap.size,0,none⟩=some (.bool n7)∧((w'.setCell ⟨w.heap.size,0,none⟩ yy0).setCell ⟨w.heap.size,1,none⟩ yy1).cell? ⟨w7.heap.size,1,none⟩=some (.slice a7 k7 c7)):=Lib.hid (fun w' yy0 yy1 hb=>by
            obtain ⟨e0,e1,-,-,_⟩:=blk2 (blk_far2 (R:=w.heap.size) (y0:=yy0) (y1:=yy1) (car hb PB.out) (by omega))
            obtain ⟨e2,e3,-,-,_⟩:=blk2 (blk_far2 (R:=w.heap.size) (y0:=yy0) (y1:=yy1) (car hb PD.out) (by omega))
            obtain ⟨e4,e5,-,-,_⟩:=blk2 (blk_far2 (R:=w.heap.size) (y0:=yy0) (y1:=yy1) (car hb PF.out) (by omega))
            exact ⟨e0,e1,e2,e3,e4,e5⟩)
          have hkv_0:=Below.refl V7.heap.size V7
          go_region_held3 (fun w'=>w'.cell? ⟨y2,0,none⟩=some (.bool n2)∧w'.cell? ⟨y2,1,none⟩=some (.slice a2 k2 c2)∧w'.cell? ⟨y4,0,none⟩=some (.bool n4)∧w'.cell? ⟨y4,1,none⟩=some (.slice a4 k4 c4)∧w'.cell? ⟨w7.heap.size,0,none⟩=some (.bool n7)∧w'.cell? ⟨w7.heap.size,1,none⟩=some (.slice a7 k7 c7))
            ((first | (refine STAYv.out _ ?_; first | exact hkv_3 | exact hkv_3.drew | exact hkv_2 | exact hkv_2.drew | exact hkv_1 | exact hkv_1.drew | exact hkv_0 | exact hkv_0.drew) | exact STAZv.out _ _ _ hkv_3 | exact STAZv.out _ _ _ hkv_3.drew))
            (first
            | (have tk:=TKv_2; go_at_call 45; (with_reducible refine Calls.mono (PX.out _ _ (by first | exact hkv_2 | exact hkv_2.drew) ?_) ?_); (first | exact ziv_2.out | exact zv_drew ziv_2.out); rintro e wv_3 ⟨nv_3,av_3,kv_3,cv_3,rfl,zz,hb⟩; have hkv_3:Below V7.heap.size V7 wv_3:=(by first | exact below_of hkv_2 hb | exact below_of hkv_2.drew hb); have ziv_3:=Lib.hid zz; have G9:=Lib.hid (car hkv_3 G7.out); obtain ⟨q0,q1,r0,r1,_⟩:=blk2 G9.out; have hz9:=hkv_3.size; have TKv_3:True:=trivial; clear zz hb)
            | (have tk:=TKv_1; go_at_call 42; (with_reducible refine Calls.mono (MX.out _ _ (by first | exact hkv_1 | exact hkv_1.drew) ?_) ?_); (first | exact ziv_1.out | exact zv_drew ziv_1.out); rintro e wv_2 ⟨nv_2,av_2,kv_2,cv_2,rfl,zz,hb⟩; have hkv_2:Below V7.heap.size V7 wv_2:=(by first | exact below_of hkv_1 hb | exact below_of hkv_1.drew hb); have ziv_2:=Lib.hid zz; have TKv_2:True:=trivial; clear zz hb)
            | (go_at_call 46; (with_reducible refine Calls.mono (TX.out _ (by first | exact hkv_0 | exact hkv_0.drew)) ?_); rintro e wv_1 ⟨nv_1,av_1,kv_1,cv_1,rfl,zz,hb⟩; have hkv_1:Below V7.heap.size V7 wv_1:=(by first | exact below_of hkv_0 hb | exact below_of hkv_0.drew hb); have ziv_1:=Lib.hid zz; have TKv_1:True:=trivial; clear zz hb))
          all_goals
            go_wp2
            exact bodyPost_ret (results_zt rfl rfl (set2_row _ _ G9.out)) rfl ⟨_,_,_,_,rfl,ziv_3.out.far G9.out,((below_of B7.out hkv_3).setCell (Nat.le_refl _) _).setCell (Nat.le_refl _) _⟩
end Go.Proofs.YtacbkpenohcgjaaGreat
