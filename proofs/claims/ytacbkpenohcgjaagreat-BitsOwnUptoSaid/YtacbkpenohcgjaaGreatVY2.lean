import Derived.Test.YtacbkpenohcgjaaGreatVY1
import Derived.Test.YtacbkpenohcgjaaGreatVMA
import Derived.Test.YtacbkpenohcgjaaGreatVRF
import Derived.Deep.RegionHeld3
import Derived.Test.YtacbkpenohcgjaaGreatVZ3
set_option linter.unusedVariables false
set_option linter.unusedSimpArgs false
set_option maxHeartbeats 2000000
set_option maxRecDepth 100000
namespace Go.Proofs.YtacbkpenohcgjaaGreat
open Go.RowKit Mth
def DNum (w:World) (v:Value) (n:Nat):Prop:=∃ ys,Sl w .u16 v ys∧Lim B16 ys∧val B16 ys=n
theorem DNum.below {w w':World} {v:Value} {n:Nat} (h:DNum w v n) (hb:Below w.heap.size w w'):DNum w' v n:=by
  obtain ⟨ys,h1,h2⟩:=h; exact ⟨ys,h1.below hb,h2⟩
theorem append_dig {w:World} {ops:Array Oper} {rest:List Oper} {o:Oper} {a:Act} {Q:Exit→Act→World→Prop} (hgd:o.guard=none) (s x:Operand)
    (ho:o.op=.call { callee:=.builtin .append,args:=#[s,x],argTypes:=#[59,59] }) (base:Nat) (v:Value) (xs:List Nat) (y:Nat) (d:Int) (ad:Addr) (hd:d=((y:Nat):Int))
    (hs:a.eval s=v) (hx:a.eval x=.slice (some ad) 1 1) (hown:w.ownsRow base 104 1 v xs.length (cellsOf .u16 xs)) (hc:w.cell? ad=some (.int .u16 d)) (hlen:xs.length≤16777216) (hbase:base≤w.heap.size)
    (h:∀ v' w',w'.ownsRow base 104 1 v' (xs++[y]).length (cellsOf .u16 (xs++[y]))→w.grownBy w' v.ownBlock→wpList Tryz.prog ops Q rest (a.put o.dst v') w'):wpList Tryz.prog ops Q (o :: rest) a w:=by
  subst hd
  obtain ⟨i0,hi,hz0,hz1,hz2⟩:=info_parts info_u16
  refine wpList_append_own w hgd s x 59 ho base 104 i0 _ 1 2 Tryz.underlying59 hi hz0 hz1 hz2 rfl (by decide) v _ _ hs hown ad 1 1 [.int .u16 ((y:Nat):Int)] hx rfl ?_ ?_
    (by unfold maxLen; omega) (by omega) hbase ?_
  · intro j u hj
    match j,hj with
    | 0,hj=>simp at hj; subst hj; simpa [Addr.add] using hc
  · intro u hu
    simp at hu; subst hu; rfl
  · intro v' w' h2 h3 _
    refine h v' w' ?_ h3
    rw [cellsOf_append,List.length_append]
    exact h2
def AddDO (w wr:World) (xs ys:List Nat) (v c i:Value):Prop:=∃ (k cc:Nat) (os:List Nat),k≤max xs.length ys.length+1∧(k=max xs.length ys.length+1→cc=0)∧i=.int .i64 k∧c=.int .u32 (cc:Int)∧SumT xs ys os k cc∧wr.ownsRow w.heap.size 104 1 v os.length (cellsOf .u16 os)∧Below w.heap.size w wr
theorem sA (x y c:Nat):IntKind.u16.wrap ((c:Int)+(x:Int)+(y:Int))=((ahS x y c:Nat):Int):=by
  rw [show ((c:Int)+(x:Int)+(y:Int))=((x+y+c:Nat):Int) by omega]
  simp [IntKind.wrap_u16,ahS]
theorem sB (x c:Nat):IntKind.u16.wrap ((c:Int)+(x:Int))=((ahS x 0 c:Nat):Int):=by simpa using sA x 0 c
theorem sC (y c:Nat):IntKind.u16.wrap ((c:Int)+(y:Int))=((ahS 0 y c:Nat):Int):=by simpa using sA 0 y c
theorem sD (c:Nat):IntKind.u16.wrap (c:Int)=((ahS 0 0 c:Nat):Int):=by simpa using sA 0 0 c
theorem cA (x y c:Nat):((c:Int)+(x:Int)+(y:Int)) / 65536=((ahC x y c:Nat):Int):=by unfold ahC; omega
theorem cB (x c:Nat):((c:Int)+(x:Int)) / 65536=((ahC x 0 c:Nat):Int):=by unfold ahC; omega
theorem cC (y c:Nat):((c:Int)+(y:Int)) / 65536=((ahC 0 y c:Nat):Int):=by unfold ahC; omega
theorem cD (c:Nat):(c:Int) / 65536=((ahC 0 0 c:Nat):Int):=by unfold ahC; omega
theorem addD_any (v1 v2:Value) (xs ys:List Nat) (w:World) (s1:Sl w .u16 v1 xs) (s2:Sl w .u16 v2 ys) (l1:Lim B16 xs) (l2:Lim B16 ys) (hx:xs.length≤16500000) (hy:ys.length≤16500000) :
    Calls Tryz.prog 93 #[v1,v2] w fun e w'=>∃ v',e=.returned v'∧DNum w' v' (val B16 xs+val B16 ys)∧Below w.heap.size w w':=by
  obtain ⟨a1,c1,rfl⟩:=s1.shape
  obtain ⟨a2,c2,rfl⟩:=s2.shape
  have S1:=Lib.hid s1; have S2:=Lib.hid s2; have L1:=Lib.hid l1; have L2:=Lib.hid l2
  clear s1 s2 l1 l2
  go_enter Tryz.func93,Tryz.ntmps93
  go_wp2
  go_loopw [5,6,7] (fun v c i wr=>AddDO w wr xs ys v c i) (fun _ _ i _=>max xs.length ys.length+1 - (intOf i).toNat)
  case atStart=>exact ⟨0,0,[],Nat.zero_le _,fun _=>rfl,rfl,rfl,sumT_zero xs ys,World.ownsRow_nil _ _ _ _,Below.refl _ _⟩
  case round =>
    obtain ⟨k,c,os,hk,hkc,rfl,rfl,hT,hown,hbel⟩:=hrel
    have HO:=Lib.hid hown; have HB:=Lib.hid hbel
    have HM:=Lib.hid (show max xs.length ys.length≤16500000 by omega)
    by_cases hgo:k<xs.length∨k<ys.length∨0<c
    · have hkm:k≤max xs.length ys.length:=by
        rcases hgo with h | h | h
        · omega
        · omega
        · by_cases e:k=max xs.length ys.length+1
          · have:=hkc e; omega
          · omega
      have HST:=Lib.hid (sumT_step hT L1.out L2.out)
      have hx0:=L1.out k
      have hy0:=L2.out k
      have hc:=hT.cle
      have hol:=hT.len
      have HX:Hid (k<xs.length→∃ b off,a1=some ⟨b,off,none⟩∧wr.cell? ⟨b,off+k,none⟩=some (.int .u16 ((xs.getD k 0:Nat):Int))):=Lib.hid (fun h=>by
        obtain ⟨b,off,cap,e,_,_,hlt,hc⟩:=(S1.out.below hbel).pos (by omega)
        simp only [Value.slice.injEq] at e
        exact ⟨b,off,e.1,hc k h⟩)
      have HY:Hid (k<ys.length→∃ b off,a2=some ⟨b,off,none⟩∧wr.cell? ⟨b,off+k,none⟩=some (.int .u16 ((ys.getD k 0:Nat):Int))):=Lib.hid (fun h=>by
        obtain ⟨b,off,cap,e,_,_,hlt,hc⟩:=(S2.out.below hbel).pos (by omega)
        simp only [Value.slice.injEq] at e
        exact ⟨b,off,e.1,hc k h⟩)
      have hc1:c1≤9223372036854775807:=by obtain ⟨_,_,e,_,h,_⟩:=S1.out; simp only [Value.slice.injEq] at e; unfold maxLen at h; omega
      have hc2:c2≤9223372036854775807:=by obtain ⟨_,_,e,_,h,_⟩:=S2.out; simp only [Value.slice.injEq] at e; unfold maxLen at h; omega
      have hlast:k=max xs.length ys.length→ahC (xs.getD k 0) (ys.getD k 0) c=0:=fun e=>by
        rw [getD_ge xs k (by omega),getD_ge ys k (by omega)]; unfold ahC; omega
      have hzx:¬ k<xs.length→xs.getD k 0=0:=fun h=>getD_ge xs k (by omega)
      have hzy:¬ k<ys.length→ys.getD k 0=0:=fun h=>getD_ge ys k (by omega)
      generalize xs.getD k 0=x at *
      generalize ys.getD k 0=y at *
      have HOL:=Lib.hid hol; have HLAST:=Lib.hid hlast; have HKM:=Lib.hid hkm
      have hx':x≤65535:=by unfold B16 at hx0; omega
      have hy':y≤65535:=by unfold B16 at hy0; omega
      have hk16:k≤16500000:=by omega
      clear hT hown hbel hx0 hy0 hol hlast hkc hk hkm
      by_cases h1:k<xs.length
      · obtain ⟨b1,o1,rfl,q1⟩:=HX.out h1
        by_cases h2:k<ys.length
        · obtain ⟨b2,o2,rfl,q2⟩:=HY.out h2
          clear hgo hzx hzy
          go_wp2_with (refine append_dig (o:=⟨some 50,_,_,_,_,_⟩) rfl _ _ rfl w.heap.size _ os (ahS x y c) _ ⟨wr.heap.size,0,none⟩ (sA x y c) rfl rfl (HO.out.alloc _) (World.cell?_alloc_new _ _ _ _) (by have:=HOL.out; omega) (by have:=HB.out.size; simp; omega) ?_; intro v' w1 hown1 hg1)
          have HO1:=Lib.hid hown1
          have HB1:=Lib.hid (below_own (HB.out.alloc HB.out.size _) (HO.out.alloc _) hg1 (by have:=HB.out.size; simp; omega))
          clear hown1 hg1
          go_wp2
          refine ⟨⟨k+1,ahC x y c,_,by have:=HKM.out; omega,fun e=>HLAST.out (by omega),by go_num,by rw [cA x y c],HST.out,HO1.out,HB1.out⟩,by have:=HKM.out; simp [intOf]; omega⟩
        · obtain rfl:=hzy h2
          clear hgo hzx hzy
          go_wp2_with (refine append_dig (o:=⟨some 50,_,_,_,_,_⟩) rfl _ _ rfl w.heap.size _ os (ahS x 0 c) _ ⟨wr.heap.size,0,none⟩ (sB x c) rfl rfl (HO.out.alloc _) (World.cell?_alloc_new _ _ _ _) (by have:=HOL.out; omega) (by have:=HB.out.size; simp; omega) ?_; intro v' w1 hown1 hg1)
          have HO1:=Lib.hid hown1
          have HB1:=Lib.hid (below_own (HB.out.alloc HB.out.size _) (HO.out.alloc _) hg1 (by have:=HB.out.size; simp; omega))
          clear hown1 hg1
          go_wp2
          refine ⟨⟨k+1,ahC x 0 c,_,by have:=HKM.out; omega,fun e=>HLAST.out (by omega),by go_num,by rw [cB x c],HST.out,HO1.out,HB1.out⟩,by have:=HKM.out; simp [intOf]; omega⟩
      · obtain rfl:=hzx h1
        by_cases h2:k<ys.length
        · obtain ⟨b2,o2,rfl,q2⟩:=HY.out h2
          clear hgo hzx hzy
          go_wp2_with (refine append_dig (o:=⟨some 50,_,_,_,_,_⟩) rfl _ _ rfl w.heap.size _ os (ahS 0 y c) _ ⟨wr.heap.size,0,none⟩ (sC y c) rfl rfl (HO.out.alloc _) (World.cell?_alloc_new _ _ _ _) (by have:=HOL.out; omega) (by have:=HB.out.size; simp; omega) ?_; intro v' w1 hown1 hg1)
          have HO1:=Lib.hid hown1
          have HB1:=Lib.hid (below_own (HB.out.alloc HB.out.size _) (HO.out.alloc _) hg1 (by have:=HB.out.size; simp; omega))
          clear hown1 hg1
          go_wp2
          refine ⟨⟨k+1,ahC 0 y c,_,by have:=HKM.out; omega,fun e=>HLAST.out (by omega),by go_num,by rw [cC y c],HST.out,HO1.out,HB1.out⟩,by have:=HKM.out; simp [intOf]; omega⟩
        · obtain rfl:=hzy h2
          have hc0:0<c:=by omega
          have HD:Hid ((c:Int)=((ahS 0 0 c:Nat):Int)):=Lib.hid (by unfold ahS; omega)
          have HC0:Hid ((0:Int)=((ahC 0 0 c:Nat):Int)):=Lib.hid (by unfold ahC; omega)
          clear hgo hzx hzy
          go_wp2_with (refine append_dig (o:=⟨some 50,_,_,_,_,_⟩) rfl _ _ rfl w.heap.size _ os (ahS 0 0 c) _ ⟨wr.heap.size,0,none⟩ (by first | exact sD c | exact HD.out) rfl rfl (HO.out.alloc _) (World.cell?_alloc_new _ _ _ _) (by have:=HOL.out; omega) (by have:=HB.out.size; simp; omega) ?_; intro v' w1 hown1 hg1)
          have HO1:=Lib.hid hown1
          have HB1:=Lib.hid (below_own (HB.out.alloc HB.out.size _) (HO.out.alloc _) hg1 (by have:=HB.out.size; simp; omega))
          clear hown1 hg1
          go_wp2
          refine ⟨⟨k+1,ahC 0 0 c,_,by have:=HKM.out; omega,fun e=>HLAST.out (by omega),by go_num,by first | (rw [cD c]; done) | rw [← HC0.out],HST.out,HO1.out,HB1.out⟩,by have:=HKM.out; simp [intOf]; omega⟩
    · obtain rfl:c=0:=by omega
      have HE:=Lib.hid (sumT_end hT (by omega) (by omega))
      have HS:Hid (DNum wr _ (val B16 xs+val B16 ys)):=Lib.hid ⟨_,sl_own hown (by have:=hT.len; omega),hT.lim,HE.out⟩
      have h1:¬ k<xs.length:=by omega
      have h2:¬ k<ys.length:=by omega
      clear hT hown hbel hgo hk hkc
      go_wp2
      go_ret
      exact ⟨_,rfl,HS.out,HB.out⟩
end Go.Proofs.YtacbkpenohcgjaaGreat
namespace Go.Proofs.YtacbkpenohcgjaaGreat
open Go.RowKit Mth
def SubDO (w wr:World) (xs ys:List Nat) (v c i:Value):Prop:=∃ (k cc:Nat) (os:List Nat),k≤xs.length∧i=.int .i64 k∧c=.int .i32 (cc:Int)∧SubT xs ys os k cc∧wr.ownsRow w.heap.size 104 1 v os.length (cellsOf .u16 os)∧Below w.heap.size w wr
theorem sh_neg {x y c:Nat} (hx:x≤65535) (hy:y≤65535) (hc:c≤1) (h:x<y+c):((shS x y c:Nat):Int)=(x:Int) - c - y+65536∧shC x y c=1:=by
  unfold shS shC; omega
theorem sh_pos {x y c:Nat} (hx:x≤65535) (hy:y≤65535) (hc:c≤1) (h:¬ x<y+c):((shS x y c:Nat):Int)=(x:Int) - c - y∧shC x y c=0:=by
  unfold shS shC; omega
theorem subD_any (v1 v2:Value) (xs ys:List Nat) (w:World) (s1:Sl w .u16 v1 xs) (s2:Sl w .u16 v2 ys) (l1:Lim B16 xs) (l2:Lim B16 ys) (t2:Top ys) (hle:val B16 ys≤val B16 xs) :
    Calls Tryz.prog 94 #[v1,v2] w fun e w'=>∃ v',e=.returned v'∧QNum w' v' (val B16 xs - val B16 ys)∧Below w.heap.size w w':=by
  have hxl:=s1.len
  have HFIN:Hid (∀ os c,SubT xs ys os xs.length c→val B16 os=val B16 xs - val B16 ys):=Lib.hid (fun os c h=>subT_end h l1 t2 hle)
  obtain ⟨a1,c1,rfl⟩:=s1.shape
  obtain ⟨a2,c2,rfl⟩:=s2.shape
  have S1:=Lib.hid s1; have S2:=Lib.hid s2; have L1:=Lib.hid l1; have L2:=Lib.hid l2
  clear s1 s2 l1 l2 t2 hle
  go_enter Tryz.func94,Tryz.ntmps94
  go_wp2
  go_loopw [5,6,7] (fun v c i wr=>SubDO w wr xs ys v c i) (fun _ _ i _=>xs.length - (intOf i).toNat)
  case atStart=>exact ⟨0,0,[],Nat.zero_le _,rfl,rfl,subT_zero xs ys,World.ownsRow_nil _ _ _ _,Below.refl _ _⟩
  case round =>
    obtain ⟨k,c,os,hk,rfl,rfl,hT,hown,hbel⟩:=hrel
    have HO:=Lib.hid hown; have HB:=Lib.hid hbel
    by_cases h1:k<xs.length
    · have HST:=Lib.hid (subT_step hT L1.out L2.out)
      have hx0:=L1.out k
      have hy0:=L2.out k
      have hc:=hT.cle
      have hol:=hT.len
      obtain ⟨b1,o1,rfl,q1⟩:∃ b off,a1=some ⟨b,off,none⟩∧wr.cell? ⟨b,off+k,none⟩=some (.int .u16 ((xs.getD k 0:Nat):Int)):=by
        obtain ⟨b,off,cap,e,_,_,hlt,hc⟩:=(S1.out.below hbel).pos (by omega)
        simp only [Value.slice.injEq] at e
        exact ⟨b,off,e.1,hc k h1⟩
      have HY:Hid (k<ys.length→∃ b off,a2=some ⟨b,off,none⟩∧wr.cell? ⟨b,off+k,none⟩=some (.int .u16 ((ys.getD k 0:Nat):Int))):=Lib.hid (fun h=>by
        obtain ⟨b,off,cap,e,_,_,hlt,hc⟩:=(S2.out.below hbel).pos (by omega)
        simp only [Value.slice.injEq] at e
        exact ⟨b,off,e.1,hc k h⟩)
      have hc1:c1≤9223372036854775807:=by obtain ⟨_,_,e,_,h,_⟩:=S1.out; simp only [Value.slice.injEq] at e; unfold maxLen at h; omega
      have hc2:c2≤9223372036854775807:=by obtain ⟨_,_,e,_,h,_⟩:=S2.out; simp only [Value.slice.injEq] at e; unfold maxLen at h; omega
      have hzy:¬ k<ys.length→ys.getD k 0=0:=fun h=>getD_ge ys k (by omega)
      generalize xs.getD k 0=x at *
      generalize ys.getD k 0=y at *
      have HOL:=Lib.hid hol
      have hx':x≤65535:=by unfold B16 at hx0; omega
      have hy':y≤65535:=by unfold B16 at hy0; omega
      have HN:=Lib.hid (fun h:x<y+c=>sh_neg hx' hy' hc h)
      have HP:=Lib.hid (fun h:¬ x<y+c=>sh_pos hx' hy' hc h)
      clear hT hown hbel hx0 hy0 hol hk
      by_cases h2:k<ys.length
      · obtain ⟨b2,o2,rfl,q2⟩:=HY.out h2
        clear hzy
        by_cases hn:x<y+c
        · have HE:=Lib.hid (HN.out hn)
          go_wp2_with (refine append_dig (o:=⟨some 41,_,_,_,_,_⟩) rfl _ _ rfl w.heap.size _ os (shS x y c) _ ⟨wr.heap.size,0,none⟩ (by first | (rw [HE.out.1]; done) | (rw [HE.out.1,IntKind.wrap_u16]; omega)) rfl rfl (HO.out.alloc _) (World.cell?_alloc_new _ _ _ _) (by have:=HOL.out; omega) (by have:=HB.out.size; simp; omega) ?_; intro v' w1 hown1 hg1)
          have HO1:=Lib.hid hown1
          have HB1:=Lib.hid (below_own (HB.out.alloc HB.out.size _) (HO.out.alloc _) hg1 (by have:=HB.out.size; simp; omega))
          clear hown1 hg1
          go_wp2
          refine ⟨⟨k+1,shC x y c,_,by omega,by go_num,by rw [HE.out.2]; rfl,HST.out,HO1.out,HB1.out⟩,by simp [intOf]; omega⟩
        · have HE:=Lib.hid (HP.out hn)
          go_wp2_with (refine append_dig (o:=⟨some 41,_,_,_,_,_⟩) rfl _ _ rfl w.heap.size _ os (shS x y c) _ ⟨wr.heap.size,0,none⟩ (by first | (rw [HE.out.1]; done) | (rw [HE.out.1,IntKind.wrap_u16]; omega)) rfl rfl (HO.out.alloc _) (World.cell?_alloc_new _ _ _ _) (by have:=HOL.out; omega) (by have:=HB.out.size; simp; omega) ?_; intro v' w1 hown1 hg1)
          have HO1:=Lib.hid hown1
          have HB1:=Lib.hid (below_own (HB.out.alloc HB.out.size _) (HO.out.alloc _) hg1 (by have:=HB.out.size; simp; omega))
          clear hown1 hg1
          go_wp2
          refine ⟨⟨k+1,shC x y c,_,by omega,by go_num,by rw [HE.out.2]; rfl,HST.out,HO1.out,HB1.out⟩,by simp [intOf]; omega⟩
      · obtain rfl:=hzy h2
        clear hzy
        by_cases hn:x<c
        · have HE:=Lib.hid (HN.out (by omega))
          go_wp2_with (refine append_dig (o:=⟨some 41,_,_,_,_,_⟩) rfl _ _ rfl w.heap.size _ os (shS x 0 c) _ ⟨wr.heap.size,0,none⟩ (by first | (rw [HE.out.1]; omega) | (rw [HE.out.1,IntKind.wrap_u16]; omega)) rfl rfl (HO.out.alloc _) (World.cell?_alloc_new _ _ _ _) (by have:=HOL.out; omega) (by have:=HB.out.size; simp; omega) ?_; intro v' w1 hown1 hg1)
          have HO1:=Lib.hid hown1
          have HB1:=Lib.hid (below_own (HB.out.alloc HB.out.size _) (HO.out.alloc _) hg1 (by have:=HB.out.size; simp; omega))
          clear hown1 hg1
          go_wp2
          refine ⟨⟨k+1,shC x 0 c,_,by omega,by go_num,by rw [HE.out.2]; rfl,HST.out,HO1.out,HB1.out⟩,by simp [intOf]; omega⟩
        · have HE:=Lib.hid (HP.out (by omega))
          go_wp2_with (refine append_dig (o:=⟨some 41,_,_,_,_,_⟩) rfl _ _ rfl w.heap.size _ os (shS x 0 c) _ ⟨wr.heap.size,0,none⟩ (by first | (rw [HE.out.1]; omega) | (rw [HE.out.1,IntKind.wrap_u16]; omega)) rfl rfl (HO.out.alloc _) (World.cell?_alloc_new _ _ _ _) (by have:=HOL.out; omega) (by have:=HB.out.size; simp; omega) ?_; intro v' w1 hown1 hg1)
          have HO1:=Lib.hid hown1
          have HB1:=Lib.hid (below_own (HB.out.alloc HB.out.size _) (HO.out.alloc _) hg1 (by have:=HB.out.size; simp; omega))
          clear hown1 hg1
          go_wp2
          refine ⟨⟨k+1,shC x 0 c,_,by omega,by go_num,by rw [HE.out.2]; rfl,HST.out,HO1.out,HB1.out⟩,by simp [intOf]; omega⟩
    · obtain rfl:k=xs.length:=by omega
      have HE:=Lib.hid (HFIN.out os c hT)
      have HS:Hid (Sl wr .u16 _ os):=Lib.hid (sl_own hown (by have:=hT.len; omega))
      have HL:=Lib.hid hT.lim
      clear hT hown hbel hk
      go_wp2_with fail
      refine (qtrim_any HS.out).mono ?_
      rintro e w' ⟨v',rfl,hs',rfl⟩
      have HQ:=Lib.hid (qnum_trim hs' HL.out)
      clear hs'
      go_wp2
      go_ret
      exact ⟨_,rfl,by rw [← HE.out]; exact HQ.out,HB.out⟩
end Go.Proofs.YtacbkpenohcgjaaGreat
namespace Go.Proofs.YtacbkpenohcgjaaGreat
open Go.RowKit Mth
theorem cmpD_any (v1 v2:Value) (ts us:List Nat) (w:World) (hs1:Sl w .u16 v1 ts) (hs2:Sl w .u16 v2 us) (l1:Lim B16 ts) (l2:Lim B16 us) (t1:Top ts) (t2:Top us) :
    Calls Tryz.prog 92 #[v1,v2] w fun e w'=>e=.returned (.int .i64 (cmp3 (val B16 ts) (val B16 us)))∧Below w.heap.size w w':=by
  have HK1:=Lib.hid l1; have HK2:=Lib.hid l2; have HP1:=Lib.hid t1; have HP2:=Lib.hid t2
  clear l1 l2 t1 t2
  have hl1:=hs1.len
  have hl2:=hs2.len
  by_cases hlt:ts.length<us.length
  · have E:=Lib.hid (cmp_lt (val_lt_of_length B16_pos HK1.out HP2.out hlt))
    have hd:((ts.length:Int) == (us.length:Int))=false:=by rw [beq_eq_false_iff_ne]; omega
    obtain ⟨a1,c1,rfl⟩:=hs1.shape
    obtain ⟨a2,c2,rfl⟩:=hs2.shape
    clear hs1 hs2
    go_enter Tryz.func92,Tryz.ntmps92
    go_wp2
    go_ret
    exact ⟨by rw [E.out]; rfl,Below.refl _ _⟩
  · by_cases hgt:us.length<ts.length
    · have E:=Lib.hid (cmp_gt (val_lt_of_length B16_pos HK2.out HP1.out hgt))
      have hd:((ts.length:Int) == (us.length:Int))=false:=by rw [beq_eq_false_iff_ne]; omega
      obtain ⟨a1,c1,rfl⟩:=hs1.shape
      obtain ⟨a2,c2,rfl⟩:=hs2.shape
      clear hs1 hs2
      go_enter Tryz.func92,Tryz.ntmps92
      go_wp2
      go_ret
      exact ⟨by rw [E.out]; rfl,Below.refl _ _⟩
    · have hle:ts.length=us.length:=by omega
      have HLE:=Lib.hid hle
      obtain ⟨a1,c1,rfl,q1,q2,q3,q4,hc1⟩:=hs1
      obtain ⟨a2,c2,rfl,r1,r2,r3,r4,hc2⟩:=hs2
      have HC1:=Lib.hid hc1; have HC2:=Lib.hid hc2
      have hd0:((ts.length:Int) == (us.length:Int))=true:=by rw [beq_iff_eq]; omega
      unfold maxLen at q2 r2
      clear hle hc1 hc2 q4 r4
      go_enter Tryz.func92,Tryz.ntmps92
      go_wp2
      go_loopw [5] (fun i wr=>∃ m:Nat,m≤ts.length∧i=.int .i64 ((m:Int) - 1)∧val B16 (ts.drop m)=val B16 (us.drop m)∧Below w.heap.size w wr) (fun i _=>(intOf i+1).toNat)
      case atStart=>exact ⟨ts.length,Nat.le_refl _,rfl,by rw [List.drop_length,HLE.out,List.drop_length],Below.refl _ _⟩
      case round =>
        obtain ⟨m,hm,rfl,heq,hbel⟩:=hrel
        by_cases h0:0<m
        · obtain ⟨k,rfl⟩:∃ k,m=k+1:=⟨m - 1,by omega⟩
          rw [show (((k+1:Nat):Int) - 1)=(k:Int) by omega]
          have hu:k<us.length:=by have:=HLE.out; omega
          obtain ⟨b1,o1,rfl,hb1,hd1⟩:=HC1.out (by omega)
          obtain ⟨b2,o2,rfl,hb2,hd2⟩:=HC2.out (by omega)
          have ck1:wr.cell? ⟨b1,o1+k,none⟩=some (.int .u16 ((ts.getD k 0:Nat):Int)):=(hbel.cell (p:=⟨b1,o1+k,none⟩) hb1).trans (hd1 k (by omega))
          have ck2:wr.cell? ⟨b2,o2+k,none⟩=some (.int .u16 ((us.getD k 0:Nat):Int)):=(hbel.cell (p:=⟨b2,o2+k,none⟩) hb2).trans (hd2 k hu)
          have HB:=Lib.hid hbel; have HEQ:=Lib.hid heq
          have V1:=Lib.hid (fun h=>val_lt_of_top (by have:=B16_pos; omega) HK1.out (show k<ts.length by omega) hu heq h)
          have V2:=Lib.hid (fun h=>val_lt_of_top (by have:=B16_pos; omega) HK2.out hu (show k<ts.length by omega) heq.symm h)
          have V3:Hid (ts.getD k 0=us.getD k 0→val B16 (ts.drop k)=val B16 (us.drop k)):=Lib.hid fun h=>by rw [val_drop B16 ts k (by omega),val_drop B16 us k hu,heq,h]
          clear hd1 hd2 hbel heq hm h0
          generalize ts.getD k 0=x at *
          generalize us.getD k 0=y at *
          have hkl:k<ts.length:=by omega
          by_cases hxy:x<y
          · have E:=Lib.hid (cmp_lt (V1.out hxy))
            have hd:decide ((x:Int)<(y:Int))=true:=decide_eq_true (by omega)
            go_wp2
            go_quiet (fail)
            go_wp2
            go_ret
            exact ⟨by rw [E.out]; rfl,bdrawn HB.out _⟩
          · by_cases hyx:y<x
            · have E:=Lib.hid (cmp_gt (V2.out hyx))
              have hd:decide ((x:Int)<(y:Int))=false:=decide_eq_false (by omega)
              have hd':decide ((y:Int)<(x:Int))=true:=decide_eq_true (by omega)
              go_wp2
              go_quiet (fail)
              go_wp2
              go_quiet (fail)
              go_wp2
              go_ret
              exact ⟨by rw [E.out]; rfl,bdrawn (bdrawn HB.out _) _⟩
            · have E:=Lib.hid (V3.out (by omega))
              have hd:decide ((x:Int)<(y:Int))=false:=decide_eq_false (by omega)
              have hd':decide ((y:Int)<(x:Int))=false:=decide_eq_false (by omega)
              go_wp2
              go_quiet (fail)
              go_wp2
              go_quiet (fail)
              go_wp2
              go_roundw
              case rel=>exact ⟨k,by omega,by go_num,E.out,bdrawn HB.out _⟩
              case measure=>simp [intOf]
        · obtain rfl:m=0:=by omega
          have HB:=Lib.hid hbel
          have E:Hid (cmp3 (val B16 ts) (val B16 us)=0):=Lib.hid (cmp_eq (by simpa using heq))
          clear hbel heq hm h0
          go_wp2
          go_ret
          exact ⟨by rw [E.out]; rfl,HB.out⟩
end Go.Proofs.YtacbkpenohcgjaaGreat
namespace Go.Proofs.YtacbkpenohcgjaaGreat
open Go.RowKit Mth
def Ld:Nat:=16400000
def HugeD:Nat:=B16 ^ Ld
theorem len_d' {L:Nat} {xs:List Nat} (t:Top xs) (h:val B16 xs<B16 ^ L):xs.length≤L:=length_of_val B16_pos t L h
theorem len_d {xs:List Nat} (t:Top xs) (h:val B16 xs<HugeD):xs.length≤16500000:=by
  have:=len_d' (L:=Ld) t h
  unfold Ld at this; omega
def Zk (W w':World) (R:Nat) (T:TypeId):Prop:=W.grownBy w' (some R)∧∃ x ao n c,w'.heap[R]?=some (.cells #[.bool x,.slice ao n c] T (0,0))
theorem zk_start {W:World} {R:Nat} {T:TypeId} {x:Bool} {ao:Option Addr} {n c:Nat} (h:W.heap[R]?=some (.cells #[.bool x,.slice ao n c] T (0,0))):Zk W W.drew R T:=⟨⟨rfl,rfl,rfl,Nat.le_refl _,fun _ _ _=>rfl⟩,_,_,_,_,h⟩
theorem zk_refl {W:World} {R:Nat} {T:TypeId} {x:Bool} {ao:Option Addr} {n c:Nat} (h:W.heap[R]?=some (.cells #[.bool x,.slice ao n c] T (0,0))):Zk W W R T:=⟨World.grownBy.refl _ _,_,_,_,_,h⟩
theorem Zk.drew {W w1:World} {R:Nat} {T:TypeId} (h:Zk W w1 R T):Zk W w1.drew R T:=⟨grown_trans' h.1 ⟨rfl,rfl,rfl,Nat.le_refl _,fun _ _ _=>rfl⟩,h.2⟩
theorem Zk.call {W w1 w2:World} {R:Nat} {T:TypeId} (h:Zk W w1 R T) (hb:Below w1.heap.size w1 w2):Zk W w2 R T:=by
  obtain ⟨h1,x,a,n,c,h2⟩:=h
  exact ⟨grown_trans' h1 (grown_of_below hb _),x,a,n,c,(hb.block _ (Array.getElem?_eq_some_iff.1 h2).1).trans h2⟩
theorem grown_set (w1:World) (R j:Nat) (y:Value):w1.grownBy (w1.setCell ⟨R,j,none⟩ y) (some R) :=
  ⟨rfl,rfl,rfl,by simp,fun i _ hk=>heap_setCell_other w1 ⟨R,j,none⟩ i _ (fun e=>hk (by simp [e]))⟩
theorem Zk.set {W w1:World} {R:Nat} {T:TypeId} {x:Bool} {ao:Option Addr} {n c:Nat} (h:Zk W w1 R T):Zk W ((w1.setCell ⟨R,0,none⟩ (.bool x)).setCell ⟨R,1,none⟩ (.slice ao n c)) R T:=by
  obtain ⟨h1,y,a,m,d,h2⟩:=h
  have k1:=heap_setCell_same w1 R 0 _ _ (.bool x) h2
  have k2:=heap_setCell_same _ R 1 _ _ (.slice ao n c) k1
  exact ⟨grown_trans' (grown_trans' h1 (grown_set _ _ _ _)) (grown_set _ _ _ _),_,_,_,_,k2⟩
theorem Zk.cell {W w1:World} {R b o:Nat} {T:TypeId} {v:Value} (h:Zk W w1 R T) (hc:W.cell? ⟨b,o,none⟩=some v) (hne:b≠R):w1.cell? ⟨b,o,none⟩=some v:=h.1.cell hc (by simpa using hne)
theorem Zk.below {w W w1:World} {R:Nat} {T:TypeId} (h:Zk W w1 R T) (hb:Below w.heap.size w W) (hR:w.heap.size≤R):Below w.heap.size w w1:=below_of_grown hb h.1 hR hb.size
theorem plus_same {x y:Int} (h:sgn x=sgn y):sg (sgn x) (x.natAbs+y.natAbs)=x+y:=by
  by_cases hx:x<0
  · have hy:y<0:=of_sgn_true (h ▸ sgn_neg hx)
    rw [sgn_neg hx,sg_true]; omega
  · have hy:¬ y<0:=fun hy=>by rw [sgn_pos (by omega),sgn_neg hy] at h; cases h
    rw [sgn_pos (by omega),sg_false]; omega
theorem plus_left {x y:Int} (h:sgn x≠sgn y) (hl:y.natAbs≤x.natAbs):sg (sgn x) (x.natAbs - y.natAbs)=x+y:=by
  by_cases hx:x<0
  · have hy:¬ y<0:=fun hy=>h (by rw [sgn_neg hx,sgn_neg hy])
    rw [sgn_neg hx,sg_true]; omega
  · have hy:y<0:=by
      by_cases hy:y<0
      · exact hy
      · exact absurd (by rw [sgn_pos (by omega),sgn_pos (by omega)]) h
    rw [sgn_pos (by omega),sg_false]; omega
theorem plus_any2 (va vb:Value) (x y:Int) (w:World) (ha:ZV w va x) (hb:ZV w vb y) (hx:x.natAbs<HugeD) (hy:y.natAbs<HugeD) :
    Calls Tryz.prog 45 #[va,vb] w fun e w'=>∃ v',e=.returned v'∧ZV w' v' (x+y)∧Below w.heap.size w w':=by
  obtain ⟨n1,a1,k1,c1,rfl⟩:=ha.shape
  obtain ⟨n2,a2,k2,c2,rfl⟩:=hb.shape
  obtain ⟨rfl,xs,s1,l1,t1,e1,rfl⟩:=ha.parts
  obtain ⟨rfl,ys,s2,l2,t2,e2,rfl⟩:=hb.parts
  rw [← e1] at hx; rw [← e2] at hy
  have HADD:Hid (∀ w1,Below w.heap.size w w1→Calls Tryz.prog 93 #[.slice a1 xs.length c1,.slice a2 ys.length c2] w1 fun e w'=>∃ v',e=.returned v'∧DNum w' v' (x.natAbs+y.natAbs)∧Below w1.heap.size w1 w'):=Lib.hid (fun w1 hb=>by
    rw [← e1,← e2]; exact addD_any _ _ xs ys w1 (s1.below hb) (s2.below hb) l1 l2 (len_d t1 hx) (len_d t2 hy))
  have HSUB:Hid (y.natAbs≤x.natAbs→∀ w1,Below w.heap.size w w1→Calls Tryz.prog 94 #[.slice a1 xs.length c1,.slice a2 ys.length c2] w1 fun e w'=>∃ v',e=.returned v'∧DNum w' v' (x.natAbs - y.natAbs)∧Below w1.heap.size w1 w'):=Lib.hid (fun h w1 hb=>by
    rw [← e1,← e2] at *
    exact (subD_any _ _ xs ys w1 (s1.below hb) (s2.below hb) l1 l2 t2 h).mono fun e w' ⟨v',h1,⟨zs,h2,h3,_,h4⟩,h5⟩=>⟨v',h1,⟨zs,h2,h3,h4⟩,h5⟩)
  have HSUB':Hid (x.natAbs≤y.natAbs→∀ w1,Below w.heap.size w w1→Calls Tryz.prog 94 #[.slice a2 ys.length c2,.slice a1 xs.length c1] w1 fun e w'=>∃ v',e=.returned v'∧DNum w' v' (y.natAbs - x.natAbs)∧Below w1.heap.size w1 w'):=Lib.hid (fun h w1 hb=>by
    rw [← e1,← e2] at *
    exact (subD_any _ _ ys xs w1 (s2.below hb) (s1.below hb) l2 l1 t1 h).mono fun e w' ⟨v',h1,⟨zs,h2,h3,_,h4⟩,h5⟩=>⟨v',h1,⟨zs,h2,h3,h4⟩,h5⟩)
  have HCMP:Hid (∀ w1,Below w.heap.size w w1→Calls Tryz.prog 92 #[.slice a1 xs.length c1,.slice a2 ys.length c2] w1 fun e w'=>e=.returned (.int .i64 (cmp3 x.natAbs y.natAbs))∧Below w1.heap.size w1 w'):=Lib.hid (fun w1 hb=>by
    rw [← e1,← e2]; exact cmpD_any _ _ xs ys w1 (s1.below hb) (s2.below hb) l1 l2 t1 t2)
  clear ha hb s1 s2 l1 l2 t1 t2 e1 e2 hx hy
  generalize xs.length=k1 at *
  generalize ys.length=k2 at *
  go_enter Tryz.func45,Tryz.ntmps45
  by_cases hs:sgn x=sgn y
  · have hd:(sgn x == sgn y)=true:=by rw [hs]; simp
    have E:=Lib.hid (plus_same hs)
    clear hs
    go_wp2_with fail
    obtain ⟨W,eW,h1,h2,h3,bel,hsz⟩:=alloc3 w (Obj.cells #[Value.bool (sgn x),Value.slice a1 k1 c1] 61) (Obj.cells #[Value.bool (sgn y),Value.slice a2 k2 c2] 61) (Obj.cells #[Value.bool false,Value.slice none 0 0] 61)
    rw [eW]
    obtain ⟨p0,p1,_,_,_⟩:=blk2 h1
    obtain ⟨q0,q1,_,_,_⟩:=blk2 h2
    have STAY:Hid (∀ w',Zk W w' (w.heap.size+1+1) 61→w'.cell? ⟨w.heap.size,0,none⟩=some (.bool (sgn x))∧w'.cell? ⟨w.heap.size,1,none⟩=some (.slice a1 k1 c1)∧w'.cell? ⟨w.heap.size+1,0,none⟩=some (.bool (sgn y))∧w'.cell? ⟨w.heap.size+1,1,none⟩=some (.slice a2 k2 c2)∧Zk W w' (w.heap.size+1+1) 61) :=
      Lib.hid (fun w' h=>⟨h.cell p0 (by omega),h.cell p1 (by omega),h.cell q0 (by omega),h.cell q1 (by omega),h⟩)
    have ZB:Hid (∀ w',Zk W w' (w.heap.size+1+1) 61→Below w.heap.size w w'):=Lib.hid (fun w' h=>h.below bel (by omega))
    have Z0:=zk_start h3
    obtain ⟨s0,s1,s2,s3,_⟩:=STAY.out _ Z0
    clear eW h1 h2 h3 p0 p1 q0 q1
    go_region_held3 (fun w'=>w'.cell? ⟨w.heap.size,0,none⟩=some (.bool (sgn x))∧w'.cell? ⟨w.heap.size,1,none⟩=some (.slice a1 k1 c1)∧w'.cell? ⟨w.heap.size+1,0,none⟩=some (.bool (sgn y))∧w'.cell? ⟨w.heap.size+1,1,none⟩=some (.slice a2 k2 c2)∧Zk W w' (w.heap.size+1+1) 61)
      ((try go_split_ands; refine STAY.out _ ?_; first | assumption | exact Zk.call (by assumption) (by assumption) | exact Zk.set (by assumption)))
      (first
      | (go_at_call 93; go_split_ands; refine (HADD.out _ (ZB.out _ (by assumption))).mono ?_; rintro e w3 ⟨v3,rfl,hn,hb3⟩; obtain ⟨zs,hsl,hlim,hval⟩:=hn; obtain ⟨a3,c3,rfl⟩:=hsl.shape)
      | (go_at_call 91; go_split_ands; refine (make_any _ _ zs _ (by assumption) (by assumption)).mono ?_; rintro e w4 ⟨v4,rfl,hz,hb4⟩; replace hz:=hz.below hb4; rw [hval,E.out] at hz; obtain ⟨_,b6,a6,l6,c6,hR⟩:=Zk.call ‹Zk _ _ _ _› hb4; obtain ⟨b5,a5,l5,c5,rfl⟩:=hz.shape; have hzf:=hz.far (y0:=.bool b5) (y1:=.slice a5 l5 c5) hR; obtain ⟨u0,u1,g0,g1,_⟩:=blk2 hR))
    go_wp2
    refine bodyPost_ret (v:=.agg #[.bool b5,.slice a5 l5 c5]) ?_ rfl ⟨_,rfl,‹ZV ((World.setCell _ _ _).setCell _ _) _ _›,ZB.out _ (by first | assumption | (go_split_ands; assumption) | exact Zk.set (by assumption))⟩
    simp [results,Tryz.results45,go_sem, *]
  · have hd:(sgn x == sgn y)=false:=by rw [beq_eq_false_iff_ne]; exact hs
    by_cases hl:y.natAbs≤x.natAbs
    · have E:=Lib.hid (plus_left hs hl)
      have HS:=Lib.hid (HSUB.out hl)
      have hcm:0≤cmp3 x.natAbs y.natAbs:=by unfold cmp3; rw [if_neg (by omega)]; split<;>omega
      clear hs hl
      go_wp2_with fail
      obtain ⟨W,eW,h1,h2,h3,bel,hsz⟩:=alloc3 w (Obj.cells #[Value.bool (sgn x),Value.slice a1 k1 c1] 61) (Obj.cells #[Value.bool (sgn y),Value.slice a2 k2 c2] 61) (Obj.cells #[Value.bool false,Value.slice none 0 0] 61)
      rw [eW]
      obtain ⟨p0,p1,_,_,_⟩:=blk2 h1
      obtain ⟨q0,q1,_,_,_⟩:=blk2 h2
      have STAY:Hid (∀ w',Zk W w' (w.heap.size+1+1) 61→w'.cell? ⟨w.heap.size,0,none⟩=some (.bool (sgn x))∧w'.cell? ⟨w.heap.size,1,none⟩=some (.slice a1 k1 c1)∧w'.cell? ⟨w.heap.size+1,0,none⟩=some (.bool (sgn y))∧w'.cell? ⟨w.heap.size+1,1,none⟩=some (.slice a2 k2 c2)∧Zk W w' (w.heap.size+1+1) 61) :=
        Lib.hid (fun w' h=>⟨h.cell p0 (by omega),h.cell p1 (by omega),h.cell q0 (by omega),h.cell q1 (by omega),h⟩)
      have ZB:Hid (∀ w',Zk W w' (w.heap.size+1+1) 61→Below w.heap.size w w'):=Lib.hid (fun w' h=>h.below bel (by omega))
      refine (HCMP.out W bel).mono ?_
      rintro e w1 ⟨rfl,hb1⟩
      have Z0:=((zk_refl h3).call hb1).drew
      obtain ⟨s0,s1,s2,s3,_⟩:=STAY.out _ Z0
      obtain ⟨r0,r1,r2,r3,_⟩:=STAY.out _ ((zk_refl h3).call hb1)
      clear eW h1 h2 h3 p0 p1 q0 q1
      go_wp2_with fail
      go_region_held3 (fun w'=>w'.cell? ⟨w.heap.size,0,none⟩=some (.bool (sgn x))∧w'.cell? ⟨w.heap.size,1,none⟩=some (.slice a1 k1 c1)∧w'.cell? ⟨w.heap.size+1,0,none⟩=some (.bool (sgn y))∧w'.cell? ⟨w.heap.size+1,1,none⟩=some (.slice a2 k2 c2)∧Zk W w' (w.heap.size+1+1) 61)
        ((try go_split_ands; refine STAY.out _ ?_; first | assumption | exact Zk.call (by assumption) (by assumption) | exact Zk.set (by assumption)))
        (first
        | (go_at_call 94; go_split_ands; refine (HS.out _ (ZB.out _ (by assumption))).mono ?_; rintro e w3 ⟨v3,rfl,hn,hb3⟩; obtain ⟨zs,hsl,hlim,hval⟩:=hn; obtain ⟨a3,c3,rfl⟩:=hsl.shape)
        | (go_at_call 91; go_split_ands; refine (make_any _ _ zs _ (by assumption) (by assumption)).mono ?_; rintro e w4 ⟨v4,rfl,hz,hb4⟩; replace hz:=hz.below hb4; rw [hval,E.out] at hz; obtain ⟨_,b6,a6,l6,c6,hR⟩:=Zk.call ‹Zk _ _ _ _› hb4; obtain ⟨b5,a5,l5,c5,rfl⟩:=hz.shape; have hzf:=hz.far (y0:=.bool b5) (y1:=.slice a5 l5 c5) hR; obtain ⟨u0,u1,g0,g1,_⟩:=blk2 hR))
      go_wp2
      refine bodyPost_ret (v:=.agg #[.bool b5,.slice a5 l5 c5]) ?_ rfl ⟨_,rfl,‹ZV ((World.setCell _ _ _).setCell _ _) _ _›,ZB.out _ (by first | assumption | (go_split_ands; assumption) | exact Zk.set (by assumption))⟩
      simp [results,Tryz.results45,go_sem, *]
    · have E:=Lib.hid (plus_left (x:=y) (y:=x) (fun e=>hs e.symm) (by omega))
      have HS:=Lib.hid (HSUB'.out (by omega))
      have hcm:cmp3 x.natAbs y.natAbs<0:=by unfold cmp3; rw [if_pos (by omega)]; omega
      rw [Int.add_comm y x] at E
      clear hs hl
      go_wp2_with fail
      obtain ⟨W,eW,h1,h2,h3,bel,hsz⟩:=alloc3 w (Obj.cells #[Value.bool (sgn x),Value.slice a1 k1 c1] 61) (Obj.cells #[Value.bool (sgn y),Value.slice a2 k2 c2] 61) (Obj.cells #[Value.bool false,Value.slice none 0 0] 61)
      rw [eW]
      obtain ⟨p0,p1,_,_,_⟩:=blk2 h1
      obtain ⟨q0,q1,_,_,_⟩:=blk2 h2
      have STAY:Hid (∀ w',Zk W w' (w.heap.size+1+1) 61→w'.cell? ⟨w.heap.size,0,none⟩=some (.bool (sgn x))∧w'.cell? ⟨w.heap.size,1,none⟩=some (.slice a1 k1 c1)∧w'.cell? ⟨w.heap.size+1,0,none⟩=some (.bool (sgn y))∧w'.cell? ⟨w.heap.size+1,1,none⟩=some (.slice a2 k2 c2)∧Zk W w' (w.heap.size+1+1) 61) :=
        Lib.hid (fun w' h=>⟨h.cell p0 (by omega),h.cell p1 (by omega),h.cell q0 (by omega),h.cell q1 (by omega),h⟩)
      have ZB:Hid (∀ w',Zk W w' (w.heap.size+1+1) 61→Below w.heap.size w w'):=Lib.hid (fun w' h=>h.below bel (by omega))
      refine (HCMP.out W bel).mono ?_
      rintro e w1 ⟨rfl,hb1⟩
      have Z0:=((zk_refl h3).call hb1).drew
      obtain ⟨s0,s1,s2,s3,_⟩:=STAY.out _ Z0
      obtain ⟨r0,r1,r2,r3,_⟩:=STAY.out _ ((zk_refl h3).call hb1)
      clear eW h1 h2 h3 p0 p1 q0 q1
      go_wp2_with fail
      go_region_held3 (fun w'=>w'.cell? ⟨w.heap.size,0,none⟩=some (.bool (sgn x))∧w'.cell? ⟨w.heap.size,1,none⟩=some (.slice a1 k1 c1)∧w'.cell? ⟨w.heap.size+1,0,none⟩=some (.bool (sgn y))∧w'.cell? ⟨w.heap.size+1,1,none⟩=some (.slice a2 k2 c2)∧Zk W w' (w.heap.size+1+1) 61)
        ((try go_split_ands; refine STAY.out _ ?_; first | assumption | exact Zk.call (by assumption) (by assumption) | exact Zk.set (by assumption)))
        (first
        | (go_at_call 94; go_split_ands; refine (HS.out _ (ZB.out _ (by assumption))).mono ?_; rintro e w3 ⟨v3,rfl,hn,hb3⟩; obtain ⟨zs,hsl,hlim,hval⟩:=hn; obtain ⟨a3,c3,rfl⟩:=hsl.shape)
        | (go_at_call 91; go_split_ands; refine (make_any _ _ zs _ (by assumption) (by assumption)).mono ?_; rintro e w4 ⟨v4,rfl,hz,hb4⟩; replace hz:=hz.below hb4; rw [hval,E.out] at hz; obtain ⟨_,b6,a6,l6,c6,hR⟩:=Zk.call ‹Zk _ _ _ _› hb4; obtain ⟨b5,a5,l5,c5,rfl⟩:=hz.shape; have hzf:=hz.far (y0:=.bool b5) (y1:=.slice a5 l5 c5) hR; obtain ⟨u0,u1,g0,g1,_⟩:=blk2 hR))
      go_wp2
      refine bodyPost_ret (v:=.agg #[.bool b5,.slice a5 l5 c5]) ?_ rfl ⟨_,rfl,‹ZV ((World.setCell _ _ _).setCell _ _) _ _›,ZB.out _ (by first | assumption | (go_split_ands; assumption) | exact Zk.set (by assumption))⟩
      simp [results,Tryz.results45,go_sem, *]
end Go.Proofs.YtacbkpenohcgjaaGreat
namespace Go.Proofs.YtacbkpenohcgjaaGreat
open Go.RowKit Mth
theorem b64_b16 (L:Nat):B64 ^ L=B16 ^ (4*L):=by rw [Nat.pow_mul]; rfl
theorem huge_d' {L D:Nat} (h:4*L≤D):B64 ^ L≤B16 ^ D:=by rw [b64_b16]; exact Nat.pow_le_pow_right (by unfold B16; omega) h
theorem huge_d:HugeN≤HugeD:=huge_d' (L:=Lm) (D:=Ld) (by unfold Lm Ld; omega)
end Go.Proofs.YtacbkpenohcgjaaGreat
namespace Go.Proofs.YtacbkpenohcgjaaGreat
open Go.RowKit Mth
end Go.Proofs.YtacbkpenohcgjaaGreat
