import Derived.Test.YtacbkpenohcgjaaGreatVY3
import Derived.Test.YtacbkpenohcgjaaGreatVZB4
import Derived.Test.YtacbkpenohcgjaaGreatVHB1
import Derived.Deep.RegionWith
import Derived.Test.YtacbkpenohcgjaaGreatVQB2
import Derived.Deep.RegionHeld3
set_option linter.unusedVariables false
set_option linter.unusedSimpArgs false
set_option maxHeartbeats 4000000
set_option maxRecDepth 100000
namespace Go.Proofs.YtacbkpenohcgjaaGreat
open Go.RowKit Mth
def Fq (base:Nat) (v:Value):Prop:=∀ b,inBlock v=some b→base≤b
theorem fq_own {w:World} {base e n:Nat} {v:Value} {xs:List Value} (h:w.ownsRow base e 1 v n xs):Fq base v:=by
  intro b hb
  rcases h.2 with ⟨rfl,_⟩ | ⟨g,cap,cur,rfl,h1,_⟩
  · simp [inBlock] at hb
  · simp [inBlock] at hb; omega
theorem Fq.mono {base base':Nat} {v:Value} (h:Fq base v) (hb:base'≤base):Fq base' v:=fun b e=>Nat.le_trans hb (h b e)
theorem fq_nil (base:Nat):Fq base (.slice none 0 0):=fun b e=>by simp [inBlock] at e
theorem qtrim_fq {v:Value} {xs:List Nat} {w:World} {base:Nat} (h:Sl w .u16 v xs) (hf:Fq base v) :
    Calls Tryz.prog 132 #[v] w fun e w'=>∃ v',e=.returned v'∧Sl w .u16 v' (trimL xs)∧Fq base v'∧w=w':=by
  have h':=h
  obtain ⟨ao,cap,rfl,h1,h2,h3,h4,h5⟩:=h
  have hs:Sl w .u16 (.slice ao (tlen xs) cap) (trimL xs):=h'.take (tlen_le xs)
  have hf':Fq base (.slice ao (tlen xs) cap):=fun b e=>hf b (by cases ao with
    | none=>simp [inBlock] at e
    | some a=>simpa [inBlock] using e)
  by_cases hp:0<xs.length
  · obtain ⟨b,off,rfl,hlt,hc⟩:=h5 hp
    exact (qtrim_pos b off cap xs w h1 h2 hc).mono fun e w' ⟨he,hw⟩=>⟨_,he,hs,hf',hw⟩
  · have:xs=[]:=List.eq_nil_of_length_eq_zero (by omega)
    subst this
    exact (qtrim_zero ao cap w h2 h4).mono fun e w' ⟨he,hw⟩=>⟨_,he,hs,hf',hw⟩
theorem QNum.grown {w w':World} {v:Value} {n g base:Nat} (h:QNum w v n) (hg:w.grownBy w' (some g)) (hf:Fq base v) (hb:g<base):QNum w' v n:=by
  obtain ⟨ys,s,l⟩:=h
  refine ⟨ys,s.grown hg (.inl ?_),l⟩
  intro e
  have:=hf g e
  omega
theorem qnum_zero (w:World):QNum w (.slice none 0 0) 0:=⟨[],sl_nil w _,lim_nil (by unfold B16; omega),rfl,rfl⟩
theorem subD_fr (v1 v2:Value) (xs ys:List Nat) (w:World) (s1:Sl w .u16 v1 xs) (s2:Sl w .u16 v2 ys) (l1:Lim B16 xs) (l2:Lim B16 ys) (t2:Top ys) (hle:val B16 ys≤val B16 xs) :
    Calls Tryz.prog 94 #[v1,v2] w fun e w'=>∃ v',e=.returned v'∧QNum w' v' (val B16 xs - val B16 ys)∧Fq w.heap.size v'∧Below w.heap.size w w':=by
  have hxl:=s1.len
  have HFIN:Hid (∀ os c,SubT xs ys os xs.length c→val B16 os=val B16 xs - val B16 ys):=Lib.hid (fun os c h=>subT_end h l1 t2 hle)
  obtain ⟨a1,c1,rfl⟩:=s1.shape
  obtain ⟨a2,c2,rfl⟩:=s2.shape
  have S1:=Lib.hid s1; have S2:=Lib.hid s2; have L1:=Lib.hid l1; have L2:=Lib.hid l2
  clear s1 s2 l1 l2 t2 hle
  go_enter Tryz.func94,Tryz.ntmps94
  go_wp2
  go_loopw [5,6,7] (fun v c i wr=>SubDO w wr xs ys v c i) (fun _ _ i _=>xs.length - (intOf i).toNat)
  case atStart=>exact ⟨0,0,[],Nat.zero_le _,rfl,rfl,subT_zero xs ys,World.ownsRow_nil _ _ _ _,Below.refl _ _⟩
  case round =>
    obtain ⟨k,c,os,hk,rfl,rfl,hT,hown,hbel⟩:=hrel
    have HO:=Lib.hid hown; have HB:=Lib.hid hbel
    by_cases h1:k<xs.length
    · have HST:=Lib.hid (subT_step hT L1.out L2.out)
      have hx0:=L1.out k
      have hy0:=L2.out k
      have hc:=hT.cle
      have hol:=hT.len
      obtain ⟨b1,o1,rfl,q1⟩:∃ b off,a1=some ⟨b,off,none⟩∧wr.cell? ⟨b,off+k,none⟩=some (.int .u16 ((xs.getD k 0:Nat):Int)):=by
        obtain ⟨b,off,cap,e,_,_,hlt,hc⟩:=(S1.out.below hbel).pos (by omega)
        simp only [Value.slice.injEq] at e
        exact ⟨b,off,e.1,hc k h1⟩
      have HY:Hid (k<ys.length→∃ b off,a2=some ⟨b,off,none⟩∧wr.cell? ⟨b,off+k,none⟩=some (.int .u16 ((ys.getD k 0:Nat):Int))):=Lib.hid (fun h=>by
        obtain ⟨b,off,cap,e,_,_,hlt,hc⟩:=(S2.out.below hbel).pos (by omega)
        simp only [Value.slice.injEq] at e
        exact ⟨b,off,e.1,hc k h⟩)
      have hc1:c1≤9223372036854775807:=by obtain ⟨_,_,e,_,h,_⟩:=S1.out; simp only [Value.slice.injEq] at e; unfold maxLen at h; omega
      have hc2:c2≤9223372036854775807:=by obtain ⟨_,_,e,_,h,_⟩:=S2.out; simp only [Value.slice.injEq] at e; unfold maxLen at h; omega
      have hzy:¬ k<ys.length→ys.getD k 0=0:=fun h=>getD_ge ys k (by omega)
      generalize xs.getD k 0=x at *
      generalize ys.getD k 0=y at *
      have HOL:=Lib.hid hol
      have hx':x≤65535:=by unfold B16 at hx0; omega
      have hy':y≤65535:=by unfold B16 at hy0; omega
      have HN:=Lib.hid (fun h:x<y+c=>sh_neg hx' hy' hc h)
      have HP:=Lib.hid (fun h:¬ x<y+c=>sh_pos hx' hy' hc h)
      clear hT hown hbel hx0 hy0 hol hk
      by_cases h2:k<ys.length
      · obtain ⟨b2,o2,rfl,q2⟩:=HY.out h2
        clear hzy
        by_cases hn:x<y+c
        · have HE:=Lib.hid (HN.out hn)
          go_wp2_with (refine append_dig (o:=⟨some 41,_,_,_,_,_⟩) rfl _ _ rfl w.heap.size _ os (shS x y c) _ ⟨wr.heap.size,0,none⟩ (by first | (rw [HE.out.1]; done) | (rw [HE.out.1,IntKind.wrap_u16]; omega)) rfl rfl (HO.out.alloc _) (World.cell?_alloc_new _ _ _ _) (by have:=HOL.out; omega) (by have:=HB.out.size; simp; omega) ?_; intro v' w1 hown1 hg1)
          have HO1:=Lib.hid hown1
          have HB1:=Lib.hid (below_own (HB.out.alloc HB.out.size _) (HO.out.alloc _) hg1 (by have:=HB.out.size; simp; omega))
          clear hown1 hg1
          go_wp2
          refine ⟨⟨k+1,shC x y c,_,by omega,by go_num,by rw [HE.out.2]; rfl,HST.out,HO1.out,HB1.out⟩,by simp [intOf]; omega⟩
        · have HE:=Lib.hid (HP.out hn)
          go_wp2_with (refine append_dig (o:=⟨some 41,_,_,_,_,_⟩) rfl _ _ rfl w.heap.size _ os (shS x y c) _ ⟨wr.heap.size,0,none⟩ (by first | (rw [HE.out.1]; done) | (rw [HE.out.1,IntKind.wrap_u16]; omega)) rfl rfl (HO.out.alloc _) (World.cell?_alloc_new _ _ _ _) (by have:=HOL.out; omega) (by have:=HB.out.size; simp; omega) ?_; intro v' w1 hown1 hg1)
          have HO1:=Lib.hid hown1
          have HB1:=Lib.hid (below_own (HB.out.alloc HB.out.size _) (HO.out.alloc _) hg1 (by have:=HB.out.size; simp; omega))
          clear hown1 hg1
          go_wp2
          refine ⟨⟨k+1,shC x y c,_,by omega,by go_num,by rw [HE.out.2]; rfl,HST.out,HO1.out,HB1.out⟩,by simp [intOf]; omega⟩
      · obtain rfl:=hzy h2
        clear hzy
        by_cases hn:x<c
        · have HE:=Lib.hid (HN.out (by omega))
          go_wp2_with (refine append_dig (o:=⟨some 41,_,_,_,_,_⟩) rfl _ _ rfl w.heap.size _ os (shS x 0 c) _ ⟨wr.heap.size,0,none⟩ (by first | (rw [HE.out.1]; omega) | (rw [HE.out.1,IntKind.wrap_u16]; omega)) rfl rfl (HO.out.alloc _) (World.cell?_alloc_new _ _ _ _) (by have:=HOL.out; omega) (by have:=HB.out.size; simp; omega) ?_; intro v' w1 hown1 hg1)
          have HO1:=Lib.hid hown1
          have HB1:=Lib.hid (below_own (HB.out.alloc HB.out.size _) (HO.out.alloc _) hg1 (by have:=HB.out.size; simp; omega))
          clear hown1 hg1
          go_wp2
          refine ⟨⟨k+1,shC x 0 c,_,by omega,by go_num,by rw [HE.out.2]; rfl,HST.out,HO1.out,HB1.out⟩,by simp [intOf]; omega⟩
        · have HE:=Lib.hid (HP.out (by omega))
          go_wp2_with (refine append_dig (o:=⟨some 41,_,_,_,_,_⟩) rfl _ _ rfl w.heap.size _ os (shS x 0 c) _ ⟨wr.heap.size,0,none⟩ (by first | (rw [HE.out.1]; omega) | (rw [HE.out.1,IntKind.wrap_u16]; omega)) rfl rfl (HO.out.alloc _) (World.cell?_alloc_new _ _ _ _) (by have:=HOL.out; omega) (by have:=HB.out.size; simp; omega) ?_; intro v' w1 hown1 hg1)
          have HO1:=Lib.hid hown1
          have HB1:=Lib.hid (below_own (HB.out.alloc HB.out.size _) (HO.out.alloc _) hg1 (by have:=HB.out.size; simp; omega))
          clear hown1 hg1
          go_wp2
          refine ⟨⟨k+1,shC x 0 c,_,by omega,by go_num,by rw [HE.out.2]; rfl,HST.out,HO1.out,HB1.out⟩,by simp [intOf]; omega⟩
    · obtain rfl:k=xs.length:=by omega
      have HE:=Lib.hid (HFIN.out os c hT)
      have HS:Hid (Sl wr .u16 _ os):=Lib.hid (sl_own hown (by have:=hT.len; omega))
      have HL:=Lib.hid hT.lim; have HF:=Lib.hid (fq_own hown)
      clear hT hown hbel hk
      go_wp2_with fail
      refine (qtrim_fq HS.out HF.out).mono ?_
      rintro e w' ⟨v',rfl,hs',hf',rfl⟩
      have HF':=Lib.hid hf'; clear hf'
      have HQ:=Lib.hid (qnum_trim hs' HL.out)
      clear hs'
      go_wp2
      go_ret
      exact ⟨_,rfl,by rw [← HE.out]; exact HQ.out,HF'.out,HB.out⟩
def TdO (w wr:World) (xs:List Nat) (n:Nat) (v c i:Value):Prop:=∃ (k cc:Nat) (os:List Nat),k≤xs.length∧i=.int .i64 k∧c=.int .u32 (cc:Int)∧TdT xs os n k cc∧wr.ownsRow w.heap.size 104 1 v os.length (cellsOf .u16 os)∧Below w.heap.size w wr
theorem timesD_any (v1:Value) (xs:List Nat) (n:Nat) (z:Int) (w:World) (s1:Sl w .u16 v1 xs) (l1:Lim B16 xs) (hl:xs.length≤16500000) (hn:n<65536) (hz:z=(n:Int)) :
    Calls Tryz.prog 159 #[v1,.int .u32 z] w fun e w'=>∃ v',e=.returned v'∧QNum w' v' (val B16 xs*n)∧Below w.heap.size w w':=by
  subst hz
  obtain ⟨a1,c1,rfl⟩:=s1.shape
  have hc1:c1≤9223372036854775807:=by obtain ⟨_,_,e,_,h,_⟩:=s1; simp only [Value.slice.injEq] at e; unfold maxLen at h; omega
  have S1:=Lib.hid s1; have L1:=Lib.hid l1
  clear s1 l1
  go_enter Tryz.func159,Tryz.ntmps159
  go_wp2
  go_loopw [5,6,7] (fun v c i wr=>TdO w wr xs n v c i) (fun _ _ i _=>xs.length - (intOf i).toNat)
  case atStart=>exact ⟨0,0,[],Nat.zero_le _,rfl,rfl,tdT_zero xs n,World.ownsRow_nil _ _ _ _,Below.refl _ _⟩
  case round =>
    obtain ⟨k,c,os,hk,rfl,rfl,hT,hown,hbel⟩:=hrel
    have HO:=Lib.hid hown; have HB:=Lib.hid hbel
    by_cases h1:k<xs.length
    · have HST:=Lib.hid (tdT_step hT L1.out (by unfold B16; omega))
      have hx0:=L1.out k
      have hcb:=hT.clt
      have hol:=hT.len
      have hle:=td_le hx0 (show n<B16 by unfold B16; omega) hcb
      obtain ⟨b1,o1,rfl,q1⟩:∃ b off,a1=some ⟨b,off,none⟩∧wr.cell? ⟨b,off+k,none⟩=some (.int .u16 ((xs.getD k 0:Nat):Int)):=by
        obtain ⟨b,off,cap,e,_,_,hlt,hc⟩:=(S1.out.below hbel).pos (by omega)
        simp only [Value.slice.injEq] at e
        exact ⟨b,off,e.1,hc k h1⟩
      generalize xs.getD k 0=x at *
      have HOL:=Lib.hid hol
      unfold B16 at hx0 hcb
      have w1':IntKind.u32.wrap ((x:Int)*(n:Int))=((x*n:Nat):Int):=by rw [← Int.natCast_mul,IntKind.wrap_u32]; omega
      have w3':IntKind.u32.wrap ((c:Int)+((x*n:Nat):Int))=((c+x*n:Nat):Int):=by rw [IntKind.wrap_u32]; omega
      have w5':IntKind.u32.wrap (x:Int)=(x:Int):=by rw [IntKind.wrap_u32]; omega
      have hmS:tdS x n c=(c+x*n) % 65536:=rfl
      have hmC:tdC x n c=(c+x*n) / 65536:=rfl
      generalize c+x*n=sm at *
      generalize x*n=xn at *
      have HD:Hid (IntKind.u16.wrap (sm:Int)=((tdS x n c:Nat):Int)):=Lib.hid (by rw [IntKind.wrap_u16]; omega)
      have HD2:Hid ((sm:Int) % 65536=((tdS x n c:Nat):Int)):=Lib.hid (by omega)
      have HCAR:Hid ((sm:Int) / 65536=((tdC x n c:Nat):Int)):=Lib.hid (by omega)
      clear hmS hmC hT hown hbel hol hk
      go_wp2_with (refine append_dig (o:=⟨some 27,_,_,_,_,_⟩) rfl _ _ rfl w.heap.size _ os (tdS x n c) _ ⟨wr.heap.size,0,none⟩ (by first | exact HD.out | exact HD2.out) rfl rfl (HO.out.alloc _) (World.cell?_alloc_new _ _ _ _) (by have:=HOL.out; omega) (by have:=HB.out.size; simp; omega) ?_; intro v' w1 hown1 hg1)
      have HO1:=Lib.hid hown1
      have HB1:=Lib.hid (below_own (HB.out.alloc HB.out.size _) (HO.out.alloc _) hg1 (by have:=HB.out.size; simp; omega))
      clear hown1 hg1
      go_wp2
      refine ⟨⟨k+1,tdC x n c,_,by omega,by go_num,by rw [HCAR.out],HST.out,HO1.out,HB1.out⟩,by simp [intOf]; omega⟩
    · obtain rfl:k=xs.length:=by omega
      have HE:=Lib.hid (tdT_end hT)
      have hcb:=hT.clt
      have HOL:=Lib.hid hT.len
      unfold B16 at hcb
      have HD:Hid (IntKind.u16.wrap (c:Int)=((c:Nat):Int)):=Lib.hid (by rw [IntKind.wrap_u16]; omega)
      clear hT hown hbel hk
      go_wp2_with (refine append_dig (o:=⟨some 34,_,_,_,_,_⟩) rfl _ _ rfl w.heap.size _ os c _ ⟨wr.heap.size,0,none⟩ (by first | rfl | exact HD.out) rfl rfl (HO.out.alloc _) (World.cell?_alloc_new _ _ _ _) (by have:=HOL.out; omega) (by have:=HB.out.size; simp; omega) ?_; intro v' w1 hown1 hg1)
      have HB1:=Lib.hid (below_own (HB.out.alloc HB.out.size _) (HO.out.alloc _) hg1 (by have:=HB.out.size; simp; omega))
      have HS:Hid (Sl w1 .u16 _ (os++[c])):=Lib.hid (sl_own hown1 (by rw [List.length_append]; have:=HOL.out; simp; omega))
      clear hown1 hg1
      go_wp2_with fail
      refine (qtrim_any HS.out).mono ?_
      rintro e w' ⟨v2,rfl,hs',rfl⟩
      have HQ:=Lib.hid (qnum_trim hs' HE.out.2)
      clear hs'
      go_wp2
      go_ret
      exact ⟨_,rfl,by rw [← HE.out.1]; exact HQ.out,HB1.out⟩
def DigO (w wr:World) (A D:Nat) (lo hi:Value):Prop:=∃ a b:Nat,lo=.int .u32 (a:Int)∧hi=.int .u32 (b:Int)∧a≤b∧b≤65535∧D*a≤A∧A<D*(b+1)∧Below w.heap.size w wr
def QLen (w:World) (v:Value) (n:Nat):Prop:=∃ ys,Sl w .u16 v ys∧Lim B16 ys∧Top ys∧val B16 ys=n∧ys.length≤16500000
theorem qlen_of {w:World} {v:Value} {n:Nat} (h:QNum w v n) (hn:n<HugeD):QLen w v n:=by
  obtain ⟨ys,s,l,t,rfl⟩:=h
  exact ⟨ys,s,l,t,rfl,len_d t hn⟩
theorem QLen.num {w:World} {v:Value} {n:Nat} (h:QLen w v n):QNum w v n:=by
  obtain ⟨ys,s,l,t,e,_⟩:=h; exact ⟨ys,s,l,t,e⟩
theorem QLen.below {w w':World} {v:Value} {n:Nat} (h:QLen w v n) (hb:Below w.heap.size w w'):QLen w' v n:=by
  obtain ⟨ys,s,l⟩:=h; exact ⟨ys,s.below hb,l⟩
theorem len_gt {L:Nat} {ys rs:List Nat} (l:Lim B16 ys) (h:ys.length≤L) (t:Top rs) (hlt:val B16 rs<val B16 ys):rs.length≤L :=
  Nat.le_trans (length_of_val B16_pos t ys.length (Nat.lt_trans hlt (val_lt l))) h
theorem QLen.rest {w:World} {v:Value} {n:Nat} (h:QLen w v n) {rs:List Nat} (t:Top rs) (hlt:val B16 rs<n):rs.length≤16500000:=by
  obtain ⟨ys,s,l,_,rfl,hl⟩:=h
  exact len_gt l hl t hlt
theorem timesD_num {v:Value} {D:Nat} {w:World} (h:QLen w v D) (n:Nat) (z:Int) (hn:n<65536) (hz:z=(n:Int)) :
    Calls Tryz.prog 159 #[v,.int .u32 z] w fun e w'=>∃ v',e=.returned v'∧QNum w' v' (D*n)∧Below w.heap.size w w':=by
  obtain ⟨ys,s,l,t,rfl,hl⟩:=h
  exact timesD_any v ys n z w s l hl hn hz
theorem cmpD_num {v1 v2:Value} {m n:Nat} {w:World} (h1:QNum w v1 m) (h2:QNum w v2 n) :
    Calls Tryz.prog 92 #[v1,v2] w fun e w'=>e=.returned (.int .i64 (cmp3 m n))∧Below w.heap.size w w':=by
  obtain ⟨xs,s1,l1,t1,rfl⟩:=h1
  obtain ⟨ys,s2,l2,t2,rfl⟩:=h2
  exact cmpD_any v1 v2 xs ys w s1 s2 l1 l2 t1 t2
theorem subD_num {v1 v2:Value} {m n:Nat} {w:World} (h1:QNum w v1 m) (h2:QNum w v2 n) (hle:n≤m) :
    Calls Tryz.prog 94 #[v1,v2] w fun e w'=>∃ v',e=.returned v'∧QNum w' v' (m - n)∧Fq w.heap.size v'∧Below w.heap.size w w':=by
  obtain ⟨xs,s1,l1,t1,rfl⟩:=h1
  obtain ⟨ys,s2,l2,t2,rfl⟩:=h2
  exact subD_fr v1 v2 xs ys w s1 s2 l1 l2 t2 hle
theorem QNum.shape {w:World} {v:Value} {n:Nat} (h:QNum w v n):∃ ao k c,v=.slice ao k c:=by
  obtain ⟨ys,s,_⟩:=h
  obtain ⟨ao,c,rfl⟩:=s.shape
  exact ⟨_,_,_,rfl⟩
theorem qdigit_any (v1 v2:Value) (A D:Nat) (w:World) (h1:QNum w v1 A) (h2:QLen w v2 D) (hA:A<D*65536) :
    Calls Tryz.prog 133 #[v1,v2] w fun e w'=>∃ v',e=.returned (.tuple #[.int .u16 ((A / D:Nat):Int),v'])∧QNum w' v' (A % D)∧Fq w.heap.size v'∧Below w.heap.size w w':=by
  obtain ⟨a1,k1,c1,rfl⟩:=h1.shape
  obtain ⟨a2,k2,c2,rfl⟩:=h2.num.shape
  have H1:=Lib.hid h1; have H2:=Lib.hid h2
  have ST:=Lib.hid (dig_start hA)
  clear h1 h2 hA
  go_enter Tryz.func133,Tryz.ntmps133
  go_wp2
  go_loopw [6,7] (fun lo hi wr=>DigO w wr A D lo hi) (fun lo hi _=>(intOf hi - intOf lo).toNat)
  case atStart=>exact ⟨0,65535,rfl,rfl,by omega,by omega,ST.out.1,ST.out.2,Below.refl _ _⟩
  case round =>
    obtain ⟨a,b,rfl,rfl,hab,hb,e1,e2,hbel⟩:=hrel
    have E1:=Lib.hid e1; have E2:=Lib.hid e2; have HB:=Lib.hid hbel
    by_cases hlt:a<b
    · obtain ⟨m,hm1,hm2⟩:∃ m:Nat,((a:Int)+(b:Int)+1) / 2=(m:Int)∧m=(a+b+1) / 2:=⟨_,by omega,rfl⟩
      have M1:=Lib.hid hm1
      have hma:a<m:=by omega
      have hmb:m≤b:=by omega
      by_cases hc:D*m≤A
      · have HC:=Lib.hid hc
        have hcm:cmp3 (D*m) A≤0:=by unfold cmp3; split<;>first | omega | (split<;>omega)
        clear e1 e2 hbel hc hm2 hm1
        generalize hq:cmp3 (D*m) A=q at *
        have HQ:=Lib.hid hq; clear hq
        go_wp2_with fail
        refine (timesD_num (H2.out.below HB.out) m _ (by omega) M1.out).mono ?_
        rintro e w1 ⟨v3,rfl,hn3,hb3⟩
        have N3:=Lib.hid hn3; have B3:=Lib.hid (below_of HB.out hb3)
        clear hn3 hb3
        go_wp2_with fail
        refine (cmpD_num N3.out (H1.out.below B3.out)).mono ?_
        rintro e w2 ⟨rfl,hb4⟩
        rw [HQ.out]
        have B4:=Lib.hid (below_of B3.out hb4)
        clear hb4
        go_wp2
        go_roundw
        case rel=>exact ⟨m,b,by first | rfl | rw [M1.out],rfl,hmb,hb,HC.out,E2.out,B4.out⟩
        case measure=>have:=M1.out; simp [intOf]; omega
      · have HC:=Lib.hid hc
        have hcm:0<cmp3 (D*m) A:=by unfold cmp3; rw [if_neg (by omega),if_pos (by omega)]; omega
        clear e1 e2 hbel hc hm2 hm1
        generalize hq:cmp3 (D*m) A=q at *
        have HQ:=Lib.hid hq; clear hq
        go_wp2_with fail
        refine (timesD_num (H2.out.below HB.out) m _ (by omega) M1.out).mono ?_
        rintro e w1 ⟨v3,rfl,hn3,hb3⟩
        have N3:=Lib.hid hn3; have B3:=Lib.hid (below_of HB.out hb3)
        clear hn3 hb3
        go_wp2_with fail
        refine (cmpD_num N3.out (H1.out.below B3.out)).mono ?_
        rintro e w2 ⟨rfl,hb4⟩
        rw [HQ.out]
        have B4:=Lib.hid (below_of B3.out hb4)
        clear hb4
        go_wp2
        go_roundw
        case rel=>exact ⟨a,m - 1,rfl,by have:=M1.out; go_num,by omega,by omega,E1.out,by have:=HC.out; rw [show m - 1+1=m by omega]; omega,B4.out⟩
        case measure=>have:=M1.out; simp [intOf]; omega
    · obtain rfl:a=b:=by omega
      have HE:=Lib.hid (dig_end e1 e2)
      have hw:IntKind.u16.wrap (a:Int)=(a:Int):=by rw [IntKind.wrap_u16]; omega
      clear e1 e2 hbel
      go_wp2_with fail
      refine (timesD_num (H2.out.below HB.out) a _ (by omega) rfl).mono ?_
      rintro e w1 ⟨v3,rfl,hn3,hb3⟩
      have N3:=Lib.hid hn3; have B3:=Lib.hid (below_of HB.out hb3)
      clear hn3 hb3
      go_wp2_with fail
      refine (subD_num (H1.out.below B3.out) N3.out E1.out).mono ?_
      rintro e w2 ⟨v4,rfl,hn4,hf4,hb4⟩
      rw [HE.out.2] at hn4
      have N4:=Lib.hid hn4; have B4:=Lib.hid (below_of B3.out hb4); have F4:=Lib.hid (hf4.mono B3.out.size)
      clear hn4 hb4 hf4
      go_wp2
      go_ret2
      exact ⟨_,by rw [← HE.out.1]; rfl,N4.out,F4.out,B4.out⟩
theorem append_sl16 {w:World} {ops:Array Oper} {rest:List Oper} {o:Oper} {a:Act} {Q:Exit→Act→World→Prop} (hgd:o.guard=none) (s x:Operand)
    (ho:o.op=.call { callee:=.builtin .append,args:=#[s,x],argTypes:=#[59,59] }) (base:Nat) (v u:Value) (xs ys:List Nat)
    (hs:a.eval s=v) (hx:a.eval x=u) (hown:w.ownsRow base 104 1 v xs.length (cellsOf .u16 xs)) (hu:Sl w .u16 u ys) (hlen:xs.length≤16777216) (hbase:base≤w.heap.size)
    (h:∀ v' w',w'.ownsRow base 104 1 v' (xs++ys).length (cellsOf .u16 (xs++ys))→w.grownBy w' v.ownBlock→wpList Tryz.prog ops Q rest (a.put o.dst v') w'):wpList Tryz.prog ops Q (o :: rest) a w:=by
  obtain ⟨i0,hi,hz0,hz1,hz2⟩:=info_parts info_u16
  have hul:=hu.len
  obtain ⟨ao,cap,rfl,_,_,_,h4,h5⟩:=hu
  cases ao with
  | none =>
    obtain rfl:=h4 rfl
    have h0:ys=[]:=by
      rcases Nat.eq_zero_or_pos ys.length with h0 | h0
      · exact List.eq_nil_of_length_eq_zero h0
      · obtain ⟨b,off,e,_⟩:=h5 h0
        cases e
    subst h0
    refine wpList_append_own_none hgd s x 59 ho base 104 i0 1 Tryz.underlying59 hi v _ _ hs hown hx ?_
    refine h v w ?_ (World.grownBy.refl _ _)
    rw [List.append_nil]; exact hown
  | some ad =>
    refine wpList_append_own w hgd s x 59 ho base 104 i0 _ 1 2 Tryz.underlying59 hi hz0 hz1 hz2 rfl (by decide) v _ _ hs hown ad ys.length cap (cellsOf .u16 ys) hx (by rw [length_cellsOf]; omega) ?_ (cells_one _ _)
      (by unfold maxLen; omega) (by omega) hbase ?_
    · intro j u hj
      have hjl:j<ys.length:=by have:=(List.getElem?_eq_some_iff.1 hj).1; rwa [length_cellsOf] at this
      rw [cellsOf_get _ _ _ hjl] at hj
      obtain ⟨b,off,e,_,hc⟩:=h5 (by omega)
      obtain rfl:=Option.some.inj e
      rw [Addr.add_lit,hc j hjl,hj]
    · intro v' w' h2 h3 _
      refine h v' w' ?_ h3
      rw [cellsOf_append,List.length_append]
      exact h2
theorem own_one (w:World) (base x:Nat) (hb:base≤w.heap.size):(w.alloc (Obj.cells #[Value.int .u16 ((x:Nat):Int)] 104)).ownsRow base 104 1 (.slice (some ⟨w.heap.size,0,none⟩) 1 1) [x].length (cellsOf .u16 [x]):=by
  refine ⟨rfl,.inr ⟨w.heap.size,1,#[Value.int .u16 ((x:Nat):Int)],rfl,hb,heap_alloc_new w _,by simp,by unfold maxLen; omega,by simp, ?_⟩⟩
  simp [cellsOf]
def DvO (w wr:World) (xs:List Nat) (D:Nat) (rv i:Value):Prop:=∃ (k r:Nat) (Q:List Nat),k≤xs.length∧i=.int .i64 ((k:Int) - 1)∧QNum wr rv r∧Fq (w.heap.size+1) rv∧DvT xs Q D k r∧Row wr 104 .u16 w.heap.size Q∧Below w.heap.size w wr
theorem divD_any (v1 v2:Value) (xs:List Nat) (D:Nat) (w:World) (s1:Sl w .u16 v1 xs) (l1:Lim B16 xs) (h2:QLen w v2 D) (hD0:0<D) :
    Calls Tryz.prog 95 #[v1,v2] w fun e w'=>∃ vq vr,e=.returned (.tuple #[vq,vr])∧QNum w' vq (val B16 xs / D)∧QNum w' vr (val B16 xs % D)∧Below w.heap.size w w':=by
  obtain ⟨a1,c1,rfl⟩:=s1.shape
  obtain ⟨a2,k2,c2,rfl⟩:=h2.num.shape
  have hxl:=s1.len
  have hc1:c1≤9223372036854775807:=by obtain ⟨_,_,e,_,h,_⟩:=s1; simp only [Value.slice.injEq] at e; unfold maxLen at h; omega
  have S1:=Lib.hid s1; have L1:=Lib.hid l1; have H2:=Lib.hid h2
  have ST:=Lib.hid (dvT_zero (xs:=xs) hD0)
  clear s1 l1 h2 hD0
  go_enter Tryz.func95,Tryz.ntmps95
  go_wp2_with (at_make; refine make_dig rfl _ _ rfl _ _ xs.length rfl rfl rfl rfl (by omega) ?_; intro w1 hrow hb1)
  have HROW:=Lib.hid hrow; have HB1:=Lib.hid hb1
  clear hrow hb1
  go_loopw [7,8] (fun rv i wr=>DvO w wr xs D rv i) (fun _ i _=>(intOf i+1).toNat)
  case atStart=>exact ⟨xs.length,0,_,Nat.le_refl _,rfl,qnum_zero _,fq_nil _,ST.out,HROW.out,HB1.out⟩
  case round =>
    obtain ⟨k',r,Q,hk,rfl,hr,hf,hT,hrow,hbel⟩:=hrel
    obtain ⟨a3,k3,c3,rfl⟩:=hr.shape
    by_cases h0:0<k'
    · obtain ⟨k,rfl⟩:∃ k,k'=k+1:=⟨k' - 1,by omega⟩
      rw [show (((k+1:Nat):Int) - 1)=(k:Int) by omega]
      have hkx:k<xs.length:=by omega
      obtain ⟨b1,o1,rfl,q1⟩:∃ b off,a1=some ⟨b,off,none⟩∧wr.cell? ⟨b,off+k,none⟩=some (.int .u16 ((xs.getD k 0:Nat):Int)):=by
        obtain ⟨b,off,cap,e,_,_,hlt,hc⟩:=(S1.out.below hbel).pos (by omega)
        simp only [Value.slice.injEq] at e
        exact ⟨b,off,e.1,hc k hkx⟩
      have HST:=Lib.hid (dvT_step hT L1.out hkx)
      have HRM:=Lib.hid (dvT_room hT L1.out)
      have HQL:=Lib.hid hT.len
      have HXL:=Lib.hid (L1.out k)
      obtain ⟨rs,hs,hl,ht,hv⟩:=hr
      obtain ⟨hs1,hs2⟩:k3=rs.length∧True:=⟨by obtain ⟨_,_,e,_⟩:=hs; simp only [Value.slice.injEq] at e; exact e.2.1,trivial⟩
      have HRS:=Lib.hid hs; have HRL:=Lib.hid hl; have HRV:=Lib.hid hv
      have HRN:=Lib.hid (H2.out.rest ht (by rw [hv]; exact hT.lt))
      have HR:=Lib.hid hrow; have HB:=Lib.hid hbel
      generalize xs.getD k 0=x at *
      clear hs hl ht hv hrow hbel hT hf hk h0 hs1 hs2
      go_wp2_with (refine append_sl16 (o:=⟨some 27,_,_,_,_,_⟩) rfl _ _ rfl wr.heap.size _ _ [x] rs rfl rfl (own_one wr wr.heap.size x (Nat.le_refl _)) (HRS.out.below ((Below.refl _ _).alloc (Nat.le_refl _) _)) (by simp) (by simp) ?_; intro v4 w2 hown2 hg2)
      have B2:=Lib.hid (((Below.refl wr.heap.size wr).alloc (Nat.le_refl _) (Obj.cells #[Value.int .u16 ((x:Nat):Int)] 104)).grown hg2 (by simp) (fun j e=>by have e':some wr.heap.size=some j:=e; cases e'; exact Nat.le_refl _))
      have S2:Hid (Sl w2 .u16 v4 (x :: rs)):=Lib.hid (sl_own hown2 (by have:=HRN.out; simp; omega))
      clear hown2 hg2
      go_wp2_with fail
      refine (qtrim_any S2.out).mono ?_
      rintro e w3 ⟨v5,rfl,hs5,rfl⟩
      have hq5:QNum w2 v5 (x+B16*r):=by
        have h:=qnum_trim hs5 (lim_cons.2 ⟨HXL.out,HRL.out⟩)
        rw [show val B16 (x :: rs)=x+B16*r by rw [← HRV.out]; rfl] at h
        exact h
      have Q5:=Lib.hid hq5
      obtain ⟨a5,k5,c5,rfl⟩:=hq5.shape
      clear hs5 hq5
      go_wp2_with fail
      refine (qdigit_any _ _ (x+B16*r) D _ Q5.out (H2.out.below (below_of HB.out B2.out)) HRM.out).mono ?_
      rintro e w4 ⟨v6,rfl,hn6,hf6,hb6⟩
      obtain ⟨a6,k6,c6,rfl⟩:=hn6.shape
      have hrow4:=(HR.out.below B2.out).below hb6
      have HR4:=Lib.hid hrow4
      have B6:=Lib.hid (below_of (below_of HB.out B2.out) hb6)
      have N6:=Lib.hid hn6
      have F6:=Lib.hid (hf6.mono (show w.heap.size+1≤w2.heap.size by have h1:=HR.out.lt; have h2:=B2.out.size; omega))
      obtain ⟨vz,hvz⟩:∃ v,w4.cell? ⟨w.heap.size,k,none⟩=some v:=⟨_,hrow4.cell (by rw [HQL.out]; exact hkx)⟩
      have hfr:w4.frozen? ⟨w.heap.size,k,none⟩=false:=hrow4.free _
      clear hn6 hf6 hb6 hrow4
      generalize hqd:(x+B16*r) / D=qd at *
      go_wp2
      go_roundw
      case rel =>
        have hset:=HR4.out.set k qd
        refine ⟨k,(x+B16*r) % D,_,by omega,by go_num,N6.out.grown hset.2 F6.out (Nat.lt_succ_self _),F6.out,HST.out,hset.1,below_of_grown B6.out hset.2 (Nat.le_refl _) B6.out.size⟩
      case measure=>simp [intOf]
    · obtain rfl:k'=0:=by omega
      have HE:=Lib.hid (dvT_end hT)
      have hsl:=hrow.sl_all (by rw [hT.len]; omega)
      rw [hT.len] at hsl
      have HS:=Lib.hid hsl; have HLM:=Lib.hid hT.lim; have HR:=Lib.hid hr; have HB:=Lib.hid hbel
      clear hsl hT hrow hbel hr hf hk h0
      go_wp2_with fail
      refine (qtrim_any HS.out).mono ?_
      rintro e w3 ⟨v5,rfl,hs5,rfl⟩
      have Q5:=Lib.hid (qnum_trim hs5 HLM.out)
      clear hs5
      go_wp2
      go_ret2
      exact ⟨_,_,rfl,by rw [← HE.out.1]; exact Q5.out,by rw [← HE.out.2]; exact HR.out,HB.out⟩
end Go.Proofs.YtacbkpenohcgjaaGreat
namespace Go.Proofs.YtacbkpenohcgjaaGreat
open Go.RowKit Mth
def IsB (w:World) (R:Nat) (T:TypeId):Prop:=∃ x ao n c,w.heap[R]?=some (.cells #[.bool x,.slice ao n c] T (0,0))
theorem IsB.call {w w':World} {R:Nat} {T:TypeId} (h:IsB w R T) (hb:Below w.heap.size w w'):IsB w' R T:=by
  obtain ⟨x,a,n,c,h⟩:=h
  exact ⟨x,a,n,c,(hb.block R (Array.getElem?_eq_some_iff.1 h).1).trans h⟩
theorem blk_two {w:World} {g R:Nat} {y0 y1:Value} {o:Obj} (h:w.heap[g]?=some o) (hne:g≠R):((w.setCell ⟨R,0,none⟩ y0).setCell ⟨R,1,none⟩ y1).heap[g]?=some o:=by
  rw [heap_setCell_other _ ⟨R,1,none⟩ g _ hne,heap_setCell_other _ ⟨R,0,none⟩ g _ hne]; exact h
theorem IsB.set {w:World} {R:Nat} {T:TypeId} (h:IsB w R T) (x:Bool) (ao:Option Addr) (n c:Nat):IsB ((w.setCell ⟨R,0,none⟩ (.bool x)).setCell ⟨R,1,none⟩ (.slice ao n c)) R T:=by
  obtain ⟨y,a,m,d,h⟩:=h
  exact ⟨_,_,_,_,heap_setCell_same _ R 1 _ _ (.slice ao n c) (heap_setCell_same w R 0 _ _ (.bool x) h)⟩
theorem IsB.far {w:World} {R Q:Nat} {T:TypeId} {y0 y1:Value} (h:IsB w R T) (hne:R≠Q):IsB ((w.setCell ⟨Q,0,none⟩ y0).setCell ⟨Q,1,none⟩ y1) R T:=by
  obtain ⟨y,a,m,d,h⟩:=h
  exact ⟨y,a,m,d,blk_two h hne⟩
def Z2 (w w':World) (A B R1 R2:Nat) (oa ob:Obj) (T:TypeId):Prop:=Below w.heap.size w w'∧w'.heap[A]?=some oa∧w'.heap[B]?=some ob∧IsB w' R1 T∧IsB w' R2 T
theorem Z2.call {w w1 w2:World} {A B R1 R2:Nat} {oa ob:Obj} {T:TypeId} (h:Z2 w w1 A B R1 R2 oa ob T) (hb:Below w1.heap.size w1 w2):Z2 w w2 A B R1 R2 oa ob T :=
  ⟨below_of h.1 hb,(hb.block _ (Array.getElem?_eq_some_iff.1 h.2.1).1).trans h.2.1,(hb.block _ (Array.getElem?_eq_some_iff.1 h.2.2.1).1).trans h.2.2.1,h.2.2.2.1.call hb,h.2.2.2.2.call hb⟩
theorem Z2.drew {w w1:World} {A B R1 R2:Nat} {oa ob:Obj} {T:TypeId} (h:Z2 w w1 A B R1 R2 oa ob T):Z2 w w1.drew A B R1 R2 oa ob T:=⟨h.1.drew,h.2⟩
theorem Z2.set1 {w w1:World} {A B R1 R2:Nat} {oa ob:Obj} {T:TypeId} {x:Bool} {ao:Option Addr} {n c:Nat} (h:Z2 w w1 A B R1 R2 oa ob T) (h1:w.heap.size≤R1) (hA:A≠R1) (hB:B≠R1) (h2:R2≠R1) :
    Z2 w ((w1.setCell ⟨R1,0,none⟩ (.bool x)).setCell ⟨R1,1,none⟩ (.slice ao n c)) A B R1 R2 oa ob T :=
  ⟨(h.1.setCell (p:=⟨R1,0,none⟩) h1 _).setCell (p:=⟨R1,1,none⟩) h1 _,blk_two h.2.1 hA,blk_two h.2.2.1 hB,h.2.2.2.1.set _ _ _ _,h.2.2.2.2.far h2⟩
theorem Z2.set2 {w w1:World} {A B R1 R2:Nat} {oa ob:Obj} {T:TypeId} {x:Bool} {ao:Option Addr} {n c:Nat} (h:Z2 w w1 A B R1 R2 oa ob T) (h1:w.heap.size≤R2) (hA:A≠R2) (hB:B≠R2) (h2:R1≠R2) :
    Z2 w ((w1.setCell ⟨R2,0,none⟩ (.bool x)).setCell ⟨R2,1,none⟩ (.slice ao n c)) A B R1 R2 oa ob T :=
  ⟨(h.1.setCell (p:=⟨R2,0,none⟩) h1 _).setCell (p:=⟨R2,1,none⟩) h1 _,blk_two h.2.1 hA,blk_two h.2.2.1 hB,h.2.2.2.1.far h2,h.2.2.2.2.set _ _ _ _⟩
theorem zv_two {w:World} {v y0 y1:Value} {z:Int} {R:Nat} {T:TypeId} (h:ZV w v z) (hR:IsB w R T):ZV ((w.setCell ⟨R,0,none⟩ y0).setCell ⟨R,1,none⟩ y1) v z:=by
  obtain ⟨x,a,n,c,hR⟩:=hR
  exact h.far hR
theorem qmake (g:Bool) (u:Value) (m:Nat) (w:World) (h:QNum w u m):Calls Tryz.prog 91 #[.bool g,u] w fun e w'=>∃ v',e=.returned v'∧ZV w' v' (sg g m)∧Below w.heap.size w w':=by
  obtain ⟨ys,s,l,_,rfl⟩:=h
  refine (make_any g u ys w s l).mono ?_
  rintro e w' ⟨v',he,hz,hb⟩
  exact ⟨v',he,hz.below hb,hb⟩
theorem QNum.below' {w w':World} {v:Value} {n:Nat} (h:QNum w v n) (hb:Below w.heap.size w w'):QNum w' v n:=h.below hb
theorem cut_any (va vb:Value) (x y:Int) (w:World) (ha:ZV w va x) (hb:ZV w vb y) (hy:y.natAbs<HugeD) (h0:y≠0) :
    Calls Tryz.prog 48 #[va,vb] w fun e w'=>∃ v1 v2,e=.returned (.tuple #[v1,v2])∧ZV w' v1 (qC x y)∧ZV w' v2 (rC x y)∧Below w.heap.size w w':=by
  obtain ⟨n1,a1,k1,c1,rfl⟩:=ha.shape
  obtain ⟨n2,a2,k2,c2,rfl⟩:=hb.shape
  obtain ⟨rfl,xs,s1,l1,t1,e1,rfl⟩:=ha.parts
  obtain ⟨rfl,ys,s2,l2,t2,e2,rfl⟩:=hb.parts
  have HDIV:Hid (∀ w1,Below w.heap.size w w1→Calls Tryz.prog 95 #[.slice a1 xs.length c1,.slice a2 ys.length c2] w1 fun e w'=>∃ vq vr,e=.returned (.tuple #[vq,vr])∧QNum w' vq (x.natAbs / y.natAbs)∧QNum w' vr (x.natAbs % y.natAbs)∧Below w1.heap.size w1 w'):=Lib.hid (fun w1 hb=>by
    have h:=divD_any _ _ xs y.natAbs w1 (s1.below hb) l1 (qlen_of ⟨ys,s2.below hb,l2,t2,e2⟩ hy) (by omega)
    rwa [e1] at h)
  clear ha hb s1 s2 l1 l2 t1 t2 e1 e2 hy h0
  generalize xs.length=k1 at *
  generalize ys.length=k2 at *
  go_enter Tryz.func48,Tryz.ntmps48
  go_wp2_with fail
  obtain ⟨W,eW,h1,h2,h3,h4,bel,hsz⟩:=alloc4 w (Obj.cells #[Value.bool (sgn x),Value.slice a1 k1 c1] 61) (Obj.cells #[Value.bool (sgn y),Value.slice a2 k2 c2] 61) (Obj.cells #[Value.bool false,Value.slice none 0 0] 61) (Obj.cells #[Value.bool false,Value.slice none 0 0] 61)
  rw [eW]
  have Z0:Hid (Z2 w W w.heap.size (w.heap.size+1) (w.heap.size+1+1) (w.heap.size+1+1+1) (Obj.cells #[Value.bool (sgn x),Value.slice a1 k1 c1] 61) (Obj.cells #[Value.bool (sgn y),Value.slice a2 k2 c2] 61) 61):=Lib.hid ⟨bel,h1,h2,⟨_,_,_,_,h3⟩,⟨_,_,_,_,h4⟩⟩
  have B:=Lib.hid bel
  clear eW h1 h2 h3 h4 bel hsz
  refine (HDIV.out W B.out).mono ?_
  rintro e w1 ⟨vq,vr,rfl,hq,hr,hb1⟩
  obtain ⟨aq,kq,cq,rfl⟩:=hq.shape
  obtain ⟨ar,kr,cr,rfl⟩:=hr.shape
  have Z1:=Lib.hid (Z0.out.call hb1)
  have HQ:=Lib.hid (show QNum w1.drew (.slice aq kq cq) (x.natAbs / y.natAbs) from hq); have HR:=Lib.hid (show QNum w1.drew (.slice ar kr cr) (x.natAbs % y.natAbs) from hr)
  obtain ⟨P,hP⟩:∃ P:World→Prop,P=fun w'=>Z2 w w' w.heap.size (w.heap.size+1) (w.heap.size+1+1) (w.heap.size+1+1+1) (Obj.cells #[Value.bool (sgn x),Value.slice a1 k1 c1] 61) (Obj.cells #[Value.bool (sgn y),Value.slice a2 k2 c2] 61) 61:=⟨_,rfl⟩
  have PC:Hid (∀ u v,P u→Below u.heap.size u v→P v):=Lib.hid (by rw [hP]; exact fun u v h hb=>h.call hb)
  have PS1:Hid (∀ (u:World) (x:Bool) (ao:Option Addr) (n c:Nat),P u→P ((u.setCell ⟨w.heap.size+1+1,0,none⟩ (.bool x)).setCell ⟨w.heap.size+1+1,1,none⟩ (.slice ao n c))):=Lib.hid (by rw [hP]; exact fun u x ao n c h=>h.set1 (by omega) (by omega) (by omega) (by omega))
  have PS2:Hid (∀ (u:World) (x:Bool) (ao:Option Addr) (n c:Nat),P u→P ((u.setCell ⟨w.heap.size+1+1+1,0,none⟩ (.bool x)).setCell ⟨w.heap.size+1+1+1,1,none⟩ (.slice ao n c))):=Lib.hid (by rw [hP]; exact fun u x ao n c h=>h.set2 (by omega) (by omega) (by omega) (by omega))
  have STAY:Hid (∀ w',P w'→w'.cell? ⟨w.heap.size,0,none⟩=some (.bool (sgn x))∧w'.cell? ⟨w.heap.size+1,0,none⟩=some (.bool (sgn y))∧P w') :=
    Lib.hid (by rw [hP]; exact fun w' h=>⟨(blk2 h.2.1).1,(blk2 h.2.2.1).1,h⟩)
  have PR:Hid (∀ w',P w'→Below w.heap.size w w'∧IsB w' (w.heap.size+1+1) 61∧IsB w' (w.heap.size+1+1+1) 61):=Lib.hid (by rw [hP]; exact fun w' h=>⟨h.1,h.2.2.2.1,h.2.2.2.2⟩)
  have hZ0:P w1.drew:=by rw [hP]; exact Z1.out.drew
  clear hP Z1
  obtain ⟨p0,p1,hZ⟩:=STAY.out _ hZ0
  clear hq hr hb1 Z0
  go_wp2_with fail
  go_region_held3 (fun w'=>w'.cell? ⟨w.heap.size,0,none⟩=some (.bool (sgn x))∧w'.cell? ⟨w.heap.size+1,0,none⟩=some (.bool (sgn y))∧P w')
    ((try go_split_ands; refine STAY.out _ ?_; first | (with_reducible assumption) | (with_reducible exact PS1.out _ _ _ _ _ (by assumption)) | (with_reducible exact PS2.out _ _ _ _ _ (by assumption)) | (with_reducible exact PC.out _ _ (by assumption) (by assumption))))
    (first
    | (go_at_call 91; go_split_ands; first
      | (have hr2':=hr2; (with_reducible refine Calls.mono (qmake _ (.slice ar kr cr) (x.natAbs % y.natAbs) _ ?_) ?_); (exact hr2'); rintro e w3 ⟨v3,rfl,z3,b3⟩; obtain ⟨n3,d3,l3,e3,rfl⟩:=z3.shape; have z2':=z2.below b3; obtain ⟨BW,q1,q2⟩:=PR.out _ (PC.out _ _ (by assumption) b3); have HQ1:=Lib.hid q1; have HQ2:=Lib.hid q2; have HBW:=Lib.hid BW; obtain ⟨_,_,_,_,r1⟩:=q1; obtain ⟨_,_,_,_,r2⟩:=q2; obtain ⟨u0,u1,g0,g1,_⟩:=blk2 r1; obtain ⟨u2,u3,g2,g3,_⟩:=blk2 r2; clear r1 r2 BW)
      | ((with_reducible refine Calls.mono (qmake _ (.slice aq kq cq) (x.natAbs / y.natAbs) _ ?_) ?_); (exact HQ.out); rintro e w2 ⟨v2,rfl,z2,b2⟩; obtain ⟨n2,d2,l2,e2,rfl⟩:=z2.shape; have hr2:=HR.out.below' b2)))
  have hne:w.heap.size+1+1+1≠w.heap.size+1+1:=by omega
  have F1:=Lib.hid (zv_two (y0:=.bool n3) (y1:=.slice d3 l3 e3) (zv_two (y0:=.bool n2) (y1:=.slice d2 l2 e2) z2' HQ1.out) (HQ2.out.far hne))
  have F2:=Lib.hid (zv_two (y0:=.bool n3) (y1:=.slice d3 l3 e3) (zv_two (y0:=.bool n2) (y1:=.slice d2 l2 e2) z3 HQ1.out) (HQ2.out.far hne))
  have l2':w.heap.size≤w.heap.size+1+1:=by omega
  have l3':w.heap.size≤w.heap.size+1+1+1:=by omega
  have F3:=Lib.hid ((((HBW.out.setCell (p:=⟨w.heap.size+1+1,0,none⟩) l2' (.bool n2)).setCell (p:=⟨w.heap.size+1+1,1,none⟩) l2' (.slice d2 l2 e2)).setCell (p:=⟨w.heap.size+1+1+1,0,none⟩) l3' (.bool n3)).setCell (p:=⟨w.heap.size+1+1+1,1,none⟩) l3' (.slice d3 l3 e3))
  go_wp2
  refine bodyPost_ret (v:=.tuple #[.agg #[.bool n2,.slice d2 l2 e2],.agg #[.bool n3,.slice d3 l3 e3]]) ?_ rfl ⟨_,_,rfl,F1.out,F2.out,F3.out⟩
  simp [results,Tryz.results48,go_sem, *]
end Go.Proofs.YtacbkpenohcgjaaGreat
namespace Go.Proofs.YtacbkpenohcgjaaGreat
open Go.RowKit Mth
end Go.Proofs.YtacbkpenohcgjaaGreat
namespace Go.Proofs.YtacbkpenohcgjaaGreat
open Go.RowKit Mth
end Go.Proofs.YtacbkpenohcgjaaGreat
