import Derived.Test.YtacbkpenohcgjaaGreatVZ1
import Derived.Test.YtacbkpenohcgjaaGreatVPA
import Derived.Maps.AppendAt
set_option linter.unusedVariables false
set_option linter.unusedSimpArgs false
set_option maxHeartbeats 2000000
set_option maxRecDepth 100000
namespace Go.Proofs.YtacbkpenohcgjaaGreat
open Go.RowKit Mth
def PutW (w wr:World) (g:Nat) (pre:List Value) (xs b:List Nat) (post:List Value) (c i:Value) (least most:Nat):Prop :=
  ∃ (k cc:Nat) (ys:List Nat),least≤k∧k≤most∧i=.int .i64 k∧c=.int .u64 (cc:Int)∧PutT xs ys 0 b k cc∧Mid wr g pre ys post∧w.grownBy wr (some g)
theorem putT_step0 {R R' b:List Nat} {k c:Nat} (h:PutT R R' 0 b k c) (lb:Lim B64 b) (hk:k<R.length):PutT R (R'.set k (aLo (R'.getD k 0) (b.getD k 0) c)) 0 b (k+1) (aHi (R'.getD k 0) (b.getD k 0) c):=by
  have:=putT_step h lb (show 0+k<R.length by omega)
  simpa only [Nat.zero_add] using this
theorem waddTo_any (g off cap:Nat) (pre post:List Value) (xs b:List Nat) (bv:Value) (w:World) (hoff:pre.length=off) (hM:Mid w g pre xs post) (lx:Lim B64 xs) (hb:Sl w .u64 bv b) (lb:Lim B64 b) (hne:inBlock bv≠some g∨b=[]) (hlen:b.length≤xs.length)
    (hcap:xs.length≤cap) (hm:cap≤maxLen) (_hxl:xs.length≤16777217) (_ho:off≤16777217) :
    Calls Tryz.prog 179 #[.slice (some ⟨g,off,none⟩) xs.length cap,bv] w fun e w'=>∃ (ys:List Nat) (c:Nat),e=.returned (.bool ((c:Int) != 0))∧Mid w' g pre ys post∧w.grownBy w' (some g)∧PutT xs ys 0 b xs.length c:=by
  obtain ⟨ao,cap2,rfl,h1,h2,h3,h4,h5⟩:=hb
  have HO:=Lib.hid hoff; have H5:=Lib.hid h5; have HM:=Lib.hid hM; have LX:=Lib.hid lx; have LB:=Lib.hid lb; have HNE:=Lib.hid hne
  unfold maxLen at h2 hm
  clear h3 h4 h5 hM lx lb hne hoff
  go_enter Tryz.func179,Tryz.ntmps179
  go_wp2
  go_loopw [5,11] (fun c i wr=>PutW w wr g pre xs b post c i 0 b.length) (fun _ i _=>b.length - (intOf i).toNat)
  case atStart=>exact ⟨0,0,xs,Nat.le_refl _,Nat.zero_le _,rfl,rfl,putT_zero 0 b LX.out,HM.out,World.grownBy.refl _ _⟩
  case round =>
    obtain ⟨k,c,ys,_,hk,rfl,rfl,hT,hrow,hgr⟩:=hrel
    have HT:=Lib.hid hT; have HROW:=Lib.hid hrow; have HG:=Lib.hid hgr
    by_cases hlt:k<b.length
    · obtain ⟨bb,boff,rfl,hblt,hc⟩:=H5.out (by omega)
      have hne:bb≠g:=by
        rcases HNE.out with h | h
        · simpa [inBlock] using h
        · subst h; simp at hlt
      have hcb:wr.cell? ⟨bb,boff+k,none⟩=some (.int .u64 ((b.getD k 0:Nat):Int)):=hgr.cell (hc k hlt) (by simpa using hne)
      have hky:k<ys.length:=by rw [hT.len]; omega
      have hcr:wr.cell? ⟨g,off+k,none⟩=some (.int .u64 ((ys.getD k 0:Nat):Int)):=by rw [← HO.out]; exact hrow.cell hky
      have hfr:wr.frozen? ⟨g,off+k,none⟩=false:=hrow.free _
      have HST:=Lib.hid (putT_step0 hT LB.out (show k<xs.length by omega))
      have hc1:=hT.cle
      have HKY:=Lib.hid hky
      generalize b.getD k 0=y at *
      generalize ys.getD k 0=x at *
      have hsub:=fun w=>add64_run x y c hc1 w
      have hkr:k<xs.length:=by omega
      clear hc hT hrow hgr hne hky
      go_wp2
      go_roundw
      case rel =>
        have hset:=HROW.out.set HKY.out (aLo x y c)
        rw [HO.out] at hset
        exact ⟨k+1,aHi x y c,_,Nat.zero_le _,by omega,by go_num,rfl,HST.out,hset.1,grown_trans' HG.out hset.2⟩
      case measure=>simp [intOf]; omega
    · have hkb:k=b.length:=by omega
      have HKB:=Lib.hid hkb
      clear hT hrow hgr hkb
      obtain ⟨wo,rfl⟩:∃ wo:World,wo=wr:=⟨_,rfl⟩
      go_wp2
      go_loopw [5,8] (fun c i wr=>PutW w wr g pre xs b post c i b.length xs.length) (fun _ i _=>xs.length - (intOf i).toNat)
      case atStart=>exact ⟨b.length,c,ys,Nat.le_refl _,hlen,rfl,rfl,by rw [← HKB.out]; exact HT.out,HROW.out,HG.out⟩
      case round =>
        obtain ⟨k2,c2,ys2,hlo,hhi,rfl,rfl,hT,hrow,hgr⟩:=hrel
        have HT2:=Lib.hid hT; have HROW2:=Lib.hid hrow; have HG2:=Lib.hid hgr
        by_cases hc0:c2=0
        · have hd:((c2:Int) != 0)=false:=by rw [hc0]; rfl
          subst hc0
          have HE:=Lib.hid (by have:=putT_more hT hlo (xs.length - k2) (by omega); rwa [show k2+(xs.length - k2)=xs.length by omega] at this)
          clear hT hrow hgr
          go_wp2
          go_ret
          exact ⟨ys2,0,rfl,HROW2.out,HG2.out,HE.out⟩
        · have hd:((c2:Int) != 0)=true:=by rw [bne_iff_ne]; omega
          by_cases hend:k2<xs.length
          · have hky:k2<ys2.length:=by rw [hT.len]; omega
            have hcr:wr.cell? ⟨g,off+k2,none⟩=some (.int .u64 ((ys2.getD k2 0:Nat):Int)):=by rw [← HO.out]; exact hrow.cell hky
            have hfr:wr.frozen? ⟨g,off+k2,none⟩=false:=hrow.free _
            have HST:=Lib.hid (putT_step0 hT LB.out hend)
            have hc1:=hT.cle
            have HKY:=Lib.hid hky
            rw [getD_ge b k2 hlo] at HST
            generalize ys2.getD k2 0=x at *
            have hsub:∀ w,(callFunc 172 #[.int .u64 (x:Int),.int .u64 0,.int .u64 (c2:Int)]).run Tryz.prog w=.ok (.value (.tuple #[.int .u64 ((aLo x 0 c2:Nat):Int),.int .u64 ((aHi x 0 c2:Nat):Int)])) w:=fun w=>add64_run x 0 c2 hc1 w
            clear hT hrow hgr hc0 hky
            go_wp2
            go_roundw
            case rel =>
              have hset:=HROW2.out.set HKY.out (aLo x 0 c2)
              rw [HO.out] at hset
              exact ⟨k2+1,aHi x 0 c2,_,by omega,by omega,by go_num,rfl,HST.out,hset.1,grown_trans' HG2.out hset.2⟩
            case measure=>simp [intOf]; omega
          · obtain rfl:k2=xs.length:=by omega
            clear hT hrow hgr hc0
            go_wp2
            go_ret
            exact ⟨ys2,c2,by rw [hd]; rfl,HROW2.out,HG2.out,HT2.out⟩
def LessW (w wr:World) (g:Nat) (xs b:List Nat) (post:List Value) (c i:Value) (least most:Nat):Prop :=
  ∃ (k cc:Nat) (ys:List Nat),least≤k∧k≤most∧i=.int .i64 k∧c=.int .u64 (cc:Int)∧TakeT xs ys b k cc∧Mid wr g [] ys post∧w.grownBy wr (some g)
theorem mid_sl {w:World} {g cap:Nat} {xs:List Nat} {post:List Value} (h:Mid w g [] xs post) (hc:xs.length≤cap) (hm:cap≤maxLen) (hl:xs.length≤16777216):Sl w .u64 (.slice (some ⟨g,0,none⟩) xs.length cap) xs :=
  ⟨_,cap,rfl,hc,hm,hl,(fun e=>by cases e),fun _=>⟨g,0,rfl,h.lt,fun _ hj=>h.cell hj⟩⟩
theorem mid_ow {w:World} {g base cap n:Nat} {xs:List Nat} {post:List Value} (h:Mid w g [] xs post) (hb:base≤g) (hn:n≤xs.length) (hc:n≤cap) (hm:cap≤maxLen) (hl:n≤16777216) (lx:Lim B64 xs) (ht:Top (xs.take n)):Ow w base (.slice (some ⟨g,0,none⟩) n cap) (val B64 (xs.take n)):=by
  have e:(xs.take n).length=n:=by rw [List.length_take]; omega
  refine .inr ⟨g,cap,_,xs.take n,by rw [e],h,hb,by omega,hm,by rw [e]; simp [length_cellsOf]; omega, ?_,by omega,lim_take (by have:=B64_pos; omega) lx _,ht,rfl⟩
  rw [e]
  simp only [List.nil_append]
  rw [List.take_append_of_le_length (by rw [length_cellsOf]; exact hn)]
  simp [cellsOf,List.map_take]
theorem append_one {w:World} {ops:Array Oper} {rest:List Oper} {o:Oper} {a:Act} {Q:Exit→Act→World→Prop} (hgd:o.guard=none) (s x:Operand)
    (ho:o.op=.call { callee:=.builtin .append,args:=#[s,x],argTypes:=#[116,116] }) (base:Nat) (v:Value) (xs:List Nat) (y:Nat) (ad:Addr)
    (hs:a.eval s=v) (hx:a.eval x=.slice (some ad) 1 1) (hown:w.ownsRow base 37 1 v xs.length (cellsOf .u64 xs)) (hc:w.cell? ad=some (.int .u64 ((y:Nat):Int))) (hlen:xs.length≤16777216) (hbase:base≤w.heap.size)
    (h:∀ v' w',w'.ownsRow base 37 1 v' (xs++[y]).length (cellsOf .u64 (xs++[y]))→w.grownBy w' v.ownBlock→(v'.ownBlock=v.ownBlock∨v'.ownBlock=some w.heap.size)→wpList Tryz.prog ops Q rest (a.put o.dst v') w'):wpList Tryz.prog ops Q (o :: rest) a w:=by
  obtain ⟨i0,hi,hz0,hz1,hz2⟩:=info_parts info_u64
  refine wpList_append_own_at w hgd s x 116 ho base 37 i0 _ 1 8 Tryz.underlying116 hi hz0 hz1 hz2 rfl (by decide) v _ _ hs hown ad 1 1 [.int .u64 ((y:Nat):Int)] hx rfl ?_ ?_
    (by unfold maxLen; omega) (by omega) hbase ?_
  · intro j u hj
    match j,hj with
    | 0,hj=>simp at hj; subst hj; simpa [Addr.add] using hc
  · intro u hu
    simp at hu; subst hu; rfl
  · intro v' w' h2 h3 _ hat
    refine h v' w' ?_ h3 hat
    rw [cellsOf_append,List.length_append]
    exact h2
theorem own_form {w:World} {base:Nat} {v:Value} {xs:List Nat} (h:w.ownsRow base 37 1 v xs.length (cellsOf .u64 xs)) :
    (v=.slice none 0 0∧xs=[])∨∃ g cap post,v=.slice (some ⟨g,0,none⟩) xs.length cap∧base≤g∧xs.length≤cap∧cap≤maxLen∧Mid w g [] xs post∧xs.length+post.length=cap:=by
  rcases h.2 with ⟨rfl,h0⟩ | ⟨g,cap,cur,rfl,hb,hg,hnc,hcm,hcs,htake⟩
  · exact .inl ⟨rfl,List.eq_nil_of_length_eq_zero h0⟩
  · rw [Nat.mul_one] at htake hcs
    refine .inr ⟨g,cap,cur.toList.drop xs.length,rfl,hb,hnc,hcm, ?_,by rw [List.length_drop]; simp only [Array.length_toList]; omega⟩
    unfold Mid
    rw [hg,List.nil_append,← htake,List.take_append_drop]
theorem waddTo_nil (ao:Option Addr) (c:Nat) (w:World) (_hm:c≤maxLen):Calls Tryz.prog 179 #[.slice none 0 0,.slice ao 0 c] w fun e w'=>e=.returned (.bool false)∧w=w':=by
  unfold maxLen at _hm
  go_enter Tryz.func179,Tryz.ntmps179
  go_wp2
  refine wp_loop_rounds 1 ?_
  rw [rounds_succ]
  go_wp2
  refine wp_loop_rounds 1 ?_
  rw [rounds_succ]
  go_wp2
  go_ret
  exact ⟨rfl,rfl⟩
theorem lim_append_zeros {xs:List Nat} (h:Lim B64 xs) (n:Nat):Lim B64 (xs++List.replicate n 0):=by
  intro j
  rcases Nat.lt_or_ge j xs.length with h1 | h1
  · have:=h j
    simp only [List.getD_eq_getElem?_getD,List.getElem?_append_left h1] at this ⊢
    exact this
  · simp only [List.getD_eq_getElem?_getD,List.getElem?_append_right h1]
    have:=getD_replicate n (j - xs.length)
    rw [List.getD_eq_getElem?_getD] at this
    rw [this]; have:=B64_pos; omega
theorem val_append_zeros (xs:List Nat) (n:Nat):val B64 (xs++List.replicate n 0)=val B64 xs:=by
  rw [val_append,val_zero (xs:=List.replicate n 0) (getD_replicate n)]; simp
theorem own_shape {w:World} {base n:Nat} {v:Value} {xs:List Value} (h:w.ownsRow base 37 1 v n xs):∃ ao c,v=.slice ao n c∧n≤c∧c≤maxLen:=by
  rcases h.2 with ⟨rfl,rfl⟩ | ⟨g,cap,cur,rfl,_,_,h1,h2,_⟩
  · exact ⟨_,_,rfl,by omega,by unfold maxLen; omega⟩
  · exact ⟨_,_,rfl,h1,h2⟩
theorem grown_same {a b c:World} {v v1:Value} (h:a.grownBy b v.ownBlock) (k:b.grownBy c v1.ownBlock) (hat:v1.ownBlock=v.ownBlock∨v1.ownBlock=some a.heap.size):a.grownBy c v.ownBlock:=by
  refine ⟨k.os.trans h.os,k.tape.trans h.tape,k.output.trans h.output,Nat.le_trans h.size k.size,fun i hi hne=>(k.block i (Nat.lt_of_lt_of_le hi h.size) ?_).trans (h.block i hi hne)⟩
  rcases hat with e | e
  · rw [e]; exact hne
  · rw [e]; intro e2; have:=Option.some.inj e2; omega
theorem at_one {v v1:Value} {n:Nat} (h:v1.ownBlock=v.ownBlock∨v1.ownBlock=some n):∀ k,v1.ownBlock=some k→v.ownBlock=some k∨n≤k:=by
  intro k hk
  rcases h with e | e
  · exact .inl (by rw [← e]; exact hk)
  · rw [e] at hk; exact .inr (by have:=Option.some.inj hk; omega)
theorem at_two {v v1 v5:Value} {n m:Nat} (h:v1.ownBlock=v.ownBlock∨v1.ownBlock=some n) (h5:v5.ownBlock=v1.ownBlock∨v5.ownBlock=some m) (hm:n≤m):∀ k,v5.ownBlock=some k→v.ownBlock=some k∨n≤k:=by
  intro k hk
  rcases h5 with e | e
  · rw [e] at hk; exact at_one h k hk
  · rw [e] at hk; exact .inr (by have:=Option.some.inj hk; omega)
theorem put_end {xs ys b:List Nat} {c:Nat} (h:PutT xs ys 0 b xs.length c) (hl:b.length≤xs.length):val B64 ys+B64 ^ xs.length*c=val B64 xs+val B64 b:=by
  have e:=h.eq
  rw [seg_all,List.take_of_length_le hl] at e
  have e2:=seg_all ys
  rw [h.len] at e2
  rw [e2] at e
  exact e
theorem sum_top0 {xs ys b:List Nat} (h:PutT xs ys 0 b xs.length 0) (hl:b.length≤xs.length) (ht:Top xs∨(b.length=xs.length∧Top b)):Top ys:=by
  have e:=put_end h hl
  refine top_of_val h.lim ?_
  rw [h.len]
  rcases Nat.eq_zero_or_pos xs.length with h0 | h0
  · exact .inl h0
  · right
    rcases ht with ht | ⟨hb,ht⟩
    · have:=val_ge_top (B:=B64) ht h0; omega
    · have:=val_ge_top (B:=B64) ht (by omega); rw [hb] at this; omega
theorem waddTo_own (base:Nat) (v:Value) (xs b:List Nat) (bv:Value) (w:World) (hown:w.ownsRow base 37 1 v xs.length (cellsOf .u64 xs)) (lx:Lim B64 xs) (hb:Sl w .u64 bv b) (lb:Lim B64 b) (hne:inBlock bv≠v.ownBlock∨b=[]) (hlen:b.length≤xs.length) (hl:xs.length≤16777000) :
    Calls Tryz.prog 179 #[v,bv] w fun e w'=>∃ (ys:List Nat) (c:Nat),e=.returned (.bool ((c:Int) != 0))∧w'.ownsRow base 37 1 v ys.length (cellsOf .u64 ys)∧w.grownBy w' v.ownBlock∧PutT xs ys 0 b xs.length c:=by
  rcases own_form hown with ⟨rfl,rfl⟩ | ⟨g,cap,post,rfl,h1,h2,h3,h4,h5⟩
  · obtain rfl:b=[]:=List.eq_nil_of_length_eq_zero (by simpa using hlen)
    obtain ⟨ao,c,rfl,_,hm,_⟩:=hb
    exact (waddTo_nil ao c w hm).mono fun e w' ⟨he,hw⟩=>⟨[],0,by rw [he]; rfl,by subst hw; exact hown,by subst hw; exact World.grownBy.refl _ _,putT_zero 0 [] lx⟩
  · refine (waddTo_any g 0 cap [] post xs b bv w rfl h4 lx hb lb ?_ hlen h2 h3 (by omega) (by omega)).mono ?_
    · rcases hne with h | h
      · exact .inl (by simpa [Value.ownBlock] using h)
      · exact .inr h
    · rintro e w' ⟨ys,c,he,hM,hG,hP⟩
      have hyl:=hP.len
      have:=own_mid (base:=base) (cap:=cap) hM h1 (by omega) h3 (by omega)
      rw [hyl] at this
      exact ⟨ys,c,he,by rw [hyl]; exact this,by simpa [Value.ownBlock] using hG,hP⟩
theorem plus_any (base:Nat) (v:Value) (xs b:List Nat) (bv:Value) (w:World) (hown:w.ownsRow base 37 1 v xs.length (cellsOf .u64 xs)) (lx:Lim B64 xs) (tx:Top xs) (hb:Sl w .u64 bv b) (lb:Lim B64 b) (tb:Top b) (hne:inBlock bv≠v.ownBlock∨b=[]) (hl:xs.length≤8000000) (hl2:b.length≤8000000) (hbase:base≤w.heap.size) :
    Calls Tryz.prog 173 #[v,bv] w fun e w'=>∃ v' zs,e=.returned v'∧w'.ownsRow base 37 1 v' zs.length (cellsOf .u64 zs)∧w.grownBy w' v.ownBlock∧Lim B64 zs∧Top zs∧val B64 zs=val B64 xs+val B64 b∧(∀ k,v'.ownBlock=some k→v.ownBlock=some k∨w.heap.size≤k):=by
  have HO:=Lib.hid hown; have LX:=Lib.hid lx; have TX:=Lib.hid tx; have HS:=Lib.hid hb; have LB:=Lib.hid lb; have TB:=Lib.hid tb; have HNE:=Lib.hid hne
  obtain ⟨ao,cap,rfl,hc1,hc2⟩:∃ ao cap,v=.slice ao xs.length cap∧xs.length≤cap∧cap≤maxLen:=by
    rcases hown.2 with ⟨rfl,h0⟩ | ⟨g,cap,cur,rfl,_,_,h1,h2,_⟩
    · exact ⟨none,0,by rw [h0],by omega,by unfold maxLen; omega⟩
    · exact ⟨_,_,rfl,h1,h2⟩
  obtain ⟨ao2,cap2,rfl⟩:=hb.shape
  unfold maxLen at hc2
  clear hown lx tx hb lb tb hne
  by_cases hmiss:xs.length<b.length
  · obtain ⟨n,hn⟩:∃ n,b.length=xs.length+n:=⟨b.length - xs.length,by omega⟩
    have hn0:0<n:=by omega
    have hw:IntKind.i64.wrap ((b.length:Int) - (xs.length:Int))=(n:Int):=by rw [IntKind.wrap_i64]; omega
    have hpos:decide ((0:Int)<(n:Int))=true:=decide_eq_true (by omega)
    have hn2:n≤8000000:=by omega
    have hXL:(xs++List.replicate n 0).length=b.length:=by simp; omega
    have HN:=Lib.hid hn; have HXL:=Lib.hid hXL
    clear hmiss hn hXL
    go_enter Tryz.func173,Tryz.ntmps173
    go_wp2_with (refine append_zeros (o:=⟨some 15,_,_,_,_,_⟩) rfl _ _ rfl base _ xs n rfl rfl HO.out hn0 (by omega) hbase ?_; intro v1 w1 ho1 hg1 hat1)
    have hne1:inBlock (Value.slice ao2 b.length cap2)≠v1.ownBlock∨b=[]:=by
      rcases hat1 with e | e
      · rw [e]; exact HNE.out
      · left
        rw [e]
        intro e2
        obtain ⟨b',o',c',e3,_,_,hlt',_⟩:=HS.out.pos (by have:=HN.out; omega)
        rw [e3] at e2
        have e4:b'=w.heap.size:=Option.some.inj e2
        omega
    have A1:=Lib.hid (waddTo_own base v1 (xs++List.replicate n 0) b _ w1 ho1 (lim_append_zeros LX.out n) (HS.out.grown hg1 HNE.out) LB.out hne1 (by rw [HXL.out]; exact Nat.le_refl _) (by rw [HXL.out]; omega))
    have HG1:=Lib.hid hg1; have HAT:=Lib.hid hat1
    rw [HXL.out] at ho1
    obtain ⟨a3,c3,rfl,hd1,hd2⟩:=own_shape ho1
    unfold maxLen at hd2
    clear ho1 hg1 hne1 hat1
    go_wp2_with fail
    refine A1.out.mono ?_
    rintro e w2 ⟨ys,c,rfl,ho2,hg2,hP⟩
    have HO2:=Lib.hid ho2; have HP:=Lib.hid hP; have HG2:=Lib.hid hg2
    clear ho2 hg2 hP
    by_cases hc0:c=0
    · subst hc0
      have hd:(((0:Nat):Int) != 0)=false:=rfl
      go_wp2
      go_ret
      exact ⟨_,ys,rfl,HO2.out,grown_same HG1.out HG2.out HAT.out,HP.out.lim,sum_top0 HP.out (by rw [HXL.out]; exact Nat.le_refl _) (.inr ⟨HXL.out.symm,TB.out⟩),by
        have:=put_end HP.out (by rw [HXL.out]; exact Nat.le_refl _)
        rw [val_append_zeros] at this; omega,at_one HAT.out⟩
    · have hd:((c:Int) != 0)=true:=by rw [bne_iff_ne]; omega
      obtain rfl:c=1:=by have:=HP.out.cle; omega
      have hyl:ys.length≤16777216:=by have:=HP.out.len; rw [HXL.out] at this; omega
      have hbw:base≤w2.heap.size:=Nat.le_trans hbase (Nat.le_trans HG1.out.size HG2.out.size)
      go_wp2_with (refine append_one (o:=⟨some 21,_,_,_,_,_⟩) rfl _ _ rfl base _ ys 1 ⟨w2.heap.size,0,none⟩ rfl rfl (HO2.out.alloc _) (World.cell?_alloc_new _ _ _ _) hyl (by simp; omega) ?_; intro v5 w5 ho5 hg5 hat5)
      go_ret
      exact ⟨_,ys++[1],rfl,ho5,grown_same HG1.out (grown_trans' HG2.out (grown_trans' (grown_of_below ((Below.refl _ _).alloc (Nat.le_refl _) _) _) hg5)) HAT.out,lim_snoc HP.out.lim (by unfold B64; omega),top_snoc (by omega),by
        have:=put_end HP.out (by rw [HXL.out]; exact Nat.le_refl _)
        have hl2:=HP.out.len
        rw [val_append_zeros] at this
        rw [val_snoc,hl2]; omega,at_two HAT.out hat5 (by have:=HG1.out.size; have:=HG2.out.size; simp; omega)⟩
  · have hbl:b.length≤xs.length:=by omega
    have HBL:=Lib.hid hbl
    have A1:=Lib.hid (waddTo_own base _ xs b _ w HO.out LX.out HS.out LB.out HNE.out hbl (by omega))
    clear hmiss
    go_enter Tryz.func173,Tryz.ntmps173
    go_wp2_with fail
    refine A1.out.mono ?_
    rintro e w2 ⟨ys,c,rfl,ho2,hg2,hP⟩
    have HO2:=Lib.hid ho2; have HP:=Lib.hid hP; have HG2:=Lib.hid hg2
    clear ho2 hg2 hP
    by_cases hc0:c=0
    · subst hc0
      have hd:(((0:Nat):Int) != 0)=false:=rfl
      go_wp2
      go_ret
      exact ⟨_,ys,rfl,HO2.out,HG2.out,HP.out.lim,sum_top0 HP.out HBL.out (.inl TX.out),by
        have:=put_end HP.out HBL.out
        omega,fun k hk=>.inl hk⟩
    · have hd:((c:Int) != 0)=true:=by rw [bne_iff_ne]; omega
      obtain rfl:c=1:=by have:=HP.out.cle; omega
      have hyl:ys.length≤16777216:=by have:=HP.out.len; omega
      have hbw:base≤w2.heap.size:=Nat.le_trans hbase HG2.out.size
      go_wp2_with (refine append_one (o:=⟨some 21,_,_,_,_,_⟩) rfl _ _ rfl base _ ys 1 ⟨w2.heap.size,0,none⟩ rfl rfl (HO2.out.alloc _) (World.cell?_alloc_new _ _ _ _) hyl (by simp; omega) ?_; intro v5 w5 ho5 hg5 hat5)
      go_ret
      exact ⟨_,ys++[1],rfl,ho5,grown_trans' HG2.out (grown_trans' (grown_of_below ((Below.refl _ _).alloc (Nat.le_refl _) _) _) hg5),lim_snoc HP.out.lim (by unfold B64; omega),top_snoc (by omega),by
        have:=put_end HP.out HBL.out
        have hl2:=HP.out.len
        rw [val_snoc,hl2]; omega,at_two (.inl rfl) hat5 (by have:=HG2.out.size; simp; omega)⟩
end Go.Proofs.YtacbkpenohcgjaaGreat
namespace Go.Proofs.YtacbkpenohcgjaaGreat
open Go.RowKit Mth
theorem take_open {xs ys b:List Nat} {k:Nat} (h:TakeT xs ys b k 1) (lx:Lim B64 xs) (hb:b.length≤xs.length) (hk:k≤xs.length) (hle:val B64 b≤val B64 xs):k<xs.length:=by
  rcases Nat.lt_or_ge k xs.length with h1 | h1
  · exact h1
  · exfalso
    obtain rfl:k=xs.length:=by omega
    have:=(takeT_end h lx hb hle).1
    omega
theorem take_done {xs ys b:List Nat} {k:Nat} (h:TakeT xs ys b k 0) (lx:Lim B64 xs) (hk:b.length≤k) (hk2:k≤xs.length) (hle:val B64 b≤val B64 xs):val B64 ys=val B64 xs - val B64 b:=by
  have h2:=takeT_more h hk hk2 (xs.length - k) (by omega)
  rw [show k+(xs.length - k)=xs.length by omega] at h2
  exact (takeT_end h2 lx (by omega) hle).2
theorem less_some (g base cap:Nat) (post:List Value) (xs b:List Nat) (bv:Value) (w:World) (hM:Mid w g [] xs post) (hbg:base≤g) (lx:Lim B64 xs) (hb:Sl w .u64 bv b) (lb:Lim B64 b) (hne:inBlock bv≠some g∨b=[]) (hlen:b.length≤xs.length) (hle:val B64 b≤val B64 xs)
    (hcap:xs.length≤cap) (hm:cap≤maxLen) (hxl:xs.length≤16777000) :
    Calls Tryz.prog 174 #[.slice (some ⟨g,0,none⟩) xs.length cap,bv] w fun e w'=>∃ n,e=.returned (.slice (some ⟨g,0,none⟩) n cap)∧Ow w' base (.slice (some ⟨g,0,none⟩) n cap) (val B64 xs - val B64 b)∧w.grownBy w' (some g):=by
  obtain ⟨ao,cap2,rfl,h1,h2,h3,h4,h5⟩:=hb
  have H5:=Lib.hid h5; have HM:=Lib.hid hM; have LX:=Lib.hid lx; have LB:=Lib.hid lb; have HNE:=Lib.hid hne; have HLE:=Lib.hid hle; have HCM:=Lib.hid hm; have HBG:=Lib.hid hbg
  unfold maxLen at h2 hm
  clear h3 h4 h5 hM lx lb hne hle hbg
  go_enter Tryz.func174,Tryz.ntmps174
  go_wp2
  go_loopw [5,11] (fun c i wr=>LessW w wr g xs b post c i 0 b.length) (fun _ i _=>b.length - (intOf i).toNat)
  case atStart=>exact ⟨0,0,xs,Nat.le_refl _,Nat.zero_le _,rfl,rfl,takeT_zero b LX.out,HM.out,World.grownBy.refl _ _⟩
  case round =>
    obtain ⟨k,c,ys,_,hk,rfl,rfl,hT,hrow,hgr⟩:=hrel
    have HT:=Lib.hid hT; have HROW:=Lib.hid hrow; have HG:=Lib.hid hgr
    by_cases hlt:k<b.length
    · obtain ⟨bb,boff,rfl,hblt,hc⟩:=H5.out (by omega)
      have hne:bb≠g:=by
        rcases HNE.out with h | h
        · simpa [inBlock] using h
        · subst h; simp at hlt
      have hcb:wr.cell? ⟨bb,boff+k,none⟩=some (.int .u64 ((b.getD k 0:Nat):Int)):=hgr.cell (hc k hlt) (by simpa using hne)
      have hky:k<ys.length:=by rw [hT.len]; omega
      have hcr:wr.cell? ⟨g,k,none⟩=some (.int .u64 ((ys.getD k 0:Nat):Int)):=by simpa using hrow.cell hky
      have hfr:wr.frozen? ⟨g,k,none⟩=false:=hrow.free _
      have HST:=Lib.hid (takeT_step hT LB.out (show k<xs.length by omega))
      have hc1:=hT.cle
      have HKY:=Lib.hid hky
      generalize b.getD k 0=y at *
      generalize ys.getD k 0=x at *
      have hsub:=fun w=>sub64_run x y c hc1 w
      have hkr:k<xs.length:=by omega
      clear hc hT hrow hgr hne hky
      go_wp2
      go_roundw
      case rel =>
        have hset:=HROW.out.set HKY.out (sLo x y c)
        simp only [List.length_nil,Nat.zero_add] at hset
        exact ⟨k+1,sHi x y c,_,Nat.zero_le _,by omega,by go_num,rfl,HST.out,hset.1,grown_trans' HG.out hset.2⟩
      case measure=>simp [intOf]; omega
    · have hkb:k=b.length:=by omega
      have HKB:=Lib.hid hkb
      clear hT hrow hgr hkb
      obtain ⟨wo,rfl⟩:∃ wo:World,wo=wr:=⟨_,rfl⟩
      go_wp2
      go_loopw [5,8] (fun c i wr=>LessW w wr g xs b post c i b.length xs.length) (fun _ i _=>xs.length - (intOf i).toNat)
      case atStart=>exact ⟨b.length,c,ys,Nat.le_refl _,hlen,rfl,rfl,by rw [← HKB.out]; exact HT.out,HROW.out,HG.out⟩
      case round =>
        obtain ⟨k2,c2,ys2,hlo,hhi,rfl,rfl,hT,hrow,hgr⟩:=hrel
        have HT2:=Lib.hid hT; have HROW2:=Lib.hid hrow; have HG2:=Lib.hid hgr
        by_cases hc0:c2=0
        · have hd:((c2:Int) != 0)=false:=by rw [hc0]; rfl
          subst hc0
          have HE:=Lib.hid (take_done hT LX.out hlo hhi HLE.out)
          have HYL:=Lib.hid hT.len
          have TR:=Lib.hid (wtrim_eq (mid_sl (cap:=cap) hrow (by rw [hT.len]; exact hcap) HCM.out (by rw [hT.len]; omega)))
          have hyl:ys2.length=xs.length:=hT.len
          rw [hyl] at TR
          clear hT hrow hgr hyl
          go_wp2_with fail
          refine TR.out.mono ?_
          rintro e w' ⟨rfl,rfl⟩
          go_wp2
          go_ret
          refine ⟨_,rfl, ?_,HG2.out⟩
          have ht:=tlen_le ys2
          have htop:Top (ys2.take (tlen ys2)):=top_trimL ys2
          have hv:val B64 (ys2.take (tlen ys2))=val B64 ys2:=val_trimL _ _
          rw [← HE.out,← hv]
          have e1:=HYL.out
          exact mid_ow HROW2.out HBG.out ht (by omega) HCM.out (by omega) HT2.out.lim htop
        · have hd:((c2:Int) != 0)=true:=by rw [bne_iff_ne]; omega
          obtain rfl:c2=1:=by have:=hT.cle; omega
          have hend:=take_open hT LX.out hlen hhi HLE.out
          have hky:k2<ys2.length:=by rw [hT.len]; omega
          have hcr:wr.cell? ⟨g,k2,none⟩=some (.int .u64 ((ys2.getD k2 0:Nat):Int)):=by simpa using hrow.cell hky
          have hfr:wr.frozen? ⟨g,k2,none⟩=false:=hrow.free _
          have HST:=Lib.hid (takeT_step hT LB.out hend)
          have HKY:=Lib.hid hky
          rw [getD_ge b k2 hlo] at HST
          generalize ys2.getD k2 0=x at *
          have hsub:∀ w,(callFunc 180 #[.int .u64 (x:Int),.int .u64 0,.int .u64 1]).run Tryz.prog w=.ok (.value (.tuple #[.int .u64 ((sLo x 0 1:Nat):Int),.int .u64 ((sHi x 0 1:Nat):Int)])) w:=fun w=>sub64_run x 0 1 (by omega) w
          clear hT hrow hgr hc0 hky
          go_wp2
          go_roundw
          case rel =>
            have hset:=HROW2.out.set HKY.out (sLo x 0 1)
            simp only [List.length_nil,Nat.zero_add] at hset
            exact ⟨k2+1,sHi x 0 1,_,by omega,by omega,by go_num,rfl,HST.out,hset.1,grown_trans' HG2.out hset.2⟩
          case measure=>simp [intOf]; omega
theorem less_nil (ao:Option Addr) (c:Nat) (w:World) (_hm:c≤maxLen):Calls Tryz.prog 174 #[.slice none 0 0,.slice ao 0 c] w fun e w'=>e=.returned (.slice none 0 0)∧w=w':=by
  unfold maxLen at _hm
  go_enter Tryz.func174,Tryz.ntmps174
  go_wp2
  refine wp_loop_rounds 1 ?_
  rw [rounds_succ]
  go_wp2
  refine wp_loop_rounds 1 ?_
  rw [rounds_succ]
  go_wp2_with fail
  refine (wtrim_zero none 0 _ (by unfold maxLen; omega) (fun _=>rfl)).mono ?_
  rintro e w' ⟨rfl,rfl⟩
  go_wp2
  go_ret
  exact ⟨rfl,rfl⟩
theorem less_any (base:Nat) (v:Value) (xs b:List Nat) (bv:Value) (w:World) (hown:w.ownsRow base 37 1 v xs.length (cellsOf .u64 xs)) (lx:Lim B64 xs) (hb:Sl w .u64 bv b) (lb:Lim B64 b) (tb:Top b) (hne:inBlock bv≠v.ownBlock∨b=[]) (hle:val B64 b≤val B64 xs) (hl:xs.length≤16777000) :
    Calls Tryz.prog 174 #[v,bv] w fun e w'=>∃ v',e=.returned v'∧Ow w' base v' (val B64 xs - val B64 b)∧w.grownBy w' v.ownBlock:=by
  have hlen:=length_le_of_val B64_pos lx tb hle
  rcases own_form hown with ⟨rfl,rfl⟩ | ⟨g,cap,post,rfl,h1,h2,h3,h4,h5⟩
  · obtain rfl:b=[]:=List.eq_nil_of_length_eq_zero (by simpa using hlen)
    obtain ⟨ao,c,rfl,_,hm,_⟩:=hb
    exact (less_nil ao c w hm).mono fun e w' ⟨he,hw⟩=>⟨_,he,by subst hw; exact ow_nil _ _,by subst hw; exact World.grownBy.refl _ _⟩
  · refine (less_some g base cap post xs b bv w h4 h1 lx hb lb ?_ hlen hle h2 h3 hl).mono ?_
    · rcases hne with h | h
      · exact .inl (by simpa [Value.ownBlock] using h)
      · exact .inr h
    · rintro e w' ⟨n,he,ho,hg⟩
      exact ⟨_,he,ho,by simpa [Value.ownBlock] using hg⟩
end Go.Proofs.YtacbkpenohcgjaaGreat
namespace Go.Proofs.YtacbkpenohcgjaaGreat
open Go.RowKit Mth
def TalO (w:World) (base g m P N:Nat):Prop:=∃ (u d:Value) (xs ys:List Nat),w.heap[g]?=some (.cells #[u,d] 168 (0,0))∧w.ownsRow base 37 1 u xs.length (cellsOf .u64 xs)∧w.ownsRow base 37 1 d ys.length (cellsOf .u64 ys) ∧
  Lim B64 xs∧Top xs∧val B64 xs=P∧Lim B64 ys∧Top ys∧val B64 ys=N∧(∀ k,u.ownBlock=some k→d.ownBlock≠some k)∧P≤m*HugeN∧N≤m*HugeN
theorem own_base' {w:World} {base n:Nat} {v:Value} {xs:List Value} (h:w.ownsRow base 37 1 v n xs) (k:Nat) (hk:v.ownBlock=some k):base≤k∧k<w.heap.size∧∃ cur,w.heap[k]?=some (.cells cur 37 (0,0)):=by
  rcases h.2 with ⟨rfl,_⟩ | ⟨g,cap,cur,rfl,hb,hg,_⟩
  · cases hk
  · obtain rfl:=Option.some.inj hk
    exact ⟨hb,(Array.getElem?_eq_some_iff.1 hg).1,cur,hg⟩
theorem own_other {w w':World} {base n:Nat} {v:Value} {xs:List Value} {row:Option Nat} (h:w.ownsRow base 37 1 v n xs) (hg:w.grownBy w' row) (hne:∀ k,v.ownBlock=some k→row≠some k):w'.ownsRow base 37 1 v n xs:=by
  refine ⟨h.1, ?_⟩
  rcases h.2 with h2 | ⟨g,cap,cur,rfl,hb,hk,h3⟩
  · exact .inl h2
  · exact .inr ⟨g,cap,cur,rfl,hb,(hg.block g (Array.getElem?_eq_some_iff.1 hk).1 (fun e=>hne g rfl e.symm)).trans hk,h3⟩
theorem tal_ne {w:World} {base g n:Nat} {v:Value} {xs:List Value} {cs:Array Value} (h:w.ownsRow base 37 1 v n xs) (hg:w.heap[g]?=some (.cells cs 168 (0,0))):v.ownBlock≠some g:=by
  intro e
  obtain ⟨_,_,cur,h2⟩:=own_base' h g e
  rw [hg] at h2
  simp at h2
theorem grown_cell {w:World} {g i:Nat} {x:Value}:w.grownBy (w.setCell ⟨g,i,none⟩ x) (some g) :=
  ⟨rfl,rfl,rfl,by simp,fun k _ hk=>heap_setCell_other w ⟨g,i,none⟩ k _ (fun e=>hk (by simp [e]))⟩
theorem grown_drew' {w W:World} (h:Below w.heap.size w W):w.grownBy W.drew none:=grown_of_below h.drew none
theorem tal_step1 {w W w':World} {g base m P N a:Nat} {u d v':Value} {xs ys zs:List Nat} (HT:w.heap[g]?=some (.cells #[u,d] 168 (0,0))) (bel:Below w.heap.size w W) (hbg:base≤g) (hbase:base≤w.heap.size)
    (hu:w.ownsRow base 37 1 u xs.length (cellsOf .u64 xs)) (hd:w.ownsRow base 37 1 d ys.length (cellsOf .u64 ys)) (hdis:∀ k,u.ownBlock=some k→d.ownBlock≠some k) (gu:u.ownBlock≠some g) (gd:d.ownBlock≠some g)
    (F:Lim B64 xs∧Top xs∧val B64 xs=P∧Lim B64 ys∧Top ys∧val B64 ys=N∧P≤m*HugeN∧N≤m*HugeN∧a<HugeN)
    (hg:W.drew.grownBy w' d.ownBlock) (ho:w'.ownsRow base 37 1 v' zs.length (cellsOf .u64 zs)) (hl:Lim B64 zs) (ht:Top zs) (hv:val B64 zs=val B64 ys+a) (hat:∀ k,v'.ownBlock=some k→d.ownBlock=some k∨W.drew.heap.size≤k) :
    TalO (w'.setCell ⟨g,1,none⟩ v') base g (m+1) P (N+a)∧Below base w (w'.setCell ⟨g,1,none⟩ v'):=by
  obtain ⟨lx,tx,ex,ly,ty,ey,hP,hN,ha⟩:=F
  have hlt:=(Array.getElem?_eq_some_iff.1 HT).1
  have hsz:w.heap.size≤W.drew.heap.size:=bel.size
  have g1:w'.heap[g]?=some (.cells #[u,d] 168 (0,0)):=(hg.block g (by omega) (fun e=>gd e.symm)).trans ((bel.block g hlt).trans HT)
  have hvg:v'.ownBlock≠some g:=by
    intro e
    rcases hat g e with h | h
    · exact gd h
    · omega
  have hu1:w'.ownsRow base 37 1 u xs.length (cellsOf .u64 xs):=own_other (own_other hu (grown_drew' bel) (fun _ _ e=>by cases e)) hg (fun k hk e=>hdis k hk e)
  refine ⟨⟨u,v',xs,zs,by rw [heap_setCell_same w' g 1 _ _ v' g1]; rfl,own_other hu1 grown_cell (fun k hk e=>by have:=Option.some.inj e; subst this; exact gu hk),own_other ho grown_cell (fun k hk e=>by have:=Option.some.inj e; subst this; exact hvg hk),lx,tx,ex,hl,ht,by rw [hv,ey], ?_, ?_, ?_⟩, ?_⟩
  · intro k hk e
    rcases hat k e with h | h
    · exact hdis k hk h
    · have:=(own_base' hu k hk).2.1; omega
  · rw [Nat.add_mul]; omega
  · rw [Nat.add_mul]; omega
  · have b1:Below base w w':=(bel.drew.mono hbase).grown hg (Nat.le_trans hbase hsz) (fun k e=>(own_base' hd k e).1)
    exact b1.setCell hbg _
theorem tal_step0 {w W w':World} {g base m P N a:Nat} {u d v':Value} {xs ys zs:List Nat} (HT:w.heap[g]?=some (.cells #[u,d] 168 (0,0))) (bel:Below w.heap.size w W) (hbg:base≤g) (hbase:base≤w.heap.size)
    (hu:w.ownsRow base 37 1 u xs.length (cellsOf .u64 xs)) (hd:w.ownsRow base 37 1 d ys.length (cellsOf .u64 ys)) (hdis:∀ k,u.ownBlock=some k→d.ownBlock≠some k) (gu:u.ownBlock≠some g) (gd:d.ownBlock≠some g)
    (F:Lim B64 xs∧Top xs∧val B64 xs=P∧Lim B64 ys∧Top ys∧val B64 ys=N∧P≤m*HugeN∧N≤m*HugeN∧a<HugeN)
    (hg:W.drew.grownBy w' u.ownBlock) (ho:w'.ownsRow base 37 1 v' zs.length (cellsOf .u64 zs)) (hl:Lim B64 zs) (ht:Top zs) (hv:val B64 zs=val B64 xs+a) (hat:∀ k,v'.ownBlock=some k→u.ownBlock=some k∨W.drew.heap.size≤k) :
    TalO (w'.setCell ⟨g,0,none⟩ v') base g (m+1) (P+a) N∧Below base w (w'.setCell ⟨g,0,none⟩ v'):=by
  obtain ⟨lx,tx,ex,ly,ty,ey,hP,hN,ha⟩:=F
  have hlt:=(Array.getElem?_eq_some_iff.1 HT).1
  have hsz:w.heap.size≤W.drew.heap.size:=bel.size
  have g1:w'.heap[g]?=some (.cells #[u,d] 168 (0,0)):=(hg.block g (by omega) (fun e=>gu e.symm)).trans ((bel.block g hlt).trans HT)
  have hvg:v'.ownBlock≠some g:=by
    intro e
    rcases hat g e with h | h
    · exact gu h
    · omega
  have hd1:w'.ownsRow base 37 1 d ys.length (cellsOf .u64 ys):=own_other (own_other hd (grown_drew' bel) (fun _ _ e=>by cases e)) hg (fun k hk e=>hdis k e hk)
  refine ⟨⟨v',d,zs,ys,by rw [heap_setCell_same w' g 0 _ _ v' g1]; rfl,own_other ho grown_cell (fun k hk e=>by have:=Option.some.inj e; subst this; exact hvg hk),own_other hd1 grown_cell (fun k hk e=>by have:=Option.some.inj e; subst this; exact gd hk),hl,ht,by rw [hv,ex],ly,ty,ey, ?_, ?_, ?_⟩, ?_⟩
  · intro k hk e
    rcases hat k hk with h | h
    · exact hdis k h e
    · have:=(own_base' hd k e).2.1; omega
  · rw [Nat.add_mul]; omega
  · rw [Nat.add_mul]; omega
  · have b1:Below base w w':=(bel.drew.mono hbase).grown hg (Nat.le_trans hbase hsz) (fun k e=>(own_base' hu k e).1)
    exact b1.setCell hbg _
theorem tally_add (g base m P N:Nat) (v:Value) (z:Int) (w:World) (h:TalO w base g m P N) (hv:NuV w v z) (hold:z≠0→∀ u b k,v=.agg #[u,b]→inBlock u=some k→k<base) (hz:z.natAbs<HugeN) (hm:m<16777216) (hbg:base≤g) (hbase:base≤w.heap.size) :
    Calls Tryz.prog 165 #[.pointer (some ⟨g,0,none⟩),v] w fun e w'=>e=.returned (.tuple #[])∧TalO w' base g (m+1) (P+(if sgn z=true then 0 else z.natAbs)) (N+(if sgn z=true then z.natAbs else 0))∧Below base w w':=by
  obtain ⟨u,d,xs,ys,hT,hu,hd,lx,tx,ex,ly,ty,ey,hdis,hP,hN⟩:=h
  obtain ⟨bv,rfl,bs,hbs,lb,tb,eb⟩:=hv
  obtain ⟨bo,bc,rfl⟩:=hbs.shape
  obtain ⟨uo,uc,rfl,_,_⟩:=own_shape hu
  obtain ⟨dO,dc,rfl,_,_⟩:=own_shape hd
  have hxl:xs.length≤8000000:=by have:=len_huge tx (by rw [ex]; exact hP) (by omega); unfold Lm at this; omega
  have hyl:ys.length≤8000000:=by have:=len_huge ty (by rw [ey]; exact hN) (by omega); unfold Lm at this; omega
  have hbl:bs.length≤8000000:=by have:=len_huge (m:=1) tb (by rw [eb]; omega) (by omega); unfold Lm at this; omega
  have hbo:bs≠[]→∀ k,inBlock (Value.slice bo bs.length bc)=some k→k<base:=fun h0 k=>hold (by
    intro e
    have:=pos_of_top tb (List.length_pos_iff.2 h0)
    rw [eb,e] at this
    simp at this) _ _ k rfl
  have hne1:inBlock (Value.slice bo bs.length bc)≠(Value.slice uo xs.length uc).ownBlock∨bs=[]:=by
    by_cases h0:bs=[]
    · exact .inr h0
    · left
      intro e
      obtain ⟨b',o',c',e1,_⟩:=hbs.pos (List.length_pos_iff.2 h0)
      have e2:inBlock (Value.slice bo bs.length bc)=some b':=by rw [e1]; rfl
      have:=hbo h0 b' e2
      have:=(own_base' hu b' (by rw [← e,e2])).1
      omega
  have hne2:inBlock (Value.slice bo bs.length bc)≠(Value.slice dO ys.length dc).ownBlock∨bs=[]:=by
    by_cases h0:bs=[]
    · exact .inr h0
    · left
      intro e
      obtain ⟨b',o',c',e1,_⟩:=hbs.pos (List.length_pos_iff.2 h0)
      have e2:inBlock (Value.slice bo bs.length bc)=some b':=by rw [e1]; rfl
      have:=hbo h0 b' e2
      have:=(own_base' hd b' (by rw [← e,e2])).1
      omega
  have hlt:=(Array.getElem?_eq_some_iff.1 hT).1
  have PU:Hid (∀ w1,Below w.heap.size w w1→Calls Tryz.prog 173 #[.slice uo xs.length uc,.slice bo bs.length bc] w1 fun e w'=>∃ v' zs,e=.returned v'∧w'.ownsRow base 37 1 v' zs.length (cellsOf .u64 zs)∧w1.grownBy w' (Value.slice uo xs.length uc).ownBlock∧Lim B64 zs∧Top zs∧val B64 zs=val B64 xs+val B64 bs∧(∀ k,v'.ownBlock=some k→(Value.slice uo xs.length uc).ownBlock=some k∨w1.heap.size≤k)) :=
    Lib.hid (fun w1 hb=>plus_any base _ xs bs _ w1 (own_other hu (grown_of_below hb none) (fun _ _ e=>by cases e)) lx tx (hbs.below hb) lb tb hne1 hxl hbl (Nat.le_trans hbase hb.size))
  have PD:Hid (∀ w1,Below w.heap.size w w1→Calls Tryz.prog 173 #[.slice dO ys.length dc,.slice bo bs.length bc] w1 fun e w'=>∃ v' zs,e=.returned v'∧w'.ownsRow base 37 1 v' zs.length (cellsOf .u64 zs)∧w1.grownBy w' (Value.slice dO ys.length dc).ownBlock∧Lim B64 zs∧Top zs∧val B64 zs=val B64 ys+val B64 bs∧(∀ k,v'.ownBlock=some k→(Value.slice dO ys.length dc).ownBlock=some k∨w1.heap.size≤k)) :=
    Lib.hid (fun w1 hb=>plus_any base _ ys bs _ w1 (own_other hd (grown_of_below hb none) (fun _ _ e=>by cases e)) ly ty (hbs.below hb) lb tb hne2 hyl hbl (Nat.le_trans hbase hb.size))
  obtain ⟨c0,c1,f0,f1,_⟩:=blk2 hT
  have HT:=Lib.hid hT; have HU:=Lib.hid hu; have HD:=Lib.hid hd; have HDIS:=Lib.hid hdis
  have gu:=tal_ne hu hT; have gd:=tal_ne hd hT
  have GU:=Lib.hid gu; have GD:=Lib.hid gd
  have LX:=Lib.hid (show Lim B64 xs∧Top xs∧val B64 xs=P∧Lim B64 ys∧Top ys∧val B64 ys=N∧val B64 bs=z.natAbs∧P≤m*HugeN∧N≤m*HugeN∧z.natAbs<HugeN from ⟨lx,tx,ex,ly,ty,ey,eb,hP,hN,hz⟩)
  clear hT hu hd hdis gu gd lx tx ex ly ty ey lb tb eb hP hN hz hne1 hne2 hbs hold hbo
  by_cases hs:sgn z=true
  · rw [hs,if_pos rfl,if_pos rfl]
    go_enter Tryz.func165,Tryz.ntmps165
    go_wp2
    obtain ⟨W,eW,h1,bel,hsz⟩:=alloc1 w (Obj.cells #[Value.slice bo bs.length bc,Value.bool true] 118)
    rw [eW]
    obtain ⟨b0,b1,_,_,_⟩:=blk2 h1
    have c0':=cell_to bel c0 hlt; have c1':=cell_to bel c1 hlt
    clear eW h1 c0 c1 f0 f1
    go_region_with (first | (go_at_call 173; refine (PD.out _ bel.drew).mono ?_; rintro e w' ⟨v',zs,rfl,ho,hg,hl,ht,hv,hat⟩; obtain ⟨a5,c5,rfl,_,_⟩:=own_shape ho; obtain ⟨k0,k1,g0,g1,_⟩:=blk2 ((hg.block g (Nat.lt_of_lt_of_le hlt bel.size) (fun e=>GD.out e.symm)).trans ((bel.block g hlt).trans HT.out))))
    all_goals
      go_end0
      obtain ⟨F1,F2,F3,F4,F5,F6,F7,F8,F9,F10⟩:=LX.out
      exact ⟨rfl,tal_step1 HT.out bel hbg hbase HU.out HD.out HDIS.out GU.out GD.out ⟨F1,F2,F3,F4,F5,F6,F8,F9,F10⟩ ‹World.grownBy _ _ _› ‹World.ownsRow _ _ _ _ _ _ _› ‹Lim B64 _› ‹Top _› (by rw [← F7]; assumption) ‹∀ k,_›⟩
  · obtain hs:sgn z=false:=by simpa using hs
    rw [hs,if_neg (by simp),if_neg (by simp)]
    go_enter Tryz.func165,Tryz.ntmps165
    go_wp2
    obtain ⟨W,eW,h1,bel,hsz⟩:=alloc1 w (Obj.cells #[Value.slice bo bs.length bc,Value.bool false] 118)
    rw [eW]
    obtain ⟨b0,b1,_,_,_⟩:=blk2 h1
    have c0':=cell_to bel c0 hlt; have c1':=cell_to bel c1 hlt
    clear eW h1 c0 c1 f0 f1
    go_region_with (first | (go_at_call 173; refine (PU.out _ bel.drew).mono ?_; rintro e w' ⟨v',zs,rfl,ho,hg,hl,ht,hv,hat⟩; obtain ⟨a5,c5,rfl,_,_⟩:=own_shape ho; obtain ⟨k0,k1,g0,g1,_⟩:=blk2 ((hg.block g (Nat.lt_of_lt_of_le hlt bel.size) (fun e=>GU.out e.symm)).trans ((bel.block g hlt).trans HT.out))))
    all_goals
      go_end0
      obtain ⟨F1,F2,F3,F4,F5,F6,F7,F8,F9,F10⟩:=LX.out
      exact ⟨rfl,tal_step0 HT.out bel hbg hbase HU.out HD.out HDIS.out GU.out GD.out ⟨F1,F2,F3,F4,F5,F6,F8,F9,F10⟩ ‹World.grownBy _ _ _› ‹World.ownsRow _ _ _ _ _ _ _› ‹Lim B64 _› ‹Top _› (by rw [← F7]; assumption) ‹∀ k,_›⟩
end Go.Proofs.YtacbkpenohcgjaaGreat
namespace Go.Proofs.YtacbkpenohcgjaaGreat
open Go.RowKit Mth
theorem Ow.away {w:World} {base n R j:Nat} {v x:Value} {cs:Array Value} {T:TypeId} (h:Ow w base v n) (hR:w.heap[R]?=some (.cells cs T (0,0))) (hT:T≠37):Ow (w.setCell ⟨R,j,none⟩ x) base v n:=by
  rcases h with h | ⟨g,cap,cur,xs,h0,h1,h2,h3⟩
  · exact .inl h
  · refine .inr ⟨g,cap,cur,xs,h0,(heap_setCell_other w ⟨R,j,none⟩ g x ?_).trans h1,h2,h3⟩
    intro e
    have e:g=R:=e
    subst e
    rw [h1] at hR
    simp only [Option.some.injEq,Obj.cells.injEq] at hR
    exact hT hR.2.1.symm
theorem Ow.away2 {w:World} {base n R:Nat} {v x y:Value} {cs:Array Value} {T:TypeId} (h:Ow w base v n) (hR:w.heap[R]?=some (.cells cs T (0,0))) (hT:T≠37):Ow ((w.setCell ⟨R,0,none⟩ x).setCell ⟨R,1,none⟩ y) base v n :=
  (h.away hR hT).away (heap_setCell_same w R 0 _ _ x hR) hT
theorem Ow.zero {w:World} {base n k c:Nat} {ao:Option Addr} (h:Ow w base (.slice ao k c) n):k=0↔n=0:=by
  obtain ⟨xs,h1,h2,h3,h4⟩:=h.sl
  obtain ⟨ao',c',e,_⟩:=h1
  simp only [Value.slice.injEq] at e
  obtain ⟨_,rfl,_⟩:=e
  rw [← h4,← nil_iff,trimL_of_top h3]
theorem tally_total (g base m P N:Nat) (w:World) (h:TalO w base g m P N) (hm:m≤16777216) (hbase:base≤w.heap.size) :
    Calls Tryz.prog 166 #[.pointer (some ⟨g,0,none⟩)] w fun e w'=>∃ v',e=.returned v'∧NuC w' base v' ((P:Int) - (N:Int))∧Below base w w':=by
  obtain ⟨u,d,xs,ys,hT,hu,hd,lx,tx,ex,ly,ty,ey,hdis,hP,hN⟩:=h
  obtain ⟨uo,uc,rfl,hc1,hc2⟩:=own_shape hu
  obtain ⟨dO,dc,rfl,hc3,hc4⟩:=own_shape hd
  have hxl:xs.length≤8000000:=by have:=len_huge tx (by rw [ex]; exact hP) (by omega); unfold Lm at this; omega
  have hyl:ys.length≤8000000:=by have:=len_huge ty (by rw [ey]; exact hN) (by omega); unfold Lm at this; omega
  have su:=sl_own hu (by omega); have sd:=sl_own hd (by omega)
  have hlt:=(Array.getElem?_eq_some_iff.1 hT).1
  have gu:=tal_ne hu hT; have gd:=tal_ne hd hT
  have CM:Hid (∀ w1 c,cmp3 P N=c→Below w.heap.size w w1→Calls Tryz.prog 101 #[.slice uo xs.length uc,.slice dO ys.length dc] w1 fun e w'=>e=.returned (.int .i64 c)∧Below w1.heap.size w1 w') :=
    Lib.hid (fun w1 c hc hb=>wcmp_any _ _ P N w1 ⟨xs,su.below hb,lx,tx,ex⟩ ⟨ys,sd.below hb,ly,ty,ey⟩ c hc)
  have LD:Hid (P<N→∀ w1,Below w.heap.size w w1→Calls Tryz.prog 174 #[.slice dO ys.length dc,.slice uo xs.length uc] w1 fun e w'=>∃ v',e=.returned v'∧Ow w' base v' (N - P)∧w1.grownBy w' (Value.slice dO ys.length dc).ownBlock) :=
    Lib.hid (fun hlt w1 hb=>by
      have:=less_any base _ ys xs _ w1 (own_other hd (grown_of_below hb none) (fun _ _ e=>by cases e)) ly (su.below hb) lx tx (by
        by_cases h0:xs=[]
        · exact .inr h0
        · left
          intro e
          rcases hu.2 with ⟨h1,_⟩ | ⟨g',cap,cur,h1,_⟩
          · simp only [Value.slice.injEq] at h1; exact h0 (List.eq_nil_of_length_eq_zero h1.2.1)
          · simp only [Value.slice.injEq] at h1
            obtain ⟨rfl,_⟩:=h1
            exact hdis g' rfl e.symm) (by omega) (by omega)
      rw [ex,ey] at this
      exact this)
  have LU:Hid (N≤P→∀ w1,Below w.heap.size w w1→Calls Tryz.prog 174 #[.slice uo xs.length uc,.slice dO ys.length dc] w1 fun e w'=>∃ v',e=.returned v'∧Ow w' base v' (P - N)∧w1.grownBy w' (Value.slice uo xs.length uc).ownBlock) :=
    Lib.hid (fun hle w1 hb=>by
      have:=less_any base _ xs ys _ w1 (own_other hu (grown_of_below hb none) (fun _ _ e=>by cases e)) lx (sd.below hb) ly ty (by
        by_cases h0:ys=[]
        · exact .inr h0
        · left
          intro e
          rcases hd.2 with ⟨h1,_⟩ | ⟨g',cap,cur,h1,_⟩
          · simp only [Value.slice.injEq] at h1; exact h0 (List.eq_nil_of_length_eq_zero h1.2.1)
          · simp only [Value.slice.injEq] at h1
            obtain ⟨rfl,_⟩:=h1
            exact hdis g' e.symm rfl) (by omega) (by omega)
      rw [ex,ey] at this
      exact this)
  have OU:Hid (∀ k,(Value.slice uo xs.length uc).ownBlock=some k→base≤k∧k<w.heap.size):=Lib.hid (fun k hk=>⟨(own_base' hu k hk).1,(own_base' hu k hk).2.1⟩)
  have OD:Hid (∀ k,(Value.slice dO ys.length dc).ownBlock=some k→base≤k∧k<w.heap.size):=Lib.hid (fun k hk=>⟨(own_base' hd k hk).1,(own_base' hd k hk).2.1⟩)
  obtain ⟨c0,c1,f0,f1,_⟩:=blk2 hT
  clear hT hu hd hdis gu gd lx tx ex ly ty ey hP hN su sd
  go_enter Tryz.func166,Tryz.ntmps166
  go_wp2
  obtain ⟨W,eW,h1,bel,hsz⟩:=alloc1 w (Obj.cells #[Value.slice none 0 0,Value.bool false] 118)
  rw [eW]
  have c0':=cell_to bel c0 hlt; have c1':=cell_to bel c1 hlt
  have H1:=Lib.hid h1
  clear eW h1 c0 c1 f0 f1
  go_still_tail 8,(by kernel_rfl)
  go_wp2_with fail
  by_cases hc:P<N
  · refine (CM.out _ (-1) (cmp_lt hc) bel.drew).mono ?_
    rintro e w1 ⟨rfl,hb1⟩
    have B1:=below_of bel.drew hb1
    have hgW:g<W.heap.size:=size_to bel hlt
    have c0'':=cell_to hb1 c0' hgW; have c1'':=cell_to hb1 c1' hgW
    have H2:=Lib.hid ((hb1.block _ hsz).trans H1.out)
    have hs1:w.heap.size<w1.heap.size:=size_to hb1 hsz
    clear c0' c1'
    go_wp2
    go_still_tail 8,(by kernel_rfl)
    go_wp2_with fail
    refine (LD.out hc _ B1.drew).mono ?_
    rintro e w2 ⟨v2,rfl,ho,hg⟩
    obtain ⟨a2,n2,c2,rfl⟩:=ho.shape
    have hz0:=ho.zero
    have HO:=Lib.hid ho
    have H3:=Lib.hid ((hg.block w.heap.size hs1 (fun e=>by have:=(OD.out _ e.symm).2; omega)).trans H2.out)
    have B2:Below base w w2:=(B1.drew.mono hbase).grown hg (Nat.le_trans hbase (Nat.le_of_lt hs1)) (fun k e=>(OD.out k e).1)
    have HB2:=Lib.hid B2
    have hs2:w.heap.size<w2.heap.size:=Nat.lt_of_lt_of_le hs1 hg.size
    clear ho hg B2 c0'' c1''
    go_wp2_with fail
    refine (signed_is _ _ _ _ _).mono ?_
    rintro e w3 ⟨rfl,hb3,_⟩
    have h3:=(hb3.block _ hs2).trans H3.out
    obtain ⟨k0,k1,g0,g1,_⟩:=blk2 h3
    have E:Hid ((true&&!((n2:Int) == 0))=sgn ((P:Int) - (N:Int))):=Lib.hid (by
      rw [sgn_neg (by omega)]
      have:((n2:Int) == 0)=false:=by rw [beq_eq_false_iff_ne]; omega
      rw [this]; rfl)
    rw [E.out]
    go_wp2
    refine bodyPost_ret (v:=.agg #[.slice a2 n2 c2,.bool (sgn ((P:Int) - (N:Int)))]) ?_ rfl ⟨_,rfl,⟨_,rfl, ?_⟩, ?_⟩
    · simp [results,Tryz.results166,go_sem, *]
    · rw [show ((P:Int) - (N:Int)).natAbs=N - P by omega]
      exact (HO.out.below hb3).away2 h3 (by decide)
    · exact ((HB2.out.trans (hb3.mono (Nat.le_trans hbase (Nat.le_of_lt hs2)))).setCell hbase _).setCell hbase _
  · obtain ⟨c,hcc,hcn⟩:∃ c:Int,cmp3 P N=c∧decide (c<0)=false:=by
      rcases Nat.lt_or_ge N P with h | h
      · exact ⟨1,cmp_gt h,rfl⟩
      · exact ⟨0,cmp_eq (by omega),rfl⟩
    refine (CM.out _ c hcc bel.drew).mono ?_
    rintro e w1 ⟨rfl,hb1⟩
    have B1:=below_of bel.drew hb1
    have hgW:g<W.heap.size:=size_to bel hlt
    have c0'':=cell_to hb1 c0' hgW; have c1'':=cell_to hb1 c1' hgW
    have H2:=Lib.hid ((hb1.block _ hsz).trans H1.out)
    have hs1:w.heap.size<w1.heap.size:=size_to hb1 hsz
    clear c0' c1'
    go_wp2
    go_still_tail 8,(by kernel_rfl)
    go_wp2_with fail
    refine (LU.out (by omega) _ B1.drew).mono ?_
    rintro e w2 ⟨v2,rfl,ho,hg⟩
    obtain ⟨a2,n2,c2,rfl⟩:=ho.shape
    have hz0:=ho.zero
    have HO:=Lib.hid ho
    have H3:=Lib.hid ((hg.block w.heap.size hs1 (fun e=>by have:=(OU.out _ e.symm).2; omega)).trans H2.out)
    have B2:Below base w w2:=(B1.drew.mono hbase).grown hg (Nat.le_trans hbase (Nat.le_of_lt hs1)) (fun k e=>(OU.out k e).1)
    have HB2:=Lib.hid B2
    have hs2:w.heap.size<w2.heap.size:=Nat.lt_of_lt_of_le hs1 hg.size
    clear ho hg B2 c0'' c1''
    go_wp2_with fail
    refine (signed_is _ _ _ _ _).mono ?_
    rintro e w3 ⟨rfl,hb3,_⟩
    have h3:=(hb3.block _ hs2).trans H3.out
    obtain ⟨k0,k1,g0,g1,_⟩:=blk2 h3
    have E:Hid ((false&&!((n2:Int) == 0))=sgn ((P:Int) - (N:Int))):=Lib.hid (by
      rw [sgn_pos (by omega)]; rfl)
    rw [E.out]
    go_wp2
    refine bodyPost_ret (v:=.agg #[.slice a2 n2 c2,.bool (sgn ((P:Int) - (N:Int)))]) ?_ rfl ⟨_,rfl,⟨_,rfl, ?_⟩, ?_⟩
    · simp [results,Tryz.results166,go_sem, *]
    · rw [show ((P:Int) - (N:Int)).natAbs=P - N by omega]
      exact (HO.out.below hb3).away2 h3 (by decide)
    · exact ((HB2.out.trans (hb3.mono (Nat.le_trans hbase (Nat.le_of_lt hs2)))).setCell hbase _).setCell hbase _
theorem tal_zero {w:World} {base g:Nat} (h:w.heap[g]?=some (.cells #[.slice none 0 0,.slice none 0 0] 168 (0,0))):TalO w base g 0 0 0 :=
  ⟨_,_,[],[],h,own_start w base,own_start w base,lim_nil (by have:=B64_pos; omega),rfl,rfl,lim_nil (by have:=B64_pos; omega),rfl,rfl,(fun k hk=>by cases hk),by omega,by omega⟩
end Go.Proofs.YtacbkpenohcgjaaGreat
namespace Go.Proofs.YtacbkpenohcgjaaGreat
open Go.RowKit Mth
theorem size_to' {W w1:World} {B k:Nat} (hb:Below B W w1) (h:k<W.heap.size):k<w1.heap.size:=Nat.lt_of_lt_of_le h hb.size
theorem sumOf_any (va vb:Value) (x y:Int) (w:World) (ha:NuV w va x) (hb:NuV w vb y) (hx:x.natAbs<HugeN) (hy:y.natAbs<HugeN) :
    Calls Tryz.prog 146 #[va,vb] w fun e w'=>∃ v',e=.returned v'∧NuC w' w.heap.size v' (x+y)∧Below w.heap.size w w':=by
  have HA:=Lib.hid ha; have HB:=Lib.hid hb; have HX:=Lib.hid hx; have HY:=Lib.hid hy
  have OA:=Lib.hid ha.hold; have OB:=Lib.hid hb.hold
  obtain ⟨a1,k1,c1,n1,rfl⟩:=ha.shape
  obtain ⟨a2,k2,c2,n2,rfl⟩:=hb.shape
  clear ha hb hx hy
  go_enter Tryz.func146,Tryz.ntmps146
  go_wp2_with fail
  obtain ⟨W,eW,h1,h2,h3,h4,bel,hsz⟩:=alloc4 w (Obj.cells #[Value.slice a1 k1 c1,Value.bool n1] 118) (Obj.cells #[Value.slice a2 k2 c2,Value.bool n2] 118) (Obj.cells #[Value.slice none 0 0,Value.bool false] 118) (Obj.cells #[Value.slice none 0 0,Value.slice none 0 0] 168)
  rw [eW]
  have T0:=tal_zero (base:=w.heap.size+3) h4
  have H2:=Lib.hid h2; have H3:=Lib.hid h3
  clear eW h1 h2 h3 h4
  refine (tally_add _ _ 0 0 0 _ x W T0 (HA.out.below bel) (fun hz u b k e hk=>by have:=OA.out hz u b k e hk; omega) HX.out (by omega) (Nat.le_refl _) (by omega)).mono ?_
  rintro e w1 ⟨rfl,T1,hb1⟩
  have B1:Below w.heap.size w w1:=bel.trans (hb1.mono (by omega))
  have HT1:=Lib.hid T1
  have h2:=(hb1.block (w.heap.size+1) (by omega)).trans H2.out
  obtain ⟨q0,q1,_,_,_⟩:=blk2 h2
  have hs1:w.heap.size+3<w1.heap.size:=size_to' hb1 hsz
  clear T0 T1 h2
  go_wp2_with fail
  refine (tally_add _ _ 1 _ _ _ y w1 HT1.out (HB.out.below B1) (fun hz u b k e hk=>by have:=OB.out hz u b k e hk; omega) HY.out (by omega) (Nat.le_refl _) (by omega)).mono ?_
  rintro e w2 ⟨rfl,T2,hb2⟩
  have HT2:=Lib.hid T2
  have hs2:w.heap.size+3<w2.heap.size:=size_to' hb2 hs1
  clear T2 q0 q1
  go_wp2_with fail
  refine (tally_total _ _ 2 _ _ w2 HT2.out (by omega) (by omega)).mono ?_
  rintro e w3 ⟨v3,rfl,hn,hb3⟩
  have HN:=Lib.hid hn
  obtain ⟨a3,k3,c3,n3,rfl⟩:=hn.shape
  have hR:=(hb3.block (w.heap.size+2) (by omega)).trans ((hb2.block (w.heap.size+2) (by omega)).trans ((hb1.block (w.heap.size+2) (by omega)).trans H3.out))
  obtain ⟨k0,k1',g0,g1,hlt⟩:=blk2 hR
  have BB:=Lib.hid ((B1.trans (hb2.mono (by omega))).trans (hb3.mono (by omega)))
  clear hn hR
  go_wp2
  refine bodyPost_ret (v:=.agg #[.slice a3 k3 c3,.bool n3]) ?_ rfl ⟨_,rfl, ?_,(BB.out.setCell (p:=⟨w.heap.size+2,0,none⟩) (Nat.le_add_right _ _) _).setCell (p:=⟨w.heap.size+2,1,none⟩) (Nat.le_add_right _ _) _⟩
  · simp [results,Tryz.results146,go_sem, *]
  · have:=(HN.out.far (j:=0) (x:=.slice a3 k3 c3) (show w.heap.size+2<w.heap.size+3 by omega)).far (j:=1) (x:=.bool n3) (show w.heap.size+2<w.heap.size+3 by omega)
    have e:((0+(if sgn x=true then 0 else x.natAbs)+(if sgn y=true then 0 else y.natAbs):Nat):Int) - ((0+(if sgn x=true then x.natAbs else 0)+(if sgn y=true then y.natAbs else 0):Nat):Int)=x+y:=by
      cases hx:sgn x<;>cases hy:sgn y<;>simp<;>(first | have:=of_sgn_true hx | have:=of_sgn_false hx)<;>(first | have:=of_sgn_true hy | have:=of_sgn_false hy)<;>omega
    rw [e] at this
    exact this.mono (by omega)
end Go.Proofs.YtacbkpenohcgjaaGreat
namespace Go.Proofs.YtacbkpenohcgjaaGreat
open Go.RowKit Mth
theorem limbs_same (ao:Option Addr) (n c:Nat) (w:World):Calls Tryz.prog 143 #[.slice ao n c] w fun e w'=>e=.returned (.slice ao n c)∧w'=w:=(limbs_is ao n c w).mono fun _ _ ⟨h1,h2⟩=>⟨h1,h2.symm⟩
theorem Ow.long {w:World} {base n k c:Nat} {ao:Option Addr} (h:Ow w base (.slice ao k c) n):4096<k↔Big≤n:=by
  obtain ⟨xs,h1,h2,h3,h4⟩:=h.sl
  obtain ⟨ao',c',e,_⟩:=h1
  simp only [Value.slice.injEq] at e
  obtain ⟨_,rfl,_⟩:=e
  rw [← h4,← long_iff h2,trimL_of_top h3]
theorem answer_number (base:Nat) (v:Value) (z:Int) (w:World) (h:NuC w base v z) (hbase:base≤w.heap.size) :
    Calls Tryz.prog 148 #[v] w fun e w'=>∃ v',e=.returned (.tuple #[v',.int .i64 (zE z)])∧IntC w' base v' (zN z)∧Below w.heap.size w w':=by
  obtain ⟨u,rfl,ho⟩:=h
  obtain ⟨ao,k,c,rfl⟩:=ho.shape
  have hl:=ho.long
  have hz:=ho.zero
  have HO:=Lib.hid ho
  clear ho
  by_cases h1:4096<k
  · have E:=Lib.hid (z_big (hl.1 h1))
    have hd:decide ((4096:Int)<(k:Int))=true:=decide_eq_true (by omega)
    clear hl hz
    go_enter Tryz.func148,Tryz.ntmps148
    go_wp2_with fail
    refine (long_is _ _ _ _).mono ?_
    rintro e w' ⟨rfl,rfl⟩
    go_wp2
    rw [E.out.1,E.out.2]
    refine bodyPost_ret (v:=.tuple #[.agg #[.bool false,.slice none 0 0],.int .i64 5]) ?_ rfl ⟨_,rfl,⟨_,rfl,ow_nil _ _⟩,((Below.refl _ _).alloc (Nat.le_refl _) _).alloc (by simp) _⟩
    simp [results,Tryz.results148,go_sem]
  · have E:=Lib.hid (z_fine (Nat.lt_of_not_le fun h=>h1 (hl.2 h)))
    have hd:decide ((4096:Int)<(k:Int))=false:=decide_eq_false (by omega)
    by_cases h0:k=0
    · have hd0:((k:Int) == 0)=true:=by rw [h0]; rfl
      have Z0:Hid (z=0):=Lib.hid (by have:=hz.1 h0; omega)
      clear hl hz h0 h1
      go_enter Tryz.func148,Tryz.ntmps148
      go_wp2_with fail
      refine (long_is _ _ _ _).mono ?_
      rintro e w' ⟨rfl,rfl⟩
      go_wp2_with fail
      refine (zero_is _ _ _ _).mono ?_
      rintro e w' ⟨rfl,rfl⟩
      go_wp2
      rw [E.out.1,E.out.2]
      have z0:=Z0.out
      subst z0
      refine bodyPost_ret (v:=.tuple #[.agg #[.bool false,.slice none 0 0],.int .i64 0]) ?_ rfl ⟨_,rfl,⟨_,rfl,ow_nil _ _⟩,((Below.refl _ _).alloc (Nat.le_refl _) _).alloc (by simp) _⟩
      simp [results,Tryz.results148,go_sem]
    · have hd0:((k:Int) == 0)=false:=by rw [beq_eq_false_iff_ne]; omega
      clear hl hz h0 h1
      go_enter Tryz.func148,Tryz.ntmps148
      go_wp2_with fail
      refine (long_is _ _ _ _).mono ?_
      rintro e w' ⟨rfl,rfl⟩
      go_wp2_with fail
      refine (zero_is _ _ _ _).mono ?_
      rintro e w' ⟨rfl,rfl⟩
      go_wp2
      obtain ⟨W,eW,b1,b2,bel,hsz⟩:=alloc2 w (Obj.cells #[Value.slice ao k c,Value.bool (sgn z)] 118) (Obj.cells #[Value.bool false,Value.slice none 0 0] 50)
      rw [eW]
      obtain ⟨c0,c1,_,_,_⟩:=blk2 b1
      obtain ⟨k0,k1,g0,g1,_⟩:=blk2 b2
      have H2:=Lib.hid b2
      clear eW b1 b2
      go_still_tail 5,(by kernel_rfl)
      still_call (limbs_same _ _ _ _)
      repeat still_step
      refine wpStill_nil ?_
      go_wp2
      rw [E.out.1,E.out.2]
      refine bodyPost_ret (v:=.tuple #[.agg #[.bool (sgn z),.slice ao k c],.int .i64 0]) ?_ rfl ⟨_,rfl,⟨_,rfl, ?_⟩,(bel.drew.setCell (p:=⟨w.heap.size+1,0,none⟩) (Nat.le_add_right _ _) _).setCell (p:=⟨w.heap.size+1,1,none⟩) (Nat.le_add_right _ _) _⟩
      · simp [results,Tryz.results148,go_sem, *]
      · exact Ow.away2 (HO.out.below bel.drew) (w:=W.drew) H2.out (by decide)
end Go.Proofs.YtacbkpenohcgjaaGreat
