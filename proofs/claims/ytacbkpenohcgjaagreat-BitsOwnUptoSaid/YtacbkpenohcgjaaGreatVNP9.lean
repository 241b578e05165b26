import Derived.Test.YtacbkpenohcgjaaGreatVPA
import Derived.Test.YtacbkpenohcgjaaGreatVNT9
import Derived.Test.YtacbkpenohcgjaaGreatVNB9
import Derived.Test.YtacbkpenohcgjaaGreatVN4
import Derived.IntWalk
import Derived.Test.YtacbkpenohcgjaaGreatShelf
import Derived.Test.YtacbkpenohcgjaaGreatVNA9
set_option linter.unusedVariables false
set_option linter.unusedSimpArgs false
set_option maxHeartbeats 8000000
set_option maxRecDepth 100000
namespace Go.Proofs.YtacbkpenohcgjaaGreat
open Go.RowKit Mth
end Go.Proofs.YtacbkpenohcgjaaGreat
namespace Go.Proofs.YtacbkpenohcgjaaGreat
open Go.RowKit Mth
end Go.Proofs.YtacbkpenohcgjaaGreat
namespace Go.Proofs.YtacbkpenohcgjaaGreat
open Go.RowKit Mth
def bitsN:List Bool→Nat
  | []=>0
  | b :: l=>b.toNat+2*bitsN l
theorem bitsN_app:∀ (l m:List Bool),bitsN (l++m)=bitsN l+2 ^ l.length*bitsN m
  | [],m=>by simp [bitsN]
  | b :: l,m=>by
    simp only [List.cons_append,bitsN,bitsN_app l m,List.length_cons,Nat.pow_succ]
    rw [Nat.mul_add,show 2*(2 ^ l.length*bitsN m)=2 ^ l.length*2*bitsN m by rw [Nat.mul_left_comm,Nat.mul_assoc]]
    omega
theorem bitsN_lt:∀ (l:List Bool),bitsN l<2 ^ l.length
  | []=>by simp [bitsN]
  | b :: l=>by
    have h:=bitsN_lt l
    have hb:b.toNat≤1:=Bool.toNat_le b
    simp only [bitsN,List.length_cons,Nat.pow_succ]
    omega
theorem bitsN_take {l:List Bool} {k:Nat} (h:k<l.length):bitsN (l.take (k+1))=bitsN (l.take k)+2 ^ k*(l[k]).toNat:=by
  rw [List.take_add_one,List.getElem?_eq_getElem h,bitsN_app,List.length_take,Nat.min_eq_left (by omega)]
  simp [bitsN]
def BoL (w:World) (v:Value) (l:List Bool):Prop:=∃ ao cap,v=.slice ao l.length cap∧(0<l.length→∃ b off,ao=some ⟨b,off,none⟩∧b<w.heap.size∧∀ i (h:i<l.length),w.cell? ⟨b,off+i,none⟩=some (.bool l[i]))
theorem BoL.below {w w':World} {v:Value} {l:List Bool} (h:BoL w v l) (hb:Below w.heap.size w w'):BoL w' v l:=by
  obtain ⟨ao,cap,rfl,h⟩:=h
  refine ⟨ao,cap,rfl,fun hp=>?_⟩
  obtain ⟨b,off,rfl,hlt,h⟩:=h hp
  exact ⟨b,off,rfl,Nat.lt_of_lt_of_le hlt hb.size,fun i hi=>(hb.cell (p:=⟨b,off+i,none⟩) hlt).trans (h i hi)⟩
structure MkI (l:List Bool) (zs:List Nat) (k m:Nat):Prop where
  len:zs.length=m
  lim:Lim B64 zs
  val:val B64 zs=bitsN (l.take k)
theorem mk_start (l:List Bool) (m:Nat):MkI l (List.replicate m 0) 0 m:=⟨by simp,fun j=>by rw [getD_replicate]; have:=B64_pos; omega,by rw [val_reps]; simp [bitsN]⟩
theorem mk_limb {l:List Bool} {zs:List Nat} {k m q r:Nat} (h:MkI l zs k m) (hk:k≤l.length) (hqr:k=64*q+r) (hq:q<m):zs.getD q 0<2 ^ r:=by
  have h1:val B64 zs<2 ^ k:=by
    rw [h.val]
    have:=bitsN_lt (l.take k)
    rwa [List.length_take,Nat.min_eq_left hk] at this
  have h2:=val_set B64 zs q (by rw [h.len]; exact hq) 0
  rw [Nat.mul_zero,Nat.add_zero] at h2
  have h3:B64 ^ q*zs.getD q 0<B64 ^ q*2 ^ r:=by
    have e:(2:Nat) ^ k=B64 ^ q*2 ^ r:=by rw [b64_two,← Nat.pow_add,hqr]
    omega
  exact Nat.lt_of_mul_lt_mul_left h3
theorem mk_step {l:List Bool} {zs:List Nat} {k m q r:Nat} (h:MkI l zs k m) (hk:k<l.length) (hb:l[k]=true) (hqr:k=64*q+r) (hr:r<64) (hq:q<m):MkI l (zs.set q (zs.getD q 0+2 ^ r)) (k+1) m:=by
  have hx:=mk_limb h (by omega) hqr hq
  have h1:=val_set B64 zs q (by rw [h.len]; exact hq) (zs.getD q 0+2 ^ r)
  have e:(2:Nat) ^ k=B64 ^ q*2 ^ r:=by rw [b64_two,← Nat.pow_add,hqr]
  have h64:2 ^ (r+1)≤B64:=by
    unfold B64
    rw [show (18446744073709551616:Nat)=2 ^ 64 by rfl]
    exact Nat.pow_le_pow_right (by omega) (by omega)
  rw [Nat.pow_succ] at h64
  refine ⟨by rw [List.length_set,h.len],lim_set h.lim (by omega) q, ?_⟩
  rw [bitsN_take hk,hb,← h.val,e]
  rw [Nat.mul_add] at h1
  simp only [Bool.toNat_true,Nat.mul_one]
  omega
theorem mk_skip {l:List Bool} {zs:List Nat} {k m:Nat} (h:MkI l zs k m) (hk:k<l.length) (hb:l[k]=false):MkI l zs (k+1) m :=
  ⟨h.len,h.lim,by rw [bitsN_take hk,hb,h.val]; simp⟩
def MkO (W wr:World) (l:List Bool) (m:Nat) (iv:Value):Prop:=∃ (k:Nat) (zs:List Nat),k≤l.length∧iv=.int .i64 (k:Int)∧MkI l zs k m∧Row wr 37 .u64 W.heap.size zs∧Below W.heap.size W wr
theorem results_b1 {fn:Func} {tmps:Array Value} {w:World} {g:Nat} {x0 x1:Value} {t:Nat} (h:fn.results=#[.cell t 28]) (h1:tmps.getD t undef=.pointer (some ⟨g,0,none⟩)) (hb:w.heap[g]?=some (.cells #[x0,x1] 28 (0,0))) :
    (results fn tmps).run Tryz.prog w=.ok (.agg #[x0,x1]) w:=by
  obtain ⟨c0,c1,_⟩:=blk2 hb
  rw [Array.getD_eq_getD_getElem?] at h1
  simp [results,h,h1,go_sem,c0,c1]
end Go.Proofs.YtacbkpenohcgjaaGreat
namespace Go.Proofs.YtacbkpenohcgjaaGreat
open Go.RowKit Mth
theorem make9_any (v:Value) (l:List Bool) (hl:l.length≤65536) (w:World) (h:BoL w v l) :
    Calls Tryz.prog 17 #[v] w fun e w'=>ResV w w' e (l.length:Int) (bitsN l):=by
  obtain ⟨ao,cap,rfl,hc⟩:=h
  obtain ⟨m,hm⟩:∃ m,(l.length+63) / 64=m:=⟨_,rfl⟩
  have hmI:((l.length:Int)+63) / 64=(m:Int):=by omega
  have hmT:((l.length:Int)+63).tdiv 64=(m:Int):=by rw [Int.tdiv_eq_ediv_of_nonneg (by omega),hmI]
  obtain ⟨W,eW,gW,bW,hWs⟩:=alloc1n w (Obj.cells #[.int .i64 0,.slice none 0 0] 28)
  have HC:Hid (∀ wr,Below W.heap.size W wr→∀ i (hi:i<l.length),∃ b off,ao=some ⟨b,off,none⟩∧wr.cell? ⟨b,off+i,none⟩=some (.bool l[i])):=Lib.hid (fun wr hb i hi=>by
    obtain ⟨b,off,rfl,hlt,h⟩:=hc (by omega)
    have hlt2:b<W.heap.size:=by omega
    exact ⟨b,off,rfl,(hb.cell (p:=⟨b,off+i,none⟩) hlt2).trans ((bW.cell (p:=⟨b,off+i,none⟩) hlt).trans (h i hi))⟩)
  have MS:=Lib.hid (mk_start l m)
  have HM:=Lib.hid hm
  have NO:Hid (∀ va w1,IntV w1 va ((bitsN l:Nat):Int)→Calls Tryz.prog 33 #[va] w1 fun e w'=>∃ a k c,e=.returned (.agg #[.bool false,.slice a k c])∧SlN w' a k c (bitsN l)∧Below w1.heap.size w1 w'):=Lib.hid (fun va w1 hv=>(rnorm_any va _ w1 hv).mono fun e w' ⟨v',he,hi,hb⟩=>by
    obtain ⟨a,k,c,rfl,hs⟩:=hi.slN
    exact ⟨a,k,c,he,hs,hb⟩)
  have GW:=Lib.hid gW; have BW:=Lib.hid bW; have EW:=Lib.hid eW
  have hlen0:(l.length:Int)≤65536:=by omega
  have hm2:m≤1025:=by omega
  clear hc gW bW eW hm
  go_enter Tryz.func17,Tryz.ntmps17
  go_upto_region 1 with fail
  try rw [EW.out]
  go_wp2_with (first | (refine make_nat rfl _ _ rfl _ _ m rfl rfl (by omega) (by omega) (by omega) ?_; intro w2 hr2 hb2; have HR2:=Lib.hid hr2; have HB2:=Lib.hid hb2; clear hr2 hb2))
  go_loopw [4] (fun i wr=>MkO W wr l m i) (fun i _=>l.length - (intOf i).toNat)
  case atStart=>exact ⟨0,_,Nat.zero_le _,rfl,MS.out,HR2.out,HB2.out⟩
  case round =>
    obtain ⟨k,zs,hk,rfl,hN,hR,hB⟩:=hrel
    have HN:=Lib.hid hN; have HR:=Lib.hid hR; have HB:=Lib.hid hB
    clear hN hR hB
    by_cases hlt:k<l.length
    · obtain ⟨b,off,rfl,c0⟩:=HC.out _ HB.out k hlt
      obtain ⟨q,r,hqr,hr⟩:∃ q r,k=64*q+r∧r<64:=⟨k / 64,k % 64,by omega,by omega⟩
      have hq64:(k:Int) / 64=(q:Int):=by omega
      have hr64:(k:Int) % 64=(r:Int):=by omega
      have hqm:q<m:=by have:=HM.out; omega
      cases hb:l[k]
      · rw [hb] at c0
        have NS:=Lib.hid (mk_skip HN.out hlt hb)
        clear hb hqr hq64 hr64
        go_wp2_with fail
        go_roundw
        case rel=>exact ⟨k+1,zs,hlt,rfl,NS.out,HR.out,HB.out⟩
        case measure=>simp [intOf]; omega
      · rw [hb] at c0
        have NS:=Lib.hid (mk_step HN.out hlt hb hqr hr hqm)
        have hx:=mk_limb HN.out (by omega) hqr hqm
        have hlz:=HN.out.len
        have c1:=HR.out.cell (j:=q) (by omega)
        have f1:=HR.out.free q
        have hlx:zs.getD q 0<B64:=HN.out.lim q
        have h2r:2 ^ r<B64:=by
          unfold B64
          rw [show (18446744073709551616:Nat)=2 ^ 64 by rfl]
          exact Nat.pow_lt_pow_right (by omega) hr
        have hsh:IntKind.u64.wrap ((1:Int)*2 ^ r)=((2 ^ r:Nat):Int):=by
          have:=shl_u64 1 r
          rw [Nat.one_mul,Nat.mod_eq_of_lt h2r] at this
          exact this
        have hsh':IntKind.u64.wrap ((2:Int) ^ r)=((2 ^ r:Nat):Int):=by rw [Int.one_mul] at hsh; exact hsh
        have hor:bits BinOp.or IntKind.u64 ((zs.getD q 0:Nat):Int) ((2 ^ r:Nat):Int)=((zs.getD q 0+2 ^ r:Nat):Int):=by
          rw [u64_or_nat _ _ hlx h2r,Nat.or_comm]
          have:=Nat.two_pow_add_eq_or_of_lt hx 1
          rw [Nat.mul_one] at this
          rw [← this,Nat.add_comm]
        have RS:=Lib.hid (HR.out.set q (zs.getD q 0+2 ^ r)).1
        generalize zs.getD q 0+2 ^ r=y at *
        generalize zs.getD q 0=x at *
        generalize (2:Nat) ^ r=t at *
        clear hb hqr hx hlx h2r
        go_wp2_with fail
        go_roundw
        case rel=>exact ⟨k+1,_,hlt,rfl,NS.out,RS.out,HB.out.setCell (Nat.le_refl _) _⟩
        case measure=>simp [intOf]; omega
    · obtain rfl:k=l.length:=by omega
      have hzl:=HN.out.len
      have hv:=HN.out.val
      rw [List.take_length] at hv
      have hsl:=HR.out.sl_all (by omega)
      rw [hzl] at hsl
      have NN:=Lib.hid (NO.out _ wr (intV_of hsl HN.out.lim (by omega) hv))
      have GR0:=Lib.hid (car HB.out GW.out)
      clear hzl hv hsl
      go_wp2_with fail
      refine NN.out.mono ?_
      rintro e w3 ⟨a,k3,c,rfl,hs,hb⟩
      have S3:=Lib.hid hs
      have GR:=Lib.hid (car hb GR0.out)
      have B3:=Lib.hid (below_of (below_of BW.out HB.out) hb)
      obtain ⟨q0,q1,r0,r1,_⟩:=blk2 GR.out
      clear hs hb
      have hfl:=field1_int
      go_wp2_with fail
      exact bodyPost_ret (results_b1 rfl rfl (set2_row _ _ GR.out)) rfl ⟨_,_,_,rfl,S3.out.far GR.out ns_u64,(B3.out.setCell (Nat.le_refl _) _).setCell (Nat.le_refl _) _⟩
end Go.Proofs.YtacbkpenohcgjaaGreat
namespace Go.Proofs.YtacbkpenohcgjaaGreat
open Go.RowKit Mth
def bcells (l:List Bool):List Value:=l.map Value.bool
theorem info_b1:(Tryz.prog.info? 4).map (fun i=>(i.zero,i.size,i.bytes))=some (some (.bool false),1,1):=by kernel_rfl
theorem append_bool {w:World} {ops:Array Oper} {rest:List Oper} {o:Oper} {a:Act} {Q:Exit→Act→World→Prop} (hgd:o.guard=none) (s x:Operand)
    (ho:o.op=.call { callee:=.builtin .append,args:=#[s,x],argTypes:=#[53,53] }) (base:Nat) (v:Value) (xs:List Bool) (y:Bool) (ad:Addr)
    (hs:a.eval s=v) (hx:a.eval x=.slice (some ad) 1 1) (hown:w.ownsRow base 4 1 v xs.length (bcells xs)) (hc:w.cell? ad=some (.bool y)) (hlen:xs.length≤16777216) (hbase:base≤w.heap.size)
    (h:∀ v' w',w'.ownsRow base 4 1 v' (xs++[y]).length (bcells (xs++[y]))→w.grownBy w' v.ownBlock→wpList Tryz.prog ops Q rest (a.put o.dst v') w'):wpList Tryz.prog ops Q (o :: rest) a w:=by
  obtain ⟨i0,hi,hz0,hz1,hz2⟩:=info_parts info_b1
  refine wpList_append_own w hgd s x 53 ho base 4 i0 _ 1 1 Tryz.underlying53 hi hz0 hz1 hz2 rfl (by decide) v _ _ hs hown ad 1 1 [.bool y] hx rfl ?_ ?_
    (by unfold maxLen; omega) (by omega) hbase ?_
  · intro j u hj
    match j,hj with
    | 0,hj=>simp at hj; subst hj; simpa [Addr.add] using hc
  · intro u hu
    simp at hu; subst hu; rfl
  · intro v' w' h2 h3 _
    refine h v' w' ?_ h3
    unfold bcells
    rw [List.map_append,List.length_append]
    exact h2
def digB (n k:Nat):List Bool:=(List.range k).map fun j=>decide (n / 2 ^ j % 2=1)
theorem digB_succ (n k:Nat):digB n (k+1)=digB n k++[decide (n / 2 ^ k % 2=1)]:=by unfold digB; rw [List.range_succ,List.map_append]; rfl
theorem digB_len (n k:Nat):(digB n k).length=k:=by unfold digB; simp
theorem bits_digB (n:Nat):∀ k,bitsN (digB n k)=n % 2 ^ k
  | 0=>by simp [digB,bitsN,Nat.mod_one]
  | k+1=>by
    rw [digB_succ,bitsN_app,bits_digB n k,digB_len,Nat.pow_succ,Nat.mod_mul]
    have h:=Nat.mod_two_eq_zero_or_one (n / 2 ^ k)
    rcases h with h | h<;>simp [bitsN,h]
theorem own_bol {w:World} {base:Nat} {v:Value} {l:List Bool} (h:w.ownsRow base 4 1 v l.length (bcells l)):BoL w v l:=by
  obtain ⟨_,hh⟩:=h
  rcases hh with ⟨rfl,h0⟩ | ⟨g,cap,cur,rfl,hb,hg,hnc,hcm,hcs,htake⟩
  · have:l=[]:=List.eq_nil_of_length_eq_zero h0
    subst this
    exact ⟨none,0,rfl,fun hp=>absurd hp (by simp)⟩
  · refine ⟨some ⟨g,0,none⟩,cap,rfl,fun _=>⟨g,0,rfl,(Array.getElem?_eq_some_iff.1 hg).1,fun j hj=>?_⟩⟩
    rw [Nat.zero_add,cell_of_row w g j cur 4 (0,0) hg]
    have:(bcells l)[j]?=some (.bool l[j]):=by unfold bcells; rw [List.getElem?_map,List.getElem?_eq_getElem hj]; rfl
    rw [← htake,List.getElem?_take,if_pos (by omega)] at this
    simpa using this
end Go.Proofs.YtacbkpenohcgjaaGreat
