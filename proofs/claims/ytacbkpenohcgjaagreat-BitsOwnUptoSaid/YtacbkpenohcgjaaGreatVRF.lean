import Derived.Test.YtacbkpenohcgjaaGreatVSM
import Derived.Laws.BitsAllLaws
import Derived.RegionTactic
import Derived.BigRegion
import Derived.Deep.QuietTactic
import Derived.BigQuiet
import Derived.Test.YtacbkpenohcgjaaGreatVMA
import Derived.Test.YtacbkpenohcgjaaGreatVMB
import Derived.WalkLawsBesides
set_option linter.unusedVariables false
set_option linter.unusedSimpArgs false
set_option maxHeartbeats 2000000
set_option maxRecDepth 100000
namespace Go.Proofs.YtacbkpenohcgjaaGreat
open Go.RowKit Mth
def lenOf:Value→Nat | .slice _ n _=>n | _=>0
theorem and_hf (a:Nat):bits BinOp.and IntKind.u32 ((a:Int) % 4294967296) 65535=((a % 65536:Nat):Int):=by
  have h:=u32_and_nat (a % 4294967296) 65535 (by omega) (by omega)
  rw [show ((65535:Nat):Int)=65535 from rfl,Int.natCast_emod] at h
  rw [show ((4294967296:Nat):Int)=4294967296 from rfl] at h
  rw [h,show (65535:Nat)=2 ^ 16 - 1 from rfl,Nat.and_two_pow_sub_one_eq_mod]
  congr 1
  omega
theorem hf0 (x:Nat):bits BinOp.and IntKind.u32 ((x:Int) % 4294967296) 65535=((hf x 0:Nat):Int):=by rw [and_hf]; simp [hf]
theorem hf1 (x:Nat):bits BinOp.and IntKind.u32 ((x:Int) / 65536 % 4294967296) 65535=((hf x 1:Nat):Int):=by
  have:=and_hf (x / 65536)
  rw [Int.natCast_ediv] at this
  exact this
theorem hf2 (x:Nat):bits BinOp.and IntKind.u32 ((x:Int) / 4294967296 % 4294967296) 65535=((hf x 2:Nat):Int):=by
  have:=and_hf (x / 4294967296)
  rw [Int.natCast_ediv] at this
  exact this
theorem hf3 (x:Nat):bits BinOp.and IntKind.u32 ((x:Int) / 281474976710656 % 4294967296) 65535=((hf x 3:Nat):Int):=by
  have:=and_hf (x / 281474976710656)
  rw [Int.natCast_ediv] at this
  exact this
def FromO (w wr:World) (xs:List Nat) (v i:Value):Prop:=∃ k:Nat,k≤xs.length∧i=.int .i64 k∧wr.ownsRow w.heap.size 108 1 v (halves (xs.take k)).length (cellsOf .u32 (halves (xs.take k)))∧Below w.heap.size w wr
def FromI (w wr:World) (hs:List Nat) (x:Nat) (v i:Value):Prop:=∃ m:Nat,m≤4∧i=.int .i64 m∧wr.ownsRow w.heap.size 108 1 v (hs++(quad x).take m).length (cellsOf .u32 (hs++(quad x).take m))∧Below w.heap.size w wr
end Go.Proofs.YtacbkpenohcgjaaGreat
namespace Go.Proofs.YtacbkpenohcgjaaGreat
open Go.RowKit Mth
end Go.Proofs.YtacbkpenohcgjaaGreat
namespace Go.Proofs.YtacbkpenohcgjaaGreat
open Go.RowKit Mth
theorem bdrawn {B:Nat} {a w:World} (h:Below B a w) (n:Nat):Below B a (w.drewN n):=⟨h.os,h.tape,h.output,h.size,h.block⟩
def smallV (n:Nat):Nat:=if n<B64 then n else 0
def smallB (n:Nat):Bool:=decide (n<B64)
theorem small_zero:smallV 0=0∧smallB 0=true:=by unfold smallV smallB B64; exact ⟨rfl,rfl⟩
theorem small_one {x:Nat} (h:Lim B64 [x]):smallV (val B64 [x])=x∧smallB (val B64 [x])=true:=by
  have:x<B64:=(lim_cons.1 h).1
  have e:val B64 [x]=x:=by simp [val]
  rw [e]
  exact ⟨if_pos this,decide_eq_true this⟩
theorem small_many {xs:List Nat} (ht:Top xs) (h:1<xs.length):smallV (val B64 xs)=0∧smallB (val B64 xs)=false:=by
  have h1:=val_ge_top (B:=B64) ht (by omega)
  have h2:B64 ^ 1≤B64 ^ (xs.length - 1):=Nat.pow_le_pow_right (by have:=B64_pos; omega) (by omega)
  rw [Nat.pow_one] at h2
  exact ⟨if_neg (by omega),decide_eq_false (by omega)⟩
theorem list_one {xs:List Nat} (h:xs.length=1):xs=[xs.getD 0 0]:=by
  match xs,h with
  | [x],_=>rfl
theorem small_any (v:Value) (xs:List Nat) (w:World) (h:Sl w .u64 v xs) (hl:Lim B64 xs) :
    Calls Tryz.prog 156 #[v] w fun e w'=>e=.returned (.tuple #[.int .u64 ((smallV (val B64 xs):Nat):Int),.bool (smallB (val B64 xs))])∧Below w.heap.size w w':=by
  have HS:=Lib.hid h; clear h
  have hlt:=lim_trimL hl
  have htop:=top_trimL xs
  have hv:val B64 (trimL xs)=val B64 xs:=val_trimL _ _
  rw [← hv]
  have tr:=trim_any HS.out
  generalize trimL xs=ts at *
  have TR:=Lib.hid tr
  clear tr hv
  by_cases h0:ts.length=0
  · obtain rfl:ts=[]:=List.eq_nil_of_length_eq_zero h0
    have E:=Lib.hid small_zero
    clear h0 hlt htop hl
    go_enter Tryz.func156,Tryz.ntmps156
    go_wp2_with fail
    refine TR.out.mono ?_
    rintro e w' ⟨v',rfl,hs',rfl⟩
    obtain ⟨a2,c2,rfl⟩:=hs'.shape
    go_wp2
    go_ret2
    exact ⟨by rw [show val B64 []=0 from rfl,E.out.1,E.out.2]; rfl,Below.refl _ _⟩
  · by_cases h1:ts.length=1
    · have e1:=list_one h1
      generalize ts.getD 0 0=x at e1
      subst e1
      have E:=Lib.hid (small_one hlt)
      clear h0 h1 hlt htop hl
      go_enter Tryz.func156,Tryz.ntmps156
      go_wp2_with fail
      refine TR.out.mono ?_
      rintro e w' ⟨v',rfl,hs',rfl⟩
      obtain ⟨b,off,cap,rfl,k1,k2,k3,hc⟩:=hs'.pos (by simp)
      have hc0:=hc 0 (by simp)
      clear hc
      unfold maxLen at k2
      simp only [Nat.add_zero,List.length_singleton,List.getD_cons_zero] at *
      go_wp2
      go_ret2
      exact ⟨by rw [E.out.1,E.out.2]; rfl,Below.refl _ _⟩
    · have E:=Lib.hid (small_many htop (by omega))
      have hd0:=len_ne h0
      have hd1:((ts.length:Int) == 1)=false:=beq_eq_false_iff_ne.2 (by omega)
      clear h0 h1 hlt htop hl
      go_enter Tryz.func156,Tryz.ntmps156
      go_wp2_with fail
      refine TR.out.mono ?_
      rintro e w' ⟨v',rfl,hs',rfl⟩
      obtain ⟨a2,c2,rfl⟩:=hs'.shape
      go_wp2
      go_ret2
      exact ⟨by rw [E.out.1,E.out.2]; rfl,Below.refl _ _⟩
end Go.Proofs.YtacbkpenohcgjaaGreat
namespace Go.Proofs.YtacbkpenohcgjaaGreat
open Go.RowKit Mth
theorem cmp_lt {a b:Nat} (h:a<b):cmp3 a b=-1:=if_pos h
theorem cmp_gt {a b:Nat} (h:b<a):cmp3 a b=1:=by unfold cmp3; rw [if_neg (by omega),if_pos h]
theorem cmp_eq {a b:Nat} (h:a=b):cmp3 a b=0:=by unfold cmp3; rw [if_neg (by omega),if_neg (by omega)]
theorem cmp_any (v1 v2:Value) (xs ys:List Nat) (w:World) (h1:Sl w .u64 v1 xs) (h2:Sl w .u64 v2 ys) (l1:Lim B64 xs) (l2:Lim B64 ys) :
    Calls Tryz.prog 142 #[v1,v2] w fun e w'=>e=.returned (.int .i64 (cmp3 (val B64 xs) (val B64 ys)))∧Below w.heap.size w w':=by
  have T1:=trim_any h1
  have T2:=trim_any h2
  have k1:=lim_trimL l1; have k2:=lim_trimL l2
  have p1:=top_trimL xs; have p2:=top_trimL ys
  have e1:val B64 (trimL xs)=val B64 xs:=val_trimL _ _
  have e2:val B64 (trimL ys)=val B64 ys:=val_trimL _ _
  rw [← e1,← e2]
  clear e1 e2 l1 l2 h1 h2
  generalize trimL xs=ts at *
  generalize trimL ys=us at *
  have HT1:=Lib.hid T1; have HT2:=Lib.hid T2; have HK1:=Lib.hid k1; have HK2:=Lib.hid k2; have HP1:=Lib.hid p1; have HP2:=Lib.hid p2
  clear T1 T2 k1 k2 p1 p2
  go_enter Tryz.func142,Tryz.ntmps142
  go_wp2_with fail
  refine HT1.out.mono ?_
  rintro e w1 ⟨va,rfl,hs1,rfl⟩
  go_wp2_with fail
  refine HT2.out.mono ?_
  rintro e w1 ⟨vb,rfl,hs2,rfl⟩
  have hl1:=hs1.len
  have hl2:=hs2.len
  by_cases hlt:ts.length<us.length
  · have E:=Lib.hid (cmp_lt (val_lt_of_length B64_pos HK1.out HP2.out hlt))
    obtain ⟨a1,c1,rfl⟩:=hs1.shape
    obtain ⟨a2,c2,rfl⟩:=hs2.shape
    clear hs1 hs2
    go_wp2
    go_ret
    exact ⟨by rw [E.out]; rfl,Below.refl _ _⟩
  · by_cases hgt:us.length<ts.length
    · have E:=Lib.hid (cmp_gt (val_lt_of_length B64_pos HK2.out HP1.out hgt))
      obtain ⟨a1,c1,rfl⟩:=hs1.shape
      obtain ⟨a2,c2,rfl⟩:=hs2.shape
      clear hs1 hs2
      go_wp2
      go_ret
      exact ⟨by rw [E.out]; rfl,Below.refl _ _⟩
    · have hle:ts.length=us.length:=by omega
      have HLE:=Lib.hid hle
      obtain ⟨a1,c1,rfl,q1,q2,q3,q4,hc1⟩:=hs1
      obtain ⟨a2,c2,rfl,r1,r2,r3,r4,hc2⟩:=hs2
      have HC1:=Lib.hid hc1; have HC2:=Lib.hid hc2
      unfold maxLen at q2 r2
      clear hle hc1 hc2 q4 r4
      go_wp2
      go_loopw [5] (fun i wr=>∃ m:Nat,m≤ts.length∧i=.int .i64 ((m:Int) - 1)∧val B64 (ts.drop m)=val B64 (us.drop m)∧Below w.heap.size w wr) (fun i _=>(intOf i+1).toNat)
      case atStart=>exact ⟨ts.length,Nat.le_refl _,rfl,by rw [List.drop_length,HLE.out,List.drop_length],Below.refl _ _⟩
      case round =>
        obtain ⟨m,hm,rfl,heq,hbel⟩:=hrel
        by_cases h0:0<m
        · obtain ⟨k,rfl⟩:∃ k,m=k+1:=⟨m - 1,by omega⟩
          rw [show (((k+1:Nat):Int) - 1)=(k:Int) by omega]
          have hu:k<us.length:=by have:=HLE.out; omega
          obtain ⟨b1,o1,rfl,hb1,hd1⟩:=HC1.out (by omega)
          obtain ⟨b2,o2,rfl,hb2,hd2⟩:=HC2.out (by omega)
          have ck1:wr.cell? ⟨b1,o1+k,none⟩=some (.int .u64 ((ts.getD k 0:Nat):Int)):=(hbel.cell (p:=⟨b1,o1+k,none⟩) hb1).trans (hd1 k (by omega))
          have ck2:wr.cell? ⟨b2,o2+k,none⟩=some (.int .u64 ((us.getD k 0:Nat):Int)):=(hbel.cell (p:=⟨b2,o2+k,none⟩) hb2).trans (hd2 k hu)
          have HB:=Lib.hid hbel; have HEQ:=Lib.hid heq
          have V1:=Lib.hid (fun h=>val_lt_of_top (by have:=B64_pos; omega) HK1.out (show k<ts.length by omega) hu heq h)
          have V2:=Lib.hid (fun h=>val_lt_of_top (by have:=B64_pos; omega) HK2.out hu (show k<ts.length by omega) heq.symm h)
          have V3:Hid (ts.getD k 0=us.getD k 0→val B64 (ts.drop k)=val B64 (us.drop k)):=Lib.hid fun h=>by rw [val_drop B64 ts k (by omega),val_drop B64 us k hu,heq,h]
          clear hd1 hd2 hbel heq hm h0
          generalize ts.getD k 0=x at *
          generalize us.getD k 0=y at *
          have hkl:k<ts.length:=by omega
          by_cases hxy:x<y
          · have E:=Lib.hid (cmp_lt (V1.out hxy))
            have hd:decide ((x:Int)<(y:Int))=true:=decide_eq_true (by omega)
            go_wp2
            go_quiet (fail)
            go_wp2
            go_ret
            exact ⟨by rw [E.out]; rfl,bdrawn HB.out _⟩
          · by_cases hyx:y<x
            · have E:=Lib.hid (cmp_gt (V2.out hyx))
              have hd:decide ((x:Int)<(y:Int))=false:=decide_eq_false (by omega)
              have hd':decide ((y:Int)<(x:Int))=true:=decide_eq_true (by omega)
              go_wp2
              go_quiet (fail)
              go_wp2
              go_quiet (fail)
              go_wp2
              go_ret
              exact ⟨by rw [E.out]; rfl,bdrawn (bdrawn HB.out _) _⟩
            · have E:=Lib.hid (V3.out (by omega))
              have hd:decide ((x:Int)<(y:Int))=false:=decide_eq_false (by omega)
              have hd':decide ((y:Int)<(x:Int))=false:=decide_eq_false (by omega)
              go_wp2
              go_quiet (fail)
              go_wp2
              go_quiet (fail)
              go_wp2
              go_roundw
              case rel=>exact ⟨k,by omega,by go_num,E.out,bdrawn HB.out _⟩
              case measure=>simp [intOf]
        · obtain rfl:m=0:=by omega
          have HB:=Lib.hid hbel
          have E:Hid (cmp3 (val B64 ts) (val B64 us)=0):=Lib.hid (cmp_eq (by simpa using heq))
          clear hbel heq hm h0
          go_wp2
          go_ret
          exact ⟨by rw [E.out]; rfl,HB.out⟩
end Go.Proofs.YtacbkpenohcgjaaGreat
namespace Go.Proofs.YtacbkpenohcgjaaGreat
open Go.RowKit Mth
end Go.Proofs.YtacbkpenohcgjaaGreat
namespace Go.Proofs.YtacbkpenohcgjaaGreat
open Go.RowKit Mth
end Go.Proofs.YtacbkpenohcgjaaGreat
namespace Go.Proofs.YtacbkpenohcgjaaGreat
open Go.RowKit Mth
theorem num_settle {w:World} {v:Value} {R:List Nat} {n:Nat} (h:Sl w .u64 v (trimL R)) (hl:Lim B64 R) (hv:val B64 R=n):Num w v n:=by
  rw [← hv]; exact num_trim h hl
theorem longB_two (xs ys:List Nat):longB [xs,ys] 2=(decide (Big≤val B64 xs) || decide (Big≤val B64 ys)):=by
  simp [longB]
end Go.Proofs.YtacbkpenohcgjaaGreat
namespace Go.Proofs.YtacbkpenohcgjaaGreat
open Go.RowKit Mth
end Go.Proofs.YtacbkpenohcgjaaGreat
namespace Go.Proofs.YtacbkpenohcgjaaGreat
open Go.RowKit Mth
def PutO (w wr:World) (g off:Nat) (R b:List Nat) (c i:Value) (least most:Nat):Prop:=∃ (k cc:Nat) (R':List Nat),least≤k∧k≤most∧i=.int .i64 k∧c=.int .u64 (cc:Int)∧PutT R R' off b k cc∧Row wr 37 .u64 g R'∧w.grownBy wr (some g)
theorem addTo_any (g off n cap:Nat) (R b:List Nat) (bv:Value) (w:World) (hR:Row w 37 .u64 g R) (lR:Lim B64 R) (hb:Sl w .u64 bv b) (lb:Lim B64 b) (hne:inBlock bv≠some g∨b=[]) (hlen:b.length≤n) (hn:off+n≤R.length)
    (hcap:n≤cap) (hm:cap≤maxLen) (_hRl:R.length≤16777217) :
    Calls Tryz.prog 161 #[.slice (some ⟨g,off,none⟩) n cap,bv] w fun e w'=>e=.returned (.tuple #[])∧∃ R' c,Row w' 37 .u64 g R'∧w.grownBy w' (some g)∧PutT R R' off b n c:=by
  obtain ⟨ao,cap2,rfl,h1,h2,h3,h4,h5⟩:=hb
  have H5:=Lib.hid h5; have HR:=Lib.hid hR; have LR:=Lib.hid lR; have LB:=Lib.hid lb; have HNE:=Lib.hid hne
  unfold maxLen at h2 hm
  clear h3 h4 h5 hR lR lb hne
  go_enter Tryz.func161,Tryz.ntmps161
  go_wp2
  go_loopw [4,10] (fun c i wr=>PutO w wr g off R b c i 0 b.length) (fun _ i _=>b.length - (intOf i).toNat)
  case atStart=>exact ⟨0,0,R,Nat.le_refl _,Nat.zero_le _,rfl,rfl,putT_zero off b LR.out,HR.out,World.grownBy.refl _ _⟩
  case round =>
    obtain ⟨k,c,R',_,hk,rfl,rfl,hT,hrow,hgr⟩:=hrel
    have HT:=Lib.hid hT; have HROW:=Lib.hid hrow; have HG:=Lib.hid hgr
    by_cases hlt:k<b.length
    · obtain ⟨bb,boff,rfl,hblt,hc⟩:=H5.out (by omega)
      have hne:bb≠g:=by
        rcases HNE.out with h | h
        · simpa [inBlock] using h
        · subst h; simp at hlt
      have hcb:wr.cell? ⟨bb,boff+k,none⟩=some (.int .u64 ((b.getD k 0:Nat):Int)):=hgr.cell (hc k hlt) (by simpa using hne)
      have hcr:wr.cell? ⟨g,off+k,none⟩=some (.int .u64 ((R'.getD (off+k) 0:Nat):Int)):=hrow.cell (by rw [hT.len]; omega)
      have hfr:wr.frozen? ⟨g,off+k,none⟩=false:=hrow.free _
      have HST:=Lib.hid (putT_step hT LB.out (show off+k<R.length by omega))
      have hc1:=hT.cle
      generalize b.getD k 0=y at *
      generalize R'.getD (off+k) 0=x at *
      have hsub:=fun w=>add64_run x y c hc1 w
      have hkr:k<n:=by omega
      clear hc hT hrow hgr hne
      go_wp2
      go_roundw
      case rel =>
        have hset:=HROW.out.set (off+k) (aLo x y c)
        exact ⟨k+1,aHi x y c,_,Nat.zero_le _,by omega,by go_num,rfl,HST.out,hset.1,grown_trans' HG.out hset.2⟩
      case measure=>simp [intOf]; omega
    · have hkb:k=b.length:=by omega
      have HKB:=Lib.hid hkb
      clear hT hrow hgr hkb
      obtain ⟨wo,rfl⟩:∃ wo:World,wo=wr:=⟨_,rfl⟩
      go_wp2
      go_loopw [4,7] (fun c i wr=>PutO w wr g off R b c i b.length n) (fun _ i _=>n - (intOf i).toNat)
      case atStart=>exact ⟨b.length,c,R',Nat.le_refl _,hlen,rfl,rfl,by rw [← HKB.out]; exact HT.out,HROW.out,HG.out⟩
      case round =>
        obtain ⟨k2,c2,R2,hlo,hhi,rfl,rfl,hT,hrow,hgr⟩:=hrel
        have HT2:=Lib.hid hT; have HROW2:=Lib.hid hrow; have HG2:=Lib.hid hgr
        by_cases hc0:c2=0
        · have hd:((c2:Int) != 0)=false:=by rw [hc0]; rfl
          subst hc0
          have HE:=Lib.hid (by have:=putT_more hT hlo (n - k2) (by omega); rwa [show k2+(n - k2)=n by omega] at this)
          clear hT hrow hgr
          go_wp2
          go_end0
          exact ⟨rfl,R2,0,HROW2.out,HG2.out,HE.out⟩
        · have hd:((c2:Int) != 0)=true:=by rw [bne_iff_ne]; omega
          by_cases hend:k2<n
          · have hcr:wr.cell? ⟨g,off+k2,none⟩=some (.int .u64 ((R2.getD (off+k2) 0:Nat):Int)):=hrow.cell (by rw [hT.len]; omega)
            have hfr:wr.frozen? ⟨g,off+k2,none⟩=false:=hrow.free _
            have HST:=Lib.hid (putT_step hT LB.out (show off+k2<R.length by omega))
            have hc1:=hT.cle
            rw [getD_ge b k2 hlo] at HST
            generalize R2.getD (off+k2) 0=x at *
            have hsub:∀ w,(callFunc 172 #[.int .u64 (x:Int),.int .u64 0,.int .u64 (c2:Int)]).run Tryz.prog w=.ok (.value (.tuple #[.int .u64 ((aLo x 0 c2:Nat):Int),.int .u64 ((aHi x 0 c2:Nat):Int)])) w:=fun w=>add64_run x 0 c2 hc1 w
            clear hT hrow hgr hc0
            go_wp2
            go_roundw
            case rel =>
              have hset:=HROW2.out.set (off+k2) (aLo x 0 c2)
              exact ⟨k2+1,aHi x 0 c2,_,by omega,by omega,by go_num,rfl,HST.out,hset.1,grown_trans' HG2.out hset.2⟩
            case measure=>simp [intOf]; omega
          · obtain rfl:k2=n:=by omega
            clear hT hrow hgr hc0
            go_wp2
            go_end0
            exact ⟨rfl,R2,c2,HROW2.out,HG2.out,HT2.out⟩
end Go.Proofs.YtacbkpenohcgjaaGreat
namespace Go.Proofs.YtacbkpenohcgjaaGreat
open Go.RowKit Mth
theorem row_drawn {w:World} {e:TypeId} {k:IntKind} {g:Nat} {xs:List Nat} (h:Row w e k g xs) (n:Nat):Row (w.drewN n) e k g xs:=h
end Go.Proofs.YtacbkpenohcgjaaGreat
namespace Go.Proofs.YtacbkpenohcgjaaGreat
open Go.RowKit Mth
theorem mul_long {xss:List (List Nat)} (h:longB xss xss.length=true):mulN xss=0∧mulE xss=5 :=
  ⟨if_pos ((longB_iff xss).1 h),if_pos ((longB_iff xss).1 h)⟩
theorem mul_fine {xss:List (List Nat)} (h:longB xss xss.length=false):mulN xss=cutN (prodL xss)∧mulE xss=cutE (prodL xss):=by
  have h':¬ longL xss xss.length:=fun h2=>by rw [(longB_iff xss).2 h2] at h; cases h
  exact ⟨if_neg h',if_neg h'⟩
theorem cut_zero:cutN 0=0∧cutE 0=0:=cut_small (by have:=one_lt_big; omega)
end Go.Proofs.YtacbkpenohcgjaaGreat
namespace Go.Proofs.YtacbkpenohcgjaaGreat
open Go.RowKit Mth
theorem maxLen_24 {n:Nat} (h:n≤16777217):n≤maxLen:=by unfold maxLen; omega
theorem trim_eq' {ao:Option Addr} {n cap:Nat} {xs:List Nat} {w:World} (h:Sl w .u64 (.slice ao n cap) xs) :
    Calls Tryz.prog 138 #[.slice ao n cap] w fun e w'=>e=.returned (.slice ao (tlen xs) cap)∧w=w' :=
  (trim_eq h).mono fun _ _ ⟨h1,h2⟩=>⟨h1,h2.symm⟩
def AddA (xss:List (List Nat)) (l i:Value):Prop:=∃ k L:Nat,k≤xss.length∧i=.int .i64 k∧l=.int .i64 L∧L≤4096∧(∀ j,j<k→(trimL (xss.getD j [])).length≤L)∧(∀ j,j<k→val B64 (xss.getD j [])<Big)
def AddB (w wr:World) (xss:List (List Nat)) (L:Nat) (i:Value):Prop:=∃ (k:Nat) (R:List Nat),k≤xss.length∧i=.int .i64 k∧Row wr 37 .u64 w.heap.size R∧R.length=L+1∧Lim B64 R∧val B64 R=sumL (xss.take k)∧Below w.heap.size w wr
theorem add_room {xss:List (List Nat)} {k L:Nat} (hk:k<xss.length) (hn:xss.length≤16777216) (hl:∀ j,Lim B64 (xss.getD j [])) (h:∀ j,j<xss.length→(trimL (xss.getD j [])).length≤L):sumL (xss.take (k+1))<B64 ^ (L+1):=by
  have h1:∀ j,j<k+1→val B64 (xss.getD j [])≤B64 ^ L:=fun j hj=>by
    have a1:=val_lt (lim_trimL (hl j))
    rw [val_trimL] at a1
    have a2:B64 ^ (trimL (xss.getD j [])).length≤B64 ^ L:=Nat.pow_le_pow_right (by have:=B64_pos; omega) (h j (by omega))
    omega
  have h2:=sumL_le (k+1) (by omega) h1
  refine Nat.lt_of_le_of_lt h2 ?_
  rw [Nat.pow_succ,Nat.mul_comm]
  exact Nat.mul_lt_mul_of_pos_left (by unfold B64; omega) (Nat.pow_pos (by have:=B64_pos; omega))
theorem putT_all {R R' b:List Nat} {n c:Nat} (h:PutT R R' 0 b n c) (hn:n=R.length) (hb:b.length≤n) (hv:val B64 R+val B64 b<B64 ^ n):val B64 R'=val B64 R+val B64 b:=by
  have e:=h.eq
  subst hn
  have e2:seg R' 0 R.length=val B64 R':=by rw [← h.len]; exact seg_all R'
  rw [e2,seg_all,List.take_of_length_le hb] at e
  have hc:=h.cle
  have:c=0∨c=1:=by omega
  rcases this with rfl | rfl
  · omega
  · rw [Nat.mul_one] at e; omega
theorem add_any (v:Value) (xss:List (List Nat)) (w:World) (h:NatList w v xss) (hl:∀ j,Lim B64 (xss.getD j [])) :
    Calls Tryz.prog 144 #[v] w fun e w'=>∃ v',e=.returned (.tuple #[v',.int .i64 (addE xss)])∧Num w' v' (addN xss)∧Below w.heap.size w w':=by
  have hlen:=h.len
  obtain ⟨ao,cap,rfl,h1,h2,h3,h4,h5⟩:=h
  have H5:=Lib.hid h5; have HL:=Lib.hid hl
  unfold maxLen at h2
  clear h3 h4 h5 hl
  go_enter Tryz.func144,Tryz.ntmps144
  go_wp2
  go_loop [4,12] (fun l i=>AddA xss l i) (fun _ i=>xss.length - (intOf i).toNat)
  case atStart=>exact ⟨0,0,Nat.zero_le _,rfl,rfl,by omega,fun j hj=>by omega,fun j hj=>by omega⟩
  case round =>
    obtain ⟨k,L,hk,rfl,rfl,hL,hA,hB⟩:=hrel
    have HA:=Lib.hid hA; have HB:=Lib.hid hB
    by_cases hlt:k<xss.length
    · obtain ⟨b,off,rfl,hblt,hc⟩:=H5.out (by omega)
      obtain ⟨u,hu,hsu⟩:=hc k hlt
      obtain ⟨a0,c0,rfl⟩:=hsu.shape
      have HT:=Lib.hid (trim_eq' hsu)
      have HS:=Lib.hid hsu.trim
      have HI:=Lib.hid (long_iff (HL.out k))
      have HLB:Hid (Big≤val B64 (xss.getD k [])→longB xss xss.length=true):=Lib.hid fun h=>long_of hlt h rfl
      have HA1:Hid (∀ L',L≤L'→(trimL (xss.getD k [])).length≤L'→∀ j,j<k+1→(trimL (xss.getD j [])).length≤L'):=Lib.hid fun L' h h' j hj=>by
        rcases Nat.lt_or_ge j k with h1 | h1
        · exact Nat.le_trans (hA j h1) h
        · rw [show j=k by omega]; exact h'
      have HB1:Hid (¬ Big≤val B64 (xss.getD k [])→∀ j,j<k+1→val B64 (xss.getD j [])<Big):=Lib.hid fun h j hj=>by
        rcases Nat.lt_or_ge j k with h1 | h1
        · exact hB j h1
        · rw [show j=k by omega]; omega
      have hlt':tlen (xss.getD k [])=(trimL (xss.getD k [])).length:=(length_trimL _).symm
      rw [hlt'] at HT HS
      clear hc hsu hA hB hlt'
      generalize hxx:xss.getD k []=xx at *
      generalize trimL xx=ts at *
      have HSL:=HS.out.len
      go_wp2_with fail
      refine HT.out.mono ?_
      rintro e w' ⟨rfl,rfl⟩
      by_cases hg:4096<ts.length
      · have hd:decide (4096<ts.length)=true:=decide_eq_true hg
        have E:=Lib.hid (add_long (HLB.out (HI.out.1 hg)))
        clear hg
        go_wp2_with fail
        refine (tooLong_any HS.out).mono ?_
        rintro e w' ⟨rfl,rfl⟩
        go_wp2
        go_ret2
        exact ⟨_,by rw [E.out.2]; rfl,by rw [E.out.1]; exact num_nil _,Below.refl _ _⟩
      · have hd:decide (4096<ts.length)=false:=decide_eq_false hg
        have HB2:=Lib.hid (HB1.out (fun h=>hg (HI.out.2 h)))
        have hg':ts.length≤4096:=by omega
        clear hg
        go_wp2_with fail
        refine (tooLong_any HS.out).mono ?_
        rintro e w' ⟨rfl,rfl⟩
        go_wp2
        go_round
        case rel=>exact ⟨k+1,max L ts.length,by omega,by go_num,by congr 1; omega,by omega,HA1.out _ (Nat.le_max_left _ _) (Nat.le_max_right _ _),HB2.out⟩
        case measure=>simp [intOf]; omega
    · have HALL:Hid (∀ j,j<xss.length→(trimL (xss.getD j [])).length≤L):=Lib.hid fun j hj=>hA j (by omega)
      have HNB:Hid (longB xss xss.length=false):=Lib.hid (by
        rw [← Bool.not_eq_true,longB_iff]
        rintro ⟨j,hj,h⟩
        have:=hB j (by omega)
        omega)
      clear hA hB
      go_wp2_with (at_make; refine make_nat rfl _ _ rfl _ _ (L+1) rfl rfl (by simp) (by simp) (by omega) ?_; intro w1 hrow hb1)
      have HROW:=Lib.hid hrow; have HB1:=Lib.hid hb1
      clear hrow hb1
      go_loopw [30] (fun i wr=>AddB w wr xss L i) (fun i _=>xss.length - (intOf i).toNat)
      case atStart=>exact ⟨0,_,Nat.zero_le _,rfl,HROW.out,by simp,fun j=>by rw [getD_replicate]; have:=B64_pos; omega,by rw [val_zero (fun j=>getD_replicate _ _)]; rfl,HB1.out⟩
      case round =>
        obtain ⟨k2,R,hk2,rfl,hrow,hRl,hRm,hRv,hbel⟩:=hrel
        have HB2:=Lib.hid hbel; have HR:=Lib.hid hrow; have HRL:=Lib.hid hRl; have HRM:=Lib.hid hRm; have HRV:=Lib.hid hRv
        by_cases hlt2:k2<xss.length
        · obtain ⟨b,off,rfl,hblt,hc⟩:=H5.out (by omega)
          obtain ⟨u,hu,hsu0⟩:=hc k2 hlt2
          have hur:wr.cell? ⟨b,off+k2,none⟩=some u:=(hbel.cell (p:=⟨b,off+k2,none⟩) hblt).trans hu
          obtain ⟨a0,c0,rfl⟩:=hsu0.shape
          have hsu:=hsu0.below hbel
          have HT:=Lib.hid (trim_eq' hsu)
          have HS:=Lib.hid hsu.trim
          have hne:inBlock (.slice a0 (tlen (xss.getD k2 [])) c0)≠some w.heap.size∨trimL (xss.getD k2 [])=[]:=by
            by_cases hu:trimL (xss.getD k2 [])=[]
            · exact .inr hu
            · left
              have hs0:=hsu0.trim
              obtain ⟨b9,o9,c9,e9,_,_,hb9,_⟩:=hs0.pos (List.length_pos_iff.2 hu)
              simp only [Value.slice.injEq] at e9
              obtain ⟨rfl,_,_⟩:=e9
              simp [inBlock]; omega
          have HSU:=Lib.hid (sumL_take_succ hlt2)
          have HROOM:=Lib.hid (add_room hlt2 hlen HL.out HALL.out)
          have hlen2:=HALL.out k2 hlt2
          have hlim:=lim_trimL (HL.out k2)
          have hval:val B64 (trimL (xss.getD k2 []))=val B64 (xss.getD k2 []):=val_trimL _ _
          have hlt':tlen (xss.getD k2 [])=(trimL (xss.getD k2 [])).length:=(length_trimL _).symm
          rw [hlt'] at HT HS hne
          rw [← hval] at HSU
          rw [HSU.out,← HRV.out] at HROOM
          clear hc hsu hsu0 hlt' hval hrow hbel
          generalize xss.getD k2 []=xx at *
          generalize trimL xx=ts at *
          have HNE:=Lib.hid hne; have HLEN2:=Lib.hid hlen2; have HLIM:=Lib.hid hlim
          clear hne hlim
          go_wp2_with fail
          refine HT.out.mono ?_
          rintro e w' ⟨rfl,rfl⟩
          have AD:=Lib.hid (addTo_any w.heap.size 0 (L+1) (L+1) R ts _ _ HR.out HRM.out HS.out HLIM.out HNE.out (by omega) (by rw [HRL.out]; omega) (Nat.le_refl _) (maxLen_24 (by omega)) (by rw [HRL.out]; omega))
          go_wp2_with fail
          refine AD.out.mono ?_
          rintro e w3 ⟨rfl,R',c',hr3,hg3,hp3⟩
          have HR3:=Lib.hid hr3; have HG3:=Lib.hid hg3; have HP3:=Lib.hid hp3
          clear hr3 hg3 hp3
          go_wp2
          go_roundw
          case rel =>
            refine ⟨k2+1,R',by omega,by go_num,HR3.out,by rw [HP3.out.len,HRL.out],HP3.out.lim, ?_,below_of_grown HB2.out HG3.out (Nat.le_refl _) HB2.out.size⟩
            rw [HSU.out,← HRV.out]
            exact putT_all HP3.out HRL.out.symm (by have:=HLEN2.out; omega) HROOM.out
          case measure=>simp [intOf]; omega
        · have e:xss.take k2=xss:=List.take_of_length_le (by omega)
          rw [e] at hRv
          have HV:=Lib.hid hRv
          have hsl:=hrow.sl_all (by rw [hRl]; omega)
          rw [hRl] at hsl
          have HS:=Lib.hid hsl
          have E:=Lib.hid (add_fine HNB.out)
          clear hrow hRl hRm hRv hbel hsl e
          go_wp2_with fail
          refine (answer_any HS.out HRM.out).mono ?_
          rintro e w' ⟨v',rfl,hN,rfl⟩
          have HN:=Lib.hid hN
          clear hN
          rw [HV.out] at HN
          go_wp2
          go_ret2
          exact ⟨_,by rw [E.out.2,← HV.out]; rfl,by rw [E.out.1]; exact HN.out,HB2.out⟩
end Go.Proofs.YtacbkpenohcgjaaGreat
namespace Go.Proofs.YtacbkpenohcgjaaGreat
open Go.RowKit Mth
theorem bitsLen_any (x:Nat) (h:x<B64) (w:World):Calls Tryz.prog 139 #[.int .u64 ((x:Nat):Int)] w fun e w'=>e=.returned (.int .i64 ((bl x:Nat):Int))∧w=w':=by
  refine (Go.Proofs.Tryz.bits_Len64 (x:Int) w (by omega) (by unfold B64 at h; omega)).mono fun e w' ⟨he,hw⟩=>⟨?_,hw.symm⟩
  rw [he,Int.toNat_natCast,bl_lib h]
theorem len_any (v:Value) (xs:List Nat) (w:World) (h:Sl w .u64 v xs) (hl:Lim B64 xs) :
    Calls Tryz.prog 99 #[v] w fun e w'=>e=.returned (.int .i64 ((bl (val B64 xs):Nat):Int))∧Below w.heap.size w w':=by
  have T:=trim_any h
  have k:=lim_trimL hl
  have p:=top_trimL xs
  have e1:val B64 (trimL xs)=val B64 xs:=val_trimL _ _
  rw [← e1]
  clear e1 h hl
  generalize trimL xs=ts at *
  have HT:=Lib.hid T; have HK:=Lib.hid k; have HP:=Lib.hid p
  clear T k p
  go_enter Tryz.func99,Tryz.ntmps99
  go_wp2_with fail
  refine HT.out.mono ?_
  rintro e w1 ⟨va,rfl,hs1,rfl⟩
  have hlen:=hs1.len
  by_cases h0:ts.length=0
  · obtain rfl:ts=[]:=List.eq_nil_of_length_eq_zero h0
    obtain ⟨a1,c1,rfl⟩:=hs1.shape
    clear hs1 h0
    go_wp2
    go_ret
    exact ⟨rfl,Below.refl _ _⟩
  · have hd0:=len_ne h0
    obtain ⟨b,off,cap,rfl,k1,k2,k3,hc⟩:=hs1.pos (by omega)
    have hct:=hc (ts.length - 1) (by omega)
    have hx:=HK.out (ts.length - 1)
    have E:=Lib.hid (bl_top (s:=64) HK.out HP.out (by omega:0<ts.length))
    generalize ts.getD (ts.length - 1) 0=x at *
    have hb:=bl_le (k:=64) hx
    have HX:=Lib.hid hx
    unfold maxLen at k2
    clear hs1 hc hx
    have hpos:0<ts.length:=by omega
    clear h0
    go_wp2_with fail
    refine (bitsLen_any _ HX.out _).mono ?_
    rintro e w1 ⟨rfl,rfl⟩
    go_wp2
    go_ret
    refine ⟨ret_int ?_,Below.refl _ _⟩
    have:=E.out
    show _=((bl (val B64 ts):Nat):Int)
    rw [show B64=2 ^ 64 from rfl,this]
    omega
def bitI (n:Nat) (i:Int):Bool:=decide (0≤i)&&bitN n i.toNat
theorem bit_end (x r:Nat) (hx:x<B64):(bits BinOp.and IntKind.u64 ((x:Int) / 2 ^ r) 1 == 1)=decide (x / 2 ^ r % 2=1):=by
  have h1:((x:Int) / 2 ^ r)=((x / 2 ^ r:Nat):Int):=by rw [Int.natCast_ediv,Int.natCast_pow]; rfl
  have h2:=and1 (x / 2 ^ r) (Nat.lt_of_le_of_lt (Nat.div_le_self _ _) hx)
  rw [h1,h2]
  unfold md
  rw [Bool.eq_iff_iff]
  simp
  omega
theorem bit_any (v:Value) (xs:List Nat) (i:Int) (w:World) (h:Sl w .u64 v xs) (hl:Lim B64 xs) (h1:-9223372036854775808≤i) (h2:i≤9223372036854775807) :
    Calls Tryz.prog 158 #[v,.int .i64 i] w fun e w'=>e=.returned (.bool (bitI (val B64 xs) i))∧Below w.heap.size w w':=by
  have hlen:=h.len
  by_cases hneg:i<0
  · have E:Hid (bitI (val B64 xs) i=false):=Lib.hid (by unfold bitI; rw [decide_eq_false (by omega)]; rfl)
    have hd:decide (i<0)=true:=decide_eq_true hneg
    go_enter Tryz.func158,Tryz.ntmps158
    go_wp2
    go_ret
    exact ⟨by rw [E.out]; rfl,Below.refl _ _⟩
  · obtain ⟨n,rfl⟩:∃ n:Nat,i=n:=⟨i.toNat,by omega⟩
    obtain ⟨q,r,hqr,hr⟩:∃ q r,n=64*q+r∧r<64:=⟨n / 64,n % 64,by omega,by omega⟩
    have hq64:(n:Int) / 64=(q:Int):=by omega
    have hr64:(n:Int) % 64=(r:Int):=by omega
    have hd:decide ((n:Int)<0)=false:=decide_eq_false hneg
    obtain ⟨ao,cap,rfl,k1,k2,k3,k4,k5⟩:=h
    have hqb:(q:Int)≤9223372036854775807:=by omega
    unfold maxLen at k2
    by_cases hfar:xs.length≤q
    · have E:Hid (bitI (val B64 xs) (n:Int)=false):=Lib.hid (by unfold bitI; rw [Int.toNat_natCast,bit_far hl (by omega)]; simp)
      have hd2:decide ((xs.length:Int)≤(q:Int))=true:=decide_eq_true (by omega)
      clear k4 k5 hl hqr hneg
      go_enter Tryz.func158,Tryz.ntmps158
      go_wp2
      go_ret
      exact ⟨by rw [E.out]; rfl,Below.refl _ _⟩
    · obtain ⟨b,off,rfl,hb,hc⟩:=k5 (by omega)
      have E:Hid (bitI (val B64 xs) (n:Int)=decide (xs.getD q 0 / 2 ^ r % 2=1)):=Lib.hid (by unfold bitI; rw [Int.toNat_natCast,hqr,bit_limb hl hr (by omega),decide_eq_true (by omega),Bool.true_and])
      have hd2:decide ((xs.length:Int)≤(q:Int))=false:=decide_eq_false (by omega)
      have hcq:=hc q (by omega)
      have hx:=hl q
      generalize xs.getD q 0=x at *
      have HX:=Lib.hid hx
      have hql:q<xs.length:=by omega
      clear k4 k5 hl hc hx hqr hneg hfar
      go_enter Tryz.func158,Tryz.ntmps158
      go_wp2
      go_ret
      refine ⟨?_,Below.refl _ _⟩
      rw [E.out]
      exact ret_bool (bit_end x r HX.out)
end Go.Proofs.YtacbkpenohcgjaaGreat
namespace Go.Proofs.YtacbkpenohcgjaaGreat
open Go.RowKit Mth
theorem pow2_int (n:Nat):((2:Int) ^ n)=((2 ^ n:Nat):Int):=by rw [Int.natCast_pow]; rfl
theorem shl_u64 (x n:Nat):IntKind.u64.wrap ((x:Int)*2 ^ n)=((x*2 ^ n % B64:Nat):Int):=by
  rw [pow2_int,← Int.natCast_mul,IntKind.wrap_u64]
  unfold B64
  omega
theorem shr_u64 (x n:Nat):(x:Int) / 2 ^ n=((x / 2 ^ n:Nat):Int):=by
  rw [pow2_int,← Int.natCast_ediv]
def UpO (w wr:World) (g off:Nat) (R xs:List Nat) (n:Nat) (c i:Value):Prop:=∃ (k cc:Nat) (R':List Nat),k≤xs.length∧i=.int .i64 k∧c=.int .u64 (cc:Int)∧UpT R R' off xs n k cc∧Row wr 37 .u64 g R'∧w.grownBy wr (some g)
theorem shiftUp_any (g off cap n m:Nat) (R xs:List Nat) (v:Value) (w:World) (hR:Row w 37 .u64 g R) (lR:Lim B64 R) (hx:Sl w .u64 v xs) (lx:Lim B64 xs) (hne:inBlock v≠some g∨xs=[]) (hn:off+xs.length+1≤R.length)
    (hcap:xs.length+1≤cap) (hm:cap≤maxLen) (hnm:n+m=64) (hn63:n≤63) (_hRl:R.length≤16777217) :
    Calls Tryz.prog 171 #[.slice (some ⟨g,off,none⟩) (xs.length+1) cap,v,.int .i64 (n:Int)] w fun e w'=>e=.returned (.tuple #[])∧∃ R',Row w' 37 .u64 g R'∧w.grownBy w' (some g)∧UpAll R R' off xs n:=by
  obtain ⟨ao,cap2,rfl,h1,h2,h3,h4,h5⟩:=hx
  have H5:=Lib.hid h5; have HR:=Lib.hid hR; have LR:=Lib.hid lR; have LX:=Lib.hid lx; have HNE:=Lib.hid hne; have HNM:=Lib.hid hnm
  unfold maxLen at h2 hm
  clear h3 h4 h5 hR lR lx hne
  have hsub:IntKind.i64.wrap (64 - (n:Int))=(m:Int):=by rw [IntKind.wrap_i64]; omega
  have hm0:m≤64:=by omega
  clear hnm
  go_enter Tryz.func171,Tryz.ntmps171
  go_wp2
  go_loopw [6,11] (fun c i wr=>UpO w wr g off R xs n c i) (fun _ i _=>xs.length - (intOf i).toNat)
  case atStart=>exact ⟨0,0,R,Nat.zero_le _,rfl,rfl,upT_zero off xs n LR.out,HR.out,World.grownBy.refl _ _⟩
  case round =>
    obtain ⟨k,c,R',hk,rfl,rfl,hT,hrow,hgr⟩:=hrel
    have HT:=Lib.hid hT; have HROW:=Lib.hid hrow; have HG:=Lib.hid hgr
    by_cases hlt:k<xs.length
    · obtain ⟨bb,boff,rfl,hblt,hc⟩:=H5.out (by omega)
      have hne:bb≠g:=by
        rcases HNE.out with h | h
        · simpa [inBlock] using h
        · subst h; simp at hlt
      have hcb:wr.cell? ⟨bb,boff+k,none⟩=some (.int .u64 ((xs.getD k 0:Nat):Int)):=hgr.cell (hc k hlt) (by simpa using hne)
      have hcr:wr.cell? ⟨g,off+k,none⟩=some (.int .u64 ((R'.getD (off+k) 0:Nat):Int)):=hrow.cell (by rw [hT.len]; omega)
      have hfr:wr.frozen? ⟨g,off+k,none⟩=false:=hrow.free _
      have HST:=Lib.hid (upT_step hT HNM.out LX.out (show off+k<R.length by omega))
      have hc1:=hT.clt
      generalize xs.getD k 0=x at *
      generalize R'.getD (off+k) 0=o at *
      clear hc hT hrow hgr hne
      have hor:bits BinOp.or IntKind.u64 (IntKind.u64.wrap ((x:Int)*2 ^ n)) (c:Int)=((upLo x n c:Nat):Int):=by
        have hcb:c<B64:=Nat.lt_of_lt_of_le hc1 (by have:B64=2 ^ 64:=rfl; rw [this]; exact Nat.pow_le_pow_right (by omega) (by omega))
        rw [shl_u64,u64_or_nat _ _ (mod64_lt _) hcb,up_or HNM.out hc1]
      have hcar:(x:Int) / 2 ^ m=((upHi x n:Nat):Int):=by rw [shr_u64,upHi_div HNM.out]
      have HOR:=Lib.hid hor; have HCAR:=Lib.hid hcar
      clear hor hcar hc1
      go_wp2
      go_roundw
      case rel =>
        rw [HOR.out,HCAR.out]
        have hset:=HROW.out.set (off+k) (upLo x n c)
        exact ⟨k+1,upHi x n,_,by omega,by go_num,rfl,HST.out,hset.1,grown_trans' HG.out hset.2⟩
      case measure=>simp [intOf]; omega
    · obtain rfl:k=xs.length:=by omega
      have hE:=upT_end hT hn63 (by omega)
      have HE:=Lib.hid hE
      have hcr:wr.cell? ⟨g,off+xs.length,none⟩=some (.int .u64 ((R'.getD (off+xs.length) 0:Nat):Int)):=hrow.cell (by rw [hT.len]; omega)
      have hfr:wr.frozen? ⟨g,off+xs.length,none⟩=false:=hrow.free _
      generalize R'.getD (off+xs.length) 0=o at *
      clear hT hrow hgr hE
      go_wp2
      go_end0
      have hset:=HROW.out.set (off+xs.length) c
      exact ⟨rfl,_,hset.1,grown_trans' HG.out hset.2,HE.out⟩
def DnO (w wr:World) (g:Nat) (R xs:List Nat) (n:Nat) (c i:Value):Prop:=∃ (k cc:Nat) (R':List Nat),k≤xs.length∧i=.int .i64 ((k:Int) - 1)∧c=.int .u64 (cc:Int)∧DnT R R' xs n k cc∧Row wr 37 .u64 g R'∧w.grownBy wr (some g)
theorem shiftDown_any (g cap n m:Nat) (R xs:List Nat) (v:Value) (w:World) (hR:Row w 37 .u64 g R) (lR:Lim B64 R) (hx:Sl w .u64 v xs) (lx:Lim B64 xs) (hne:inBlock v≠some g∨(∃ c,v=.slice (some ⟨g,0,none⟩) xs.length c)∧R.take xs.length=xs) (hn:xs.length≤R.length)
    (_hcap:xs.length≤cap) (_hm:cap≤maxLen) (hnm:n+m=64) (hn63:n≤63) (hRl:R.length≤16777217) :
    Calls Tryz.prog 163 #[.slice (some ⟨g,0,none⟩) xs.length cap,v,.int .i64 (n:Int)] w fun e w'=>e=.returned (.tuple #[])∧∃ R' c,Row w' 37 .u64 g R'∧w.grownBy w' (some g)∧DnT R R' xs n 0 c:=by
  obtain ⟨ao,cap2,rfl,h1,h2,h3,h4,h5⟩:=hx
  have H5:=Lib.hid h5; have HR:=Lib.hid hR; have LR:=Lib.hid lR; have LX:=Lib.hid lx; have HNE:=Lib.hid hne; have HNM:=Lib.hid hnm
  unfold maxLen at h2 _hm
  clear h3 h4 h5 hR lR lx hne
  have hsub:IntKind.i64.wrap (64 - (n:Int))=(m:Int):=by rw [IntKind.wrap_i64]; omega
  have hm0:m≤64:=by omega
  clear hnm
  go_enter Tryz.func163,Tryz.ntmps163
  go_wp2
  go_loopw [6,7] (fun c i wr=>DnO w wr g R xs n c i) (fun _ i _=>(intOf i+1).toNat)
  case atStart=>exact ⟨xs.length,0,R,Nat.le_refl _,rfl,rfl,dnT_zero xs n LR.out hn,HR.out,World.grownBy.refl _ _⟩
  case round =>
    obtain ⟨k0,c,R',hk,rfl,rfl,hT,hrow,hgr⟩:=hrel
    have HT:=Lib.hid hT; have HROW:=Lib.hid hrow; have HG:=Lib.hid hgr
    by_cases hlt:0<k0
    · obtain ⟨k,rfl⟩:∃ k,k0=k+1:=⟨k0 - 1,by omega⟩
      have hkl:k<xs.length:=by omega
      obtain ⟨bb,boff,rfl,hblt,hc⟩:=H5.out (by omega)
      have hcb:wr.cell? ⟨bb,boff+k,none⟩=some (.int .u64 ((xs.getD k 0:Nat):Int)):=by
        rcases HNE.out with h | ⟨⟨c9,h⟩,h'⟩
        · exact hgr.cell (hc k hkl) (by simpa [inBlock] using h)
        · simp only [Value.slice.injEq,Option.some.injEq,Addr.mk.injEq,and_true,true_and] at h
          obtain ⟨⟨rfl,rfl⟩,rfl⟩:=h
          rw [Nat.zero_add,hrow.cell (by rw [hT.len]; omega),hT.rest k (by omega)]
          have h9:(R.take xs.length).getD k 0=xs.getD k 0:=by rw [h']
          rw [getD_take,if_pos hkl] at h9
          rw [h9]
      have hcr:wr.cell? ⟨g,k,none⟩=some (.int .u64 ((R'.getD k 0:Nat):Int)):=hrow.cell (by rw [hT.len]; omega)
      have hfr:wr.frozen? ⟨g,k,none⟩=false:=hrow.free _
      have HST:=Lib.hid (dnT_step hT HNM.out LX.out hkl hn)
      have hceq:=hT.ceq m HNM.out
      have hxb:=LX.out k
      have hcb2:c<B64:=by
        rw [hceq]
        have h1:val B64 (xs.drop (k+1)) % 2 ^ n<2 ^ n:=Nat.mod_lt _ (Nat.pow_pos (by omega))
        have h2:2 ^ m*(val B64 (xs.drop (k+1)) % 2 ^ n)<2 ^ m*2 ^ n:=Nat.mul_lt_mul_of_pos_left h1 (Nat.pow_pos (by omega))
        rw [Nat.mul_comm (2 ^ m) (2 ^ n),← b64_split HNM.out] at h2
        exact h2
      have hor:bits BinOp.or IntKind.u64 ((xs.getD k 0:Nat) / 2 ^ n:Int) (c:Int)=((dnLo (xs.getD k 0) n c:Nat):Int):=by
        rw [shr_u64,u64_or_nat _ _ (Nat.lt_of_le_of_lt (Nat.div_le_self _ _) hxb) hcb2,hceq,dn_or HNM.out hxb]
      have hcar:IntKind.u64.wrap (((xs.getD k 0:Nat):Int)*2 ^ m)=((dnHi (xs.getD k 0) m:Nat):Int):=shl_u64 _ _
      generalize xs.getD k 0=x at *
      generalize R'.getD k 0=o at *
      have HOR:=Lib.hid hor; have HCAR:=Lib.hid hcar
      have hk16:k≤16777217:=by omega
      have he:((k+1:Nat):Int) - 1=(k:Int):=by omega
      clear hc hT hrow hgr hceq hxb hor hcar
      rw [he]
      go_wp2
      go_roundw
      case rel =>
        rw [HOR.out,HCAR.out]
        have hset:=HROW.out.set k (dnLo x n c)
        exact ⟨k,dnHi x m,_,by omega,by go_num,rfl,HST.out,hset.1,grown_trans' HG.out hset.2⟩
      case measure=>simp [intOf]
    · obtain rfl:k0=0:=by omega
      clear hT hrow hgr
      go_wp2
      go_end0
      exact ⟨rfl,R',c,HROW.out,HG.out,HT.out⟩
end Go.Proofs.YtacbkpenohcgjaaGreat
namespace Go.Proofs.YtacbkpenohcgjaaGreat
open Go.RowKit Mth
def shlN (a:Nat) (n:Int):Nat:=if n<0 then 0 else if Big≤a then 0 else cutN (a*2 ^ n.toNat)
def shlE (a:Nat) (n:Int):Int:=if n<0 then 1 else if Big≤a then 5 else cutE (a*2 ^ n.toNat)
theorem shl_neg {a:Nat} {n:Int} (h:n<0):shlN a n=0∧shlE a n=1:=⟨if_pos h,if_pos h⟩
theorem shl_long {a:Nat} {n:Int} (h:¬ n<0) (h2:Big≤a):shlN a n=0∧shlE a n=5:=by
  unfold shlN shlE; rw [if_neg h,if_neg h,if_pos h2,if_pos h2]; exact ⟨rfl,rfl⟩
theorem shl_fine {a:Nat} {n:Nat} (h2:¬ Big≤a):shlN a (n:Int)=cutN (a*2 ^ n)∧shlE a (n:Int)=cutE (a*2 ^ n):=by
  have h:¬ ((n:Int)<0):=by omega
  unfold shlN shlE; rw [if_neg h,if_neg h,if_neg h2,if_neg h2,Int.toNat_natCast]; exact ⟨rfl,rfl⟩
theorem shl_zero {n:Nat}:shlN 0 (n:Int)=0∧shlE 0 (n:Int)=0:=by
  have h:=shl_fine (a:=0) (n:=n) (by have:=one_lt_big; omega)
  rw [Nat.zero_mul,cut_zero.1,cut_zero.2] at h; exact h
theorem big_pow:Big=2 ^ (64*maxL):=by
  unfold Big
  have:B64=2 ^ 64:=rfl
  rw [this,← Nat.pow_mul]
theorem max_bits:262144=64*maxL:=by unfold maxL; rfl
theorem shl_big {a n:Nat} (h:a≠0):Big≤a*2 ^ n↔262144<n+bl a:=by
  obtain ⟨m,hm,h1,h2⟩:=bl_spec h
  rw [hm,big_pow,max_bits]
  generalize 64*maxL=N
  constructor
  · intro h3
    have h4:a*2 ^ n<2 ^ (m+1)*2 ^ n:=Nat.mul_lt_mul_of_pos_right h2 (Nat.pow_pos (by omega))
    rw [← Nat.pow_add] at h4
    rcases Nat.lt_or_ge N (n+(m+1)) with h5 | h5
    · exact h5
    · have:2 ^ (m+1+n)≤2 ^ N:=Nat.pow_le_pow_right (by omega) (by omega)
      omega
  · intro h3
    have h4:2 ^ m*2 ^ n≤a*2 ^ n:=Nat.mul_le_mul_right _ h1
    rw [← Nat.pow_add] at h4
    exact Nat.le_trans (Nat.pow_le_pow_right (by omega) (by omega)) h4
theorem shl_any (v:Value) (xs:List Nat) (n:Int) (w:World) (h:Sl w .u64 v xs) (hl:Lim B64 xs) (hn:-9223372036854775808≤n∧n≤9223372036854775807) :
    Calls Tryz.prog 155 #[v,.int .i64 n] w fun e w'=>∃ v',e=.returned (.tuple #[v',.int .i64 (shlE (val B64 xs) n)])∧Num w' v' (shlN (val B64 xs) n)∧Below w.heap.size w w':=by
  obtain ⟨hn1,hn2⟩:=hn
  have T:=Lib.hid (trim_any h)
  have G:=Lib.hid (long_iff hl)
  have hv:val B64 (trimL xs)=val B64 xs:=val_trimL _ _
  have k1:=lim_trimL hl; have p1:=top_trimL xs
  rw [← hv] at G ⊢
  clear h hl hv
  generalize trimL xs=ts at *
  have K:=Lib.hid k1; have P:=Lib.hid p1
  clear k1 p1
  go_enter Tryz.func155,Tryz.ntmps155
  go_wp2_with fail
  refine T.out.mono ?_
  rintro e w' ⟨va,rfl,s1,rfl⟩
  obtain ⟨a0,c0,rfl⟩:=s1.shape
  have hts:=s1.len
  have S:=Lib.hid s1
  clear s1
  by_cases hneg:n<0
  · have E:=Lib.hid (shl_neg (a:=val B64 ts) hneg)
    go_wp2
    go_ret2
    exact ⟨_,by rw [E.out.2]; rfl,by rw [E.out.1]; exact num_nil _,Below.refl _ _⟩
  · obtain ⟨n,rfl⟩:∃ m:Nat,n=(m:Int):=⟨n.toNat,by omega⟩
    clear hneg hn1
    have hnn:n≤9223372036854775807:=by omega
    by_cases g1:4096<ts.length
    · have hd:decide (4096<ts.length)=true:=decide_eq_true g1
      have E:=Lib.hid (shl_long (a:=val B64 ts) (n:=n) (by omega) (G.out.1 g1))
      clear g1
      go_wp2_with fail
      refine (tooLong_any S.out).mono ?_
      rintro e w' ⟨rfl,rfl⟩
      go_wp2
      go_ret2
      exact ⟨_,by rw [E.out.2]; rfl,by rw [E.out.1]; exact num_nil _,Below.refl _ _⟩
    · have hd:decide (4096<ts.length)=false:=decide_eq_false g1
      have NB:Hid (¬ Big≤val B64 ts):=Lib.hid (fun h=>g1 (G.out.2 h))
      have E:=Lib.hid (shl_fine (n:=n) NB.out)
      have g2:ts.length≤4096:=by omega
      clear g1
      go_wp2_with fail
      refine (tooLong_any S.out).mono ?_
      rintro e w' ⟨rfl,rfl⟩
      by_cases h0:ts.length=0
      · have hnil:ts=[]:=List.eq_nil_of_length_eq_zero h0
        have hz:val B64 ts=0:=by rw [hnil]; rfl
        have E0:Hid (shlN (val B64 ts) (n:Int)=0∧shlE (val B64 ts) (n:Int)=0):=Lib.hid (by rw [hz]; exact shl_zero)
        clear hz hnil
        go_wp2
        go_ret2
        exact ⟨_,by rw [E0.out.2]; rfl,by rw [E0.out.1]; exact num_nil _,Below.refl _ _⟩
      · have hpos:0<val B64 ts:=pos_of_top P.out (by omega)
        have SB:=Lib.hid (shl_big (a:=val B64 ts) (n:=n) (by omega))
        have LN:=Lib.hid (len_any _ ts w S.out K.out)
        have hbl:bl (val B64 ts)≤262144:=bl_le (by rw [max_bits,← big_pow]; exact Nat.lt_of_not_le NB.out)
        have hd0:((ts.length:Int) == 0)=false:=len_ne h0
        clear hpos
        generalize hbb:bl (val B64 ts)=bb at *
        clear hbb
        by_cases hbig:262144<n+bb
        · have E2:=Lib.hid (cut_big (SB.out.2 hbig))
          go_wp2_with fail
          refine LN.out.mono ?_
          rintro e w1 ⟨rfl,hb1⟩
          have B1:=Lib.hid hb1; clear hb1
          go_wp2
          go_ret2
          exact ⟨_,by rw [E.out.2,E2.out.2]; rfl,by rw [E.out.1,E2.out.1]; exact num_nil _,B1.out⟩
        · have E2:=Lib.hid (cut_small (Nat.lt_of_not_le fun h=>hbig (SB.out.1 h)))
          obtain ⟨q,r,hqr,hr⟩:∃ q r,n=64*q+r∧r<64:=⟨n / 64,n % 64,by omega,by omega⟩
          have hdiv:(n:Int) / 64=(q:Int):=by omega
          have hmod:(n:Int) % 64=(r:Int):=by omega
          have hq:q≤4096:=by omega
          have HQR:=Lib.hid hqr
          have hn3:n≤262144:=by omega
          clear hqr
          go_wp2_with fail
          refine LN.out.mono ?_
          rintro e w1 ⟨rfl,hb1⟩
          have B1:=Lib.hid hb1; clear hb1
          obtain ⟨L,hL⟩:∃ L,L=q+ts.length+1:=⟨_,rfl⟩
          have HL:=Lib.hid hL; have hLl:L≤16777216:=by omega
          have hqL:q<L:=by omega
          have HLQ:Hid (L - q=ts.length+1):=Lib.hid (by omega)
          clear hL
          go_wp2_with (at_make; refine make_nat rfl _ _ rfl _ _ L rfl rfl (by have:=HL.out; omega) (by have:=HL.out; omega) (by omega) ?_; intro w2 hrow hb2)
          have HROW:=Lib.hid hrow; have B2:=Lib.hid (below_step B1.out hb2)
          have S2:=Lib.hid (S.out.below B2.out)
          clear hrow hb2
          have hne:inBlock (.slice a0 ts.length c0)≠some w1.heap.size∨ts=[]:=by
            left
            obtain ⟨b9,o9,c9,e9,_,_,hb9,_⟩:=S.out.pos (by omega)
            simp only [Value.slice.injEq] at e9
            obtain ⟨rfl,_,_⟩:=e9
            have:=B1.out.size
            simp [inBlock]; omega
          have UP:=Lib.hid (shiftUp_any w1.heap.size q (ts.length+1) r (64 - r) (List.replicate L 0) ts _ w2 HROW.out (fun j=>by rw [getD_replicate]; have:=B64_pos; omega) S2.out K.out hne (by rw [List.length_replicate]; have:=HL.out; omega) (Nat.le_refl _) (maxLen_24 (by omega)) (by omega) (by omega) (by rw [List.length_replicate]; omega))
          clear hne
          go_wp2_with fail
          rw [HLQ.out]
          refine UP.out.mono ?_
          rintro e w3 ⟨rfl,R',hr3,hg3,hu3⟩
          have hRl:R'.length=L:=by rw [hu3.len,List.length_replicate]
          have hsl:=hr3.sl_all (by rw [hRl]; exact hLl)
          rw [hRl] at hsl
          have HS3:=Lib.hid hsl; have HG3:=Lib.hid hg3; have HLM:=Lib.hid hu3.lim
          have HV:Hid (val B64 R'=val B64 ts*2 ^ n):=Lib.hid (by
            have h9:=hu3
            rw [HL.out] at h9
            rw [upAll_val h9,HQR.out,Nat.mul_comm])
          have B3:=Lib.hid (below_of_grown B2.out hg3 B1.out.size B2.out.size)
          clear hr3 hg3 hu3 hsl hRl
          go_wp2_with fail
          refine (settle_any HS3.out).mono ?_
          rintro e w4 ⟨v4,rfl,hs4,rfl⟩
          have HN:=Lib.hid (num_settle hs4 HLM.out HV.out)
          clear hs4
          go_wp2
          go_ret2
          exact ⟨_,by rw [E.out.2,E2.out.2]; rfl,by rw [E.out.1,E2.out.1]; exact HN.out,B3.out⟩
def shrN (a:Nat) (n:Int):Nat:=if n<0 then 0 else if Big≤a then 0 else a / 2 ^ n.toNat
def shrE (a:Nat) (n:Int):Int:=if n<0 then 1 else if Big≤a then 5 else 0
theorem shr_neg {a:Nat} {n:Int} (h:n<0):shrN a n=0∧shrE a n=1:=⟨if_pos h,if_pos h⟩
theorem shr_long {a:Nat} {n:Int} (h:¬ n<0) (h2:Big≤a):shrN a n=0∧shrE a n=5:=by
  unfold shrN shrE; rw [if_neg h,if_neg h,if_pos h2,if_pos h2]; exact ⟨rfl,rfl⟩
theorem shr_fine {a:Nat} {n:Nat} (h2:¬ Big≤a):shrN a (n:Int)=a / 2 ^ n∧shrE a (n:Int)=0:=by
  have h:¬ ((n:Int)<0):=by omega
  unfold shrN shrE; rw [if_neg h,if_neg h,if_neg h2,if_neg h2,Int.toNat_natCast]; exact ⟨rfl,rfl⟩
theorem val_drop_div {B:Nat} {xs:List Nat} (hB:0<B) (h:Lim B xs) {q:Nat} (hq:q≤xs.length):val B (xs.drop q)=val B xs / B ^ q:=by
  rw [val_split B xs q hq,Nat.add_mul_div_left _ _ (Nat.pow_pos hB),Nat.div_eq_of_lt (val_take_lt hB h q hq)]
  omega
theorem val_shr {s:Nat} {xs:List Nat} (h:Lim (2 ^ s) xs) {q r n:Nat} (hq:q≤xs.length) (hn:n=s*q+r):val (2 ^ s) (xs.drop q) / 2 ^ r=val (2 ^ s) xs / 2 ^ n:=by
  rw [val_drop_div (Nat.pow_pos (by omega)) h hq,Nat.div_div_eq_div_mul,hn,Nat.pow_add,Nat.pow_mul]
theorem shr_far {B:Nat} {xs:List Nat} (h:Lim B xs) {n:Nat} (hn:B ^ xs.length≤2 ^ n):val B xs / 2 ^ n=0:=Nat.div_eq_of_lt (Nat.lt_of_lt_of_le (val_lt h) hn)
theorem shr_any (v:Value) (xs:List Nat) (n:Int) (w:World) (h:Sl w .u64 v xs) (hl:Lim B64 xs) (hn:-9223372036854775808≤n∧n≤9223372036854775807) :
    Calls Tryz.prog 145 #[v,.int .i64 n] w fun e w'=>∃ v',e=.returned (.tuple #[v',.int .i64 (shrE (val B64 xs) n)])∧Num w' v' (shrN (val B64 xs) n)∧Below w.heap.size w w':=by
  obtain ⟨hn1,hn2⟩:=hn
  have T:=Lib.hid (trim_any h)
  have G:=Lib.hid (long_iff hl)
  have hv:val B64 (trimL xs)=val B64 xs:=val_trimL _ _
  have k1:=lim_trimL hl
  rw [← hv] at G ⊢
  clear h hl hv
  generalize trimL xs=ts at *
  have K:=Lib.hid k1
  clear k1
  go_enter Tryz.func145,Tryz.ntmps145
  go_wp2_with fail
  refine T.out.mono ?_
  rintro e w' ⟨va,rfl,s1,rfl⟩
  obtain ⟨a0,c0,rfl⟩:=s1.shape
  have hts:=s1.len
  have S:=Lib.hid s1
  clear s1
  by_cases hneg:n<0
  · have E:=Lib.hid (shr_neg (a:=val B64 ts) hneg)
    go_wp2
    go_ret2
    exact ⟨_,by rw [E.out.2]; rfl,by rw [E.out.1]; exact num_nil _,Below.refl _ _⟩
  · obtain ⟨n,rfl⟩:∃ m:Nat,n=(m:Int):=⟨n.toNat,by omega⟩
    clear hneg hn1
    have hnn:n≤9223372036854775807:=by omega
    by_cases g1:4096<ts.length
    · have hd:decide (4096<ts.length)=true:=decide_eq_true g1
      have E:=Lib.hid (shr_long (a:=val B64 ts) (n:=n) (by omega) (G.out.1 g1))
      clear g1
      go_wp2_with fail
      refine (tooLong_any S.out).mono ?_
      rintro e w' ⟨rfl,rfl⟩
      go_wp2
      go_ret2
      exact ⟨_,by rw [E.out.2]; rfl,by rw [E.out.1]; exact num_nil _,Below.refl _ _⟩
    · have hd:decide (4096<ts.length)=false:=decide_eq_false g1
      have NB:Hid (¬ Big≤val B64 ts):=Lib.hid (fun h=>g1 (G.out.2 h))
      have E:=Lib.hid (shr_fine (n:=n) NB.out)
      have g2:ts.length≤4096:=by omega
      obtain ⟨q,r,hqr,hr⟩:∃ q r,n=64*q+r∧r<64:=⟨n / 64,n % 64,by omega,by omega⟩
      have hdiv:(n:Int) / 64=(q:Int):=by omega
      have hmod:(n:Int) % 64=(r:Int):=by omega
      have HQR:=Lib.hid hqr
      clear g1
      by_cases hfar:ts.length≤q
      · have E2:Hid (val B64 ts / 2 ^ n=0):=Lib.hid (shr_far K.out (by
          have:B64=2 ^ 64:=rfl
          rw [this,← Nat.pow_mul]
          exact Nat.pow_le_pow_right (by omega) (by omega)))
        clear hqr
        go_wp2_with fail
        refine (tooLong_any S.out).mono ?_
        rintro e w' ⟨rfl,rfl⟩
        go_wp2
        go_ret2
        exact ⟨_,by rw [E.out.2]; rfl,by rw [E.out.1,E2.out]; exact num_nil _,Below.refl _ _⟩
      · obtain ⟨b,off,cap,e9,hc1,hc2,hb,hcell⟩:=S.out.pos (by omega)
        simp only [Value.slice.injEq,true_and] at e9
        obtain ⟨rfl,rfl⟩:=e9
        have hqt:q<ts.length:=by omega
        have hq:q≤4096:=by omega
        have hsd:Sl w .u64 (.slice (some ⟨b,off+q,none⟩) (ts.length - q) (c0 - q)) (ts.drop q):=by
          have hld:(ts.drop q).length=ts.length - q:=List.length_drop
          refine ⟨some ⟨b,off+q,none⟩,c0 - q,by rw [hld],by omega,by omega,by omega,fun e=>by simp at e,fun _=>⟨b,off+q,rfl,hb,fun j hj=>?_⟩⟩
          rw [getD_drop,Nat.add_assoc]
          exact hcell (q+j) (by omega)
        have hlen:(ts.drop q).length=ts.length - q:=List.length_drop
        have hkd:=lim_drop K.out q
        have hvd:val B64 (ts.drop q) / 2 ^ r=val B64 ts / 2 ^ n:=by
          have hB:B64=2 ^ 64:=rfl
          have hK:=K.out
          rw [hB] at hK ⊢
          exact val_shr hK (by omega) hqr
        obtain ⟨L,hL⟩:∃ L,L=ts.length - q:=⟨_,rfl⟩
        rw [← hL] at hlen
        have hL0:0<L:=by omega
        have hL2:L≤4096:=by omega
        have HL:=Lib.hid hL
        generalize ts.drop q=us at *
        have SD:=Lib.hid hsd; have KD:=Lib.hid hkd; have VD:=Lib.hid hvd; have LEN:=Lib.hid hlen
        unfold maxLen at hc2
        clear hsd hkd hvd hlen hqr hL hcell
        go_wp2_with fail
        refine (tooLong_any S.out).mono ?_
        rintro e w' ⟨rfl,rfl⟩
        go_wp2_with (at_make; refine make_nat rfl _ _ rfl _ _ L rfl rfl (by have:=HL.out; omega) (by have:=HL.out; omega) (by omega) ?_; intro w2 hrow hb2)
        have hne:inBlock (.slice (some ⟨b,off+q,none⟩) (ts.length - q) (c0 - q))≠some w.heap.size:=by
          simp [inBlock]; omega
        have DN:=Lib.hid (shiftDown_any w.heap.size L r (64 - r) (List.replicate L 0) us _ w2 hrow (fun j=>by rw [getD_replicate]; have:=B64_pos; omega) (SD.out.below hb2) KD.out (.inl hne) (by rw [List.length_replicate,LEN.out]; omega) (by rw [LEN.out]; omega) (maxLen_24 (by omega)) (by omega) (by omega) (by rw [List.length_replicate]; omega))
        rw [LEN.out] at DN
        have B2:=Lib.hid hb2
        clear hrow hb2 hne
        go_wp2_with fail
        refine DN.out.mono ?_
        rintro e w3 ⟨rfl,R',c',hr3,hg3,hu3⟩
        have hRl:R'.length=L:=by rw [hu3.len,List.length_replicate]
        have hsl:=hr3.sl_all (by rw [hRl]; omega)
        rw [hRl] at hsl
        have HS3:=Lib.hid hsl; have HLM:=Lib.hid hu3.lim
        have HV:Hid (val B64 R'=val B64 ts / 2 ^ n):=Lib.hid (by
          have h9:=dnT_end hu3
          rw [LEN.out,← hRl,List.take_length] at h9
          rw [h9,VD.out])
        have B3:=Lib.hid (below_of_grown B2.out hg3 (Nat.le_refl _) B2.out.size)
        clear hr3 hg3 hu3 hsl hRl
        go_wp2_with fail
        refine (settle_any HS3.out).mono ?_
        rintro e w4 ⟨v4,rfl,hs4,rfl⟩
        have HN:=Lib.hid (num_settle hs4 HLM.out HV.out)
        clear hs4
        go_wp2
        go_ret2
        exact ⟨_,by rw [E.out.2]; rfl,by rw [E.out.1]; exact HN.out,B3.out⟩
end Go.Proofs.YtacbkpenohcgjaaGreat
namespace Go.Proofs.YtacbkpenohcgjaaGreat
open Go.RowKit Mth
theorem top_append {zs ys:List Nat} (h:Top ys) (hp:0<ys.length):Top (zs++ys):=by
  unfold Top
  refine tlen_eq (fun j hj=>getD_ge _ j hj) (.inr ?_)
  have h1:=tlen_top ys (by rw [h]; exact hp)
  rw [h] at h1
  rw [List.length_append,List.getD_eq_getElem?_getD,List.getElem?_append_right (by omega),show zs.length+ys.length - 1 - zs.length=ys.length - 1 by omega,← List.getD_eq_getElem?_getD]
  exact h1
theorem lim_append {B:Nat} {xs ys:List Nat} (h1:Lim B xs) (h2:Lim B ys):Lim B (xs++ys):=by
  intro j
  rw [List.getD_eq_getElem?_getD]
  rcases Nat.lt_or_ge j xs.length with hj | hj
  · rw [List.getElem?_append_left hj,← List.getD_eq_getElem?_getD]; exact h1 j
  · rw [List.getElem?_append_right hj,← List.getD_eq_getElem?_getD]; exact h2 _
structure ShlIs (a:Nat) (n:Int) (N:Nat) (ER:Int):Prop where
  rn:shlN a n=N
  re:shlE a n=ER
theorem ShlIs.neg {a N:Nat} {n ER:Int} (h:ShlIs a n N ER) (hn:n<0):N=0∧ER=1:=by
  rw [← h.rn,← h.re]; exact shl_neg hn
theorem ShlIs.long {a N:Nat} {n ER:Int} (h:ShlIs a n N ER) (hn:¬ n<0) (h2:Big≤a):N=0∧ER=5:=by
  rw [← h.rn,← h.re]; exact shl_long hn h2
theorem ShlIs.fine {a N n:Nat} {ER:Int} (h:ShlIs a (n:Int) N ER) (h2:¬ Big≤a):N=cutN (a*2 ^ n)∧ER=cutE (a*2 ^ n):=by
  rw [← h.rn,← h.re]; exact shl_fine h2
theorem ShlIs.zero {N n:Nat} {ER:Int} (h:ShlIs 0 (n:Int) N ER):N=0∧ER=0:=by
  rw [← h.rn,← h.re]; exact shl_zero
end Go.Proofs.YtacbkpenohcgjaaGreat
