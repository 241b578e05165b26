import Derived.Test.YtacbkpenohcgjaaGreatVMB
import Derived.Test.YtacbkpenohcgjaaGreatShelf
import Derived.Outline
import Derived.Deep.DeepFit
import Derived.Test.YtacbkpenohcgjaaGreatVMA
import Derived.Laws.IdiomStrings
import Derived.Laws.BitsAllLaws
import Derived.WalkLawsBesides
import Derived.WalkSpells
import Derived.Deep.RegionWith
import Derived.Deep.QuietTactic
import Derived.BigQuiet
set_option linter.unusedVariables false
set_option linter.unusedSimpArgs false
set_option maxHeartbeats 2000000
set_option maxRecDepth 100000
namespace Go.Proofs.YtacbkpenohcgjaaGreat
open Go.RowKit Mth
theorem tooLong_any {v:Value} {xs:List Nat} {w:World} (h:Sl w .u64 v xs) :
    Calls Tryz.prog 160 #[v] w fun e w'=>e=.returned (.bool (decide (4096<xs.length)))∧w=w':=by
  obtain ⟨ao,cap,rfl,h1,h2,h3,h4,h5⟩:=h
  clear h4 h5
  unfold maxLen at h2
  go_enter Tryz.func160,Tryz.ntmps160
  go_wp2
  go_ret
  exact ⟨ret_bool (by rw [decide_eq_decide]; omega),rfl⟩
theorem settle_any {v:Value} {xs:List Nat} {w:World} (h:Sl w .u64 v xs) :
    Calls Tryz.prog 164 #[v] w fun e w'=>∃ v',e=.returned v'∧Sl w .u64 v' (trimL xs)∧w=w':=by
  go_enter Tryz.func164,Tryz.ntmps164
  go_wp2_with fail
  refine (trim_any h).mono ?_
  rintro e w' ⟨v',rfl,hs,rfl⟩
  have hs':=hs
  obtain ⟨ao,cap,rfl,h1,h2,h3,h4,h5⟩:=hs'
  clear h4 h5
  unfold maxLen at h2
  by_cases h0:(trimL xs).length=0
  · have e0:trimL xs=[]:=List.eq_nil_of_length_eq_zero h0
    have hd:=len_eq h0
    clear h0
    have E0:=Lib.hid e0; clear e0
    go_wp2
    go_ret
    exact ⟨_,rfl,by rw [E0.out]; exact sl_nil _ _,rfl⟩
  · have hd:=len_ne h0
    clear h0
    go_wp2
    go_ret
    exact ⟨_,rfl,hs,rfl⟩
theorem fresh_any {v:Value} {xs:List Nat} {w:World} (h:Sl w .u64 v xs) :
    Calls Tryz.prog 175 #[v] w fun e w'=>∃ v',e=.returned v'∧Below w.heap.size w w'∧Sl w' .u64 v' (trimL xs) ∧
      (v'=.slice none 0 0∧trimL xs=[]∨v'=.slice (some ⟨w.heap.size,0,none⟩) (trimL xs).length (trimL xs).length∧Row w' 37 .u64 w.heap.size (trimL xs)):=by
  go_enter Tryz.func175,Tryz.ntmps175
  go_wp2_with fail
  refine (trim_any h).mono ?_
  rintro e w' ⟨v',rfl,hs,rfl⟩
  have hs':=hs
  obtain ⟨ao,cap,rfl,h1,h2,h3,h4,h5⟩:=hs'
  clear h4 h5 h
  unfold maxLen at h2
  by_cases h0:(trimL xs).length=0
  · have e0:trimL xs=[]:=List.eq_nil_of_length_eq_zero h0
    have hd:=len_eq h0
    clear h0
    have E0:=Lib.hid e0; clear e0
    go_wp2
    go_ret
    exact ⟨_,rfl,Below.refl _ _,by rw [E0.out]; exact sl_nil _ _,.inl ⟨rfl,E0.out⟩⟩
  · have hd:=len_ne h0
    have h0':0<(trimL xs).length:=by omega
    clear h0
    go_wp2_with (first
      | (at_make; refine make_nat rfl _ _ rfl _ _ (trimL xs).length rfl rfl rfl rfl (by omega) ?_; intro w1 hrow hb1)
      | (refine copy_nat (w0:=w) (o:=⟨some 14,_,_,_,_,_⟩) rfl _ _ rfl w.heap.size (trimL xs).length (trimL xs).length _ (trimL xs) _ rfl rfl hrow (by simp) rfl (hs.below hb1) hb1 (Nat.le_refl _) ?_; intro w2 hrow2 hb2))
    go_ret
    exact ⟨_,rfl,hb2,by
      have:=hrow2.sl_all (by omega)
      exact this,.inr ⟨rfl,hrow2⟩⟩
theorem answer_any {v:Value} {xs:List Nat} {w:World} (h:Sl w .u64 v xs) (hx:Lim B64 xs) :
    Calls Tryz.prog 162 #[v] w fun e w'=>∃ v',e=.returned (.tuple #[v',.int .i64 (cutE (val B64 xs))])∧Num w v' (cutN (val B64 xs))∧w=w':=by
  go_enter Tryz.func162,Tryz.ntmps162
  go_wp2_with fail
  refine (settle_any h).mono ?_
  rintro e w' ⟨v',rfl,hs,rfl⟩
  clear h
  have hN:=num_trim hs hx
  have L:=long_iff hx
  by_cases h0:4096<(trimL xs).length
  · have hd:decide (4096<(trimL xs).length)=true:=decide_eq_true h0
    have e1:cutE (val B64 xs)=5:=if_pos (L.1 h0)
    have e2:cutN (val B64 xs)=0:=if_pos (L.1 h0)
    have E1:=Lib.hid e1; have E2:=Lib.hid e2
    clear e1 e2 L h0 hN
    go_wp2_with fail
    refine (tooLong_any hs).mono ?_
    rintro e w' ⟨rfl,rfl⟩
    go_wp2
    go_ret2
    exact ⟨_,by rw [E1.out]; rfl,by rw [E2.out]; exact num_nil _,rfl⟩
  · have hd:decide (4096<(trimL xs).length)=false:=decide_eq_false h0
    have e1:cutE (val B64 xs)=0:=if_neg (fun h=>h0 (L.2 h))
    have e2:cutN (val B64 xs)=val B64 xs:=if_neg (fun h=>h0 (L.2 h))
    have E1:=Lib.hid e1; have E2:=Lib.hid e2
    clear e1 e2 L h0
    go_wp2_with fail
    refine (tooLong_any hs).mono ?_
    rintro e w' ⟨rfl,rfl⟩
    go_wp2
    go_ret2
    exact ⟨_,by rw [E1.out]; rfl,by rw [E2.out]; exact hN,rfl⟩
end Go.Proofs.YtacbkpenohcgjaaGreat
namespace Go.Proofs.YtacbkpenohcgjaaGreat
open Go.RowKit Mth
theorem and1 (u:Nat) (hu:u<B64):bits BinOp.and IntKind.u64 (u:Int) 1=((md u 2:Nat):Int):=by
  unfold B64 at hu
  have:=u64_and_nat u 1 hu (by omega)
  rw [show ((1:Nat):Int)=1 from rfl] at this
  rw [this,Nat.and_one_is_mod]
  rfl
end Go.Proofs.YtacbkpenohcgjaaGreat
namespace Go.Proofs.YtacbkpenohcgjaaGreat
open Go.RowKit Mth
theorem mul64_any (x y:Nat) (hx:x<B64) (hy:y<B64) (w:World) :
    Calls Tryz.prog 189 #[.int .u64 x,.int .u64 y] w fun e w'=>e=.returned (.tuple #[.int .u64 ((mHi x y:Nat):Int),.int .u64 ((mLo x y:Nat):Int)])∧w=w' :=
  (Go.Proofs.Tryz.bits_Mul64 x y hx hy w).mono fun _ _ ⟨he,hw⟩=>⟨he,hw.symm⟩
theorem wrap_u64 (n:Nat) (h:n<B64):IntKind.u64.wrap (n:Int)=n:=by
  rw [IntKind.wrap_u64]; unfold B64 at h; omega
theorem mulAdd_any (x y p:Nat) (hx:x<B64) (hy:y<B64) (hp:p<B64) (w:World) :
    Calls Tryz.prog 184 #[.int .u64 x,.int .u64 y,.int .u64 p] w fun e w' =>
      e=.returned (.tuple #[.int .u64 ((pHi x y p:Nat):Int),.int .u64 ((pLo x y p:Nat):Int)])∧w=w':=by
  have M:=pHi_lt hx hy hp
  have HM:=Lib.hid M; clear M
  have hadd:=fun (x y:Nat) (w:World)=>add64_run0 x y w
  have HX:=Lib.hid hx; have HY:=Lib.hid hy; clear hx hy hp
  go_enter Tryz.func184,Tryz.ntmps184
  go_wp2_with fail
  refine (mul64_any _ _ HX.out HY.out _).mono ?_
  rintro e w' ⟨rfl,rfl⟩
  go_wp2
  go_ret2
  obtain ⟨e1,e2⟩:=p_steps (x:=x) (y:=y) (p:=p)
  have e3:=wrap_u64 _ HM.out
  rw [← e2] at e3
  refine ⟨?_,rfl⟩
  rw [← e1,← e2,← e3,Int.natCast_add]
  rfl
theorem of_any (x:Nat) (hx:x<B64) (w:World) :
    Calls Tryz.prog 97 #[.int .u64 x] w fun e w'=>∃ v',e=.returned v'∧Below w.heap.size w w'∧Num w' v' x:=by
  have HX:=Lib.hid hx; clear hx
  by_cases h0:x=0
  · have hd:((x:Int) == 0)=true:=by rw [h0]; rfl
    have H0:=Lib.hid h0; clear h0
    go_enter Tryz.func97,Tryz.ntmps97
    go_wp2
    go_ret
    exact ⟨_,rfl,Below.refl _ _,by rw [H0.out]; exact num_nil _⟩
  · have hd:((x:Int) == 0)=false:=by simp; omega
    have H0:=Lib.hid h0; clear h0
    go_enter Tryz.func97,Tryz.ntmps97
    go_wp2
    go_ret
    have hrow:Row (w.alloc (Obj.cells #[Value.int IntKind.u64 (x:Int)] 37)) 37 .u64 w.heap.size [x]:=heap_alloc_new w _
    have hb:Below w.heap.size w (w.alloc (Obj.cells #[Value.int IntKind.u64 (x:Int)] 37)):=(Below.refl _ _).alloc (Nat.le_refl _) _
    refine ⟨_,rfl,hb,[x],hrow.sl_all (by simp), ?_, ?_,by simp [val]⟩
    · exact lim_cons.2 ⟨HX.out,lim_nil (by have:=B64_pos; omega)⟩
    · simp [Top,tlen,H0.out]
theorem addTimes_any (g off cap:Nat) (R b:List Nat) (x:Nat) (bv:Value) (w:World) (hR:Row w 37 .u64 g R) (hlim:Lim B64 R) (hoff:off+b.length≤R.length) (hc1:b.length≤cap) (hc2:cap≤maxLen)
    (hb:Sl w .u64 bv b) (hbl:Lim B64 b) (hne:inBlock bv≠some g) (hp:0<b.length) (hx:x<B64) :
    Calls Tryz.prog 181 #[.slice (some ⟨g,off,none⟩) b.length cap,bv,.int .u64 ((x:Nat):Int)] w fun e w' =>
      ∃ c:Nat,e=.returned (.int .u64 (c:Int))∧∃ R',Row w' 37 .u64 g R'∧w.grownBy w' (some g)∧AddT R R' off b x b.length c:=by
  have hlen:=hb.len
  obtain ⟨bb,boff,bcap,rfl,hb1,hb2,hblt,hbc⟩:=hb.pos hp
  have hne':bb≠g:=by simpa [inBlock] using hne
  clear hne hb
  unfold maxLen at hc2 hb2
  have HX:=Lib.hid hx; have HL:=Lib.hid hlim; have HBL:=Lib.hid hbl; have HBC:=Lib.hid hbc; have HR:=Lib.hid hR
  clear hx hlim hbl hbc hR
  go_enter Tryz.func181,Tryz.ntmps181
  go_wp2
  go_loopw [7,15] (fun c i wr=>∃ k cc:Nat,k≤b.length∧i=.int .i64 k∧c=.int .u64 (cc:Int)∧∃ R',Row wr 37 .u64 g R'∧w.grownBy wr (some g)∧AddT R R' off b x k cc)
    (fun _ i _=>b.length - (intOf i).toNat)
  case atStart=>exact ⟨0,0,Nat.zero_le _,rfl,rfl,R,HR.out,World.grownBy.refl _ _,addT_zero HL.out⟩
  case round =>
    obtain ⟨k,cc,hk,rfl,rfl,R',hR',hgr,hT⟩:=hrel
    by_cases hlt:k<b.length
    · have hcb:wr.cell? ⟨bb,boff+k,none⟩=some (.int .u64 ((b.getD k 0:Nat):Int)):=hgr.cell (HBC.out k hlt) (by simpa using hne')
      have hcr:wr.cell? ⟨g,off+k,none⟩=some (.int .u64 ((R'.getD (off+k) 0:Nat):Int)):=hR'.cell (by rw [hT.len]; omega)
      have hfr:wr.frozen? ⟨g,off+k,none⟩=false:=hR'.free _
      have HT:=Lib.hid hT; have HR':=Lib.hid hR'; have HG:=Lib.hid hgr
      clear hT hR' hgr
      have hadd:=fun (x y:Nat) (w:World)=>add64_run0 x y w
      generalize hy:b.getD k 0=y at hcb
      generalize hs:R'.getD (off+k) 0=s at hcr
      have HY:=Lib.hid hy; have HS:=Lib.hid hs
      clear hy hs
      have hyl:y<B64:=by rw [← HY.out]; exact HBL.out k
      have hsl:s<B64:=by rw [← HS.out]; exact HT.out.lim _
      have HYL:=Lib.hid hyl; have HSL:=Lib.hid hsl
      clear hyl hsl
      go_wp2_with fail
      refine (mulAdd_any _ _ _ HX.out HYL.out HT.out.clt _).mono ?_
      rintro e w' ⟨rfl,rfl⟩
      go_wp2
      go_roundw
      case rel =>
        have hset:=HR'.out.set (off+k) (aLo (pLo x y cc) s 0)
        have hstep:=addT_step HT.out HX.out HBL.out hlt hoff
        have hcl:=carryT_lt (x:=x) (y:=y) (c:=cc) (s:=s) HX.out HYL.out HT.out.clt HSL.out
        rw [HY.out,HS.out] at hstep
        refine ⟨k+1,carryT x y cc s,by omega,by go_num, ?_,_,hset.1,grown_trans' HG.out hset.2,hstep⟩
        have e3:=wrap_u64 _ hcl
        rw [← e3]
        simp [carryT]
      case measure=>simp [intOf]; omega
    · have e:k=b.length:=by omega
      have HT:=Lib.hid hT; have HR':=Lib.hid hR'; have HG:=Lib.hid hgr; have E:=Lib.hid e
      clear hT hR' hgr e
      go_wp2
      go_ret
      have hT:=HT.out
      rw [E.out] at hT
      exact ⟨_,rfl,R',HR'.out,HG.out,hT⟩
end Go.Proofs.YtacbkpenohcgjaaGreat
namespace Go.Proofs.YtacbkpenohcgjaaGreat
open Go.RowKit Mth
theorem times_any (av bv:Value) (xs ys:List Nat) (w:World) (hx:Sl w .u64 av xs) (hy:Sl w .u64 bv ys) (lx:Lim B64 xs) (ly:Lim B64 ys) (tx:Top xs) (ty:Top ys) (px:0<xs.length) (py:0<ys.length) :
    Calls Tryz.prog 176 #[av,bv] w fun e w'=>∃ v',e=.returned (.tuple #[v',.int .i64 (cutE (val B64 xs*val B64 ys))])∧Num w' v' (cutN (val B64 xs*val B64 ys))∧Below w.heap.size w w':=by
  have hxl:=hx.len
  have hyl:=hy.len
  have HSY:=Lib.hid hy
  obtain ⟨ab,aoff,acap,rfl,ha1,ha2,hablt,hac⟩:=hx.pos px
  obtain ⟨bb,boff,bcap,rfl,hb1,hb2,hbblt,hbc⟩:=hy.pos py
  clear hx hy hbc
  have HAC:=Lib.hid hac; clear hac
  unfold maxLen at ha2 hb2
  by_cases hlong:4096<xs.length+ys.length - 1
  · have hL:Big≤val B64 xs*val B64 ys:=times_long (m:=maxL) tx ty px py hlong
    have E1:=Lib.hid (show cutE (val B64 xs*val B64 ys)=5 from if_pos hL)
    have E2:=Lib.hid (show cutN (val B64 xs*val B64 ys)=0 from if_pos hL)
    clear hL lx ly tx ty
    go_enter Tryz.func176,Tryz.ntmps176
    go_wp2
    go_ret2
    exact ⟨_,by rw [E1.out]; rfl,by rw [E2.out]; exact num_nil _,Below.refl _ _⟩
  · have HLX:=Lib.hid lx; have HLY:=Lib.hid ly
    clear lx ly tx ty
    go_enter Tryz.func176,Tryz.ntmps176
    go_wp2_with (at_make; refine make_nat rfl _ _ rfl _ _ (xs.length+ys.length) rfl rfl (by simp) (by simp) (by omega) ?_; intro w1 hrow hb1)
    have HROW:=Lib.hid hrow; have HB1:=Lib.hid hb1
    clear hrow hb1
    go_loopw [24] (fun i wr=>∃ k:Nat,k≤xs.length∧i=.int .i64 k∧∃ R,Row wr 37 .u64 w.heap.size R∧TimesI R xs ys k∧Below w.heap.size w wr)
      (fun i _=>xs.length - (intOf i).toNat)
    case atStart=>exact ⟨0,Nat.zero_le _,rfl,_,HROW.out,times_zero xs ys,HB1.out⟩
    case round =>
      obtain ⟨k,hk,rfl,R,hR,hT,hbel⟩:=hrel
      by_cases hlt:k<xs.length
      · have hca:wr.cell? ⟨ab,aoff+k,none⟩=some (.int .u64 ((xs.getD k 0:Nat):Int)):=(hbel.cell (p:=⟨ab,aoff+k,none⟩) hablt).trans (HAC.out k hlt)
        generalize hxk:xs.getD k 0=x at hca
        have HXK:=Lib.hid hxk; have HT:=Lib.hid hT; have HR:=Lib.hid hR; have HB:=Lib.hid hbel
        clear hxk hT hR hbel
        have hxb:x<B64:=by rw [← HXK.out]; exact HLX.out k
        have HXB:=Lib.hid hxb; clear hxb
        go_wp2_with fail
        simp only [Nat.add_sub_cancel_left]
        have hsy:Sl wr .u64 (.slice (some ⟨bb,boff,none⟩) ys.length bcap) ys:=HSY.out.below HB.out
        refine (addTimes_any w.heap.size k (xs.length+ys.length - k) _ ys x _ _ HR.out HT.out.lim (by rw [HT.out.len]; omega) (by omega) (by unfold maxLen; omega) hsy HLY.out (by simp [inBlock]; omega) py HXB.out).mono ?_
        rintro e w' ⟨c,rfl,R',hR',hg',hA⟩
        clear hsy
        have hcs:w'.cell? ⟨w.heap.size,k+ys.length,none⟩=some (.int .u64 ((R'.getD (k+ys.length) 0:Nat):Int)):=hR'.cell (by rw [hA.len,HT.out.len]; omega)
        have hfs:w'.frozen? ⟨w.heap.size,k+ys.length,none⟩=false:=hR'.free _
        generalize R'.getD (k+ys.length) 0=old at hcs
        have HA:=Lib.hid hA; have HR':=Lib.hid hR'; have HG':=Lib.hid hg'
        clear hA hR' hg'
        go_wp2
        go_roundw
        case rel =>
          have hset:=HR'.out.set (k+ys.length) c
          have hA:=HA.out
          rw [← HXK.out] at hA
          refine ⟨k+1,by omega,by go_num,_,hset.1,times_step HT.out hlt hA, ?_⟩
          exact below_of_grown HB.out (grown_trans' HG'.out hset.2) (Nat.le_refl _) HB.out.size
        case measure=>simp [intOf]; omega
      · have e:k=xs.length:=by omega
        have hT':=hT
        rw [e] at hT'
        have HT:=Lib.hid (times_end hT'); have HLIM:=Lib.hid hT.lim; have HR:=Lib.hid hR; have HB:=Lib.hid hbel; have HLEN:=Lib.hid hT.len
        clear hT hT' hR hbel e
        go_wp2_with fail
        have hs:Sl wr .u64 (.slice (some ⟨w.heap.size,0,none⟩) (xs.length+ys.length) (xs.length+ys.length)) R:=by
          have:=HR.out.sl_all (by rw [HLEN.out]; omega)
          rwa [HLEN.out] at this
        refine (answer_any hs HLIM.out).mono ?_
        rintro e w' ⟨v',rfl,hN,rfl⟩
        have HN:=Lib.hid hN
        clear hs hN
        go_wp2
        go_ret2
        have hN:=HN.out
        rw [HT.out] at hN
        exact ⟨_,by rw [HT.out]; rfl,hN,HB.out⟩
end Go.Proofs.YtacbkpenohcgjaaGreat
namespace Go.Proofs.YtacbkpenohcgjaaGreat
open Go.RowKit Mth
def Ans (w:World) (n:Nat) (e:Ending) (w':World):Prop:=∃ v',e=.returned (.tuple #[v',.int .i64 (cutE n)])∧Num w' v' (cutN n)∧Below w.heap.size w w'
theorem product_none (w:World) (ao:Option Addr) (cap:Nat) (_:cap≤maxLen):Calls Tryz.prog 169 #[.slice ao 0 cap] w (Ans w 1):=by
  have hB:1<B64:=B64_pos
  have HB:=Lib.hid hB; clear hB
  go_enter Tryz.func169,Tryz.ntmps169
  go_wp2_with fail
  refine (of_any 1 HB.out _).mono ?_
  rintro e w1 ⟨v1,rfl,hb1,hn1⟩
  have HB1:=Lib.hid hb1; have HN1:=Lib.hid hn1
  clear hb1 hn1
  go_wp2
  go_ret2
  obtain ⟨e1,e2⟩:=cut_small one_lt_big
  exact ⟨v1,by rw [e2]; rfl,by rw [e1]; exact HN1.out,HB1.out⟩
theorem product_one (w:World) (v:Value) (xs:List Nat) (h:NatList w v [xs]) (hx:Lim B64 xs) (hlong:val B64 xs<Big):Calls Tryz.prog 169 #[v] w (Ans w (val B64 xs)):=by
  obtain ⟨b,off,cap,rfl,h1,h2,h3,hc⟩:=h.pos (by simp)
  obtain ⟨u,hu,hsu⟩:=hc 0 (by simp)
  have HS:=Lib.hid hsu; have HL:=Lib.hid hx; have HG:=Lib.hid hlong
  unfold maxLen at h2
  clear hc h hsu hx hlong
  simp only [Nat.add_zero,List.length_singleton] at *
  go_enter Tryz.func169,Tryz.ntmps169
  go_wp2_with fail
  refine (fresh_any HS.out).mono ?_
  rintro e w1 ⟨v1,rfl,hb1,hn1,_⟩
  have HB1:=Lib.hid hb1; have HN1:=Lib.hid (num_trim hn1 (by simpa using HL.out))
  clear hb1 hn1
  go_wp2
  go_ret2
  obtain ⟨e1,e2⟩:=cut_small HG.out
  exact ⟨v1,by rw [e2]; rfl,by rw [e1]; exact HN1.out,HB1.out⟩
theorem product_two (w:World) (v:Value) (xs ys:List Nat) (h:NatList w v [xs,ys]) (hx:Lim B64 xs) (hy:Lim B64 ys) (px:0<val B64 xs) (py:0<val B64 ys):Calls Tryz.prog 169 #[v] w (Ans w (val B64 xs*val B64 ys)):=by
  obtain ⟨b,off,cap,rfl,h1,h2,h3,hc⟩:=h.pos (by simp)
  obtain ⟨u0,hu0,hs0⟩:=hc 0 (by simp)
  obtain ⟨u1,hu1,hs1⟩:=hc 1 (by simp)
  have hs0:Sl w .u64 u0 xs:=by simpa using hs0
  have hs1:Sl w .u64 u1 ys:=by simpa using hs1
  obtain ⟨a0,c0,rfl⟩:=hs0.shape
  obtain ⟨a1,c1,rfl⟩:=hs1.shape
  have hbd:Below w.heap.size w w.drew:=(Below.refl _ _).drew
  have T0:=Lib.hid (trim_eq (hs0.below hbd)); have T1:=Lib.hid (trim_eq (hs1.below hbd))
  have tt:=times_any _ _ _ _ w.drew (hs0.below hbd).trim (hs1.below hbd).trim (lim_trimL hx) (lim_trimL hy) (top_trimL _) (top_trimL _)
    (by rcases Nat.eq_zero_or_pos (trimL xs).length with h | h
        · have:=nil_iff.1 h; omega
        · exact h)
    (by rcases Nat.eq_zero_or_pos (trimL ys).length with h | h
        · have:=nil_iff.1 h; omega
        · exact h)
  rw [val_trimL,val_trimL] at tt
  have TT:=Lib.hid tt
  unfold maxLen at h2
  clear hc h hs0 hs1 hx hy px py hbd tt
  simp only [Nat.add_zero,List.length_cons,List.length_nil,Nat.reduceAdd] at *
  go_enter Tryz.func169,Tryz.ntmps169
  go_wp2_with fail
  go_region_with (first
    | (go_at_call 138; (with_reducible refine (T0.out).mono ?_); rintro e w1 ⟨rfl,rfl⟩)
    | (go_at_call 138; (with_reducible refine (T1.out).mono ?_); rintro e w1 ⟨rfl,rfl⟩)
    | (go_at_call 176; (with_reducible refine (TT.out).mono ?_); rintro e w1 ⟨v1,rfl,hn1,hb1⟩; have HN1:=Lib.hid hn1; have HB1:=Lib.hid hb1; clear hn1 hb1))
  all_goals go_wp2
  all_goals go_ret2
  all_goals exact ⟨v1,rfl,HN1.out,(Below.refl _ _).drew.trans HB1.out⟩
theorem times_num (w:World) (av bv:Value) (m n:Nat) (ha:Num w av m) (hb:Num w bv n) (hm:0<m) (hn:0<n):Calls Tryz.prog 176 #[av,bv] w (Ans w (m*n)):=by
  obtain ⟨xs,h1,h2,h3,rfl⟩:=ha
  obtain ⟨ys,k1,k2,k3,rfl⟩:=hb
  refine times_any av bv xs ys w h1 k1 h2 k2 h3 k3 ?_ ?_
  · cases xs with
    | nil=>simp [val] at hm
    | cons x r=>simp
  · cases ys with
    | nil=>simp [val] at hn
    | cons x r=>simp
end Go.Proofs.YtacbkpenohcgjaaGreat
namespace Go.Proofs.YtacbkpenohcgjaaGreat
open Go.RowKit Mth
def ProdUpto (n:Nat):Prop:=∀ (w:World) (v:Value) (xss:List (List Nat)),xss.length≤n→NatList w v xss→(∀ x∈xss,Lim B64 x∧0<val B64 x∧val B64 x<Big) →
    Calls Tryz.prog 169 #[v] w (Ans w (prodL xss))
theorem product_rec (n:Nat) (ih:ProdUpto n) (w:World) (v:Value) (xss:List (List Nat)) (hn:xss.length≤n+1) (hl3:3≤xss.length) (h:NatList w v xss) (hall:∀ x∈xss,Lim B64 x∧0<val B64 x∧val B64 x<Big) :
    Calls Tryz.prog 169 #[v] w (Ans w (prodL xss)):=by
  have hlen:=h.len
  obtain ⟨bb,off,cap,rfl,h1,h2,h3,_⟩:=h.pos (by omega)
  obtain ⟨k,hk⟩:∃ k,k=xss.length / 2:=⟨_,rfl⟩
  have hk1:1≤k:=by omega
  have hk2:k<xss.length:=by omega
  have hleft:=ih w _ (xss.take k) (by rw [List.length_take]; omega) (h.take (Nat.le_of_lt hk2)) (fun x hx=>hall x (List.mem_of_mem_take hx))
  have HD:=Lib.hid (h.drop hk2)
  have HALL:=Lib.hid (fun x (hx:x∈xss.drop k)=>hall x (List.mem_of_mem_drop hx))
  have HDL:Hid ((xss.drop k).length≤n):=Lib.hid (by rw [List.length_drop]; omega)
  have hsplit:=prodL_split xss k
  have pl:0<prodL (xss.take k):=prodL_pos fun x hx=>(hall x (List.mem_of_mem_take hx)).2.1
  have pr:0<prodL (xss.drop k):=prodL_pos fun x hx=>(hall x (List.mem_of_mem_drop hx)).2.1
  have HS:=Lib.hid hsplit; have HPL:=Lib.hid pl; have HPR:=Lib.hid pr; have HLEFT:=Lib.hid hleft; have IH:=Lib.hid ih
  have hq:(xss.length:Int) / 2=(k:Int):=by omega
  have hd0:((xss.length:Int) == 0)=false:=beq_eq_false_iff_ne.2 (by omega)
  have hd1:((xss.length:Int) == 1)=false:=beq_eq_false_iff_ne.2 (by omega)
  have hd2:((xss.length:Int) == 2)=false:=beq_eq_false_iff_ne.2 (by omega)
  have hck:k<cap:=by omega
  unfold maxLen at h2
  clear ih hall h hk hsplit pl pr hleft hn
  by_cases hbl:Big≤prodL (xss.take k)
  · obtain ⟨e1,e2⟩:=cut_big hbl
    obtain ⟨f1,f2⟩:=cut_big (big_mul_left hbl HPR.out)
    rw [← HS.out] at f1 f2
    have hl:=HLEFT.out
    unfold Ans at hl
    rw [e1,e2] at hl
    have HL:=Lib.hid hl; have F1:=Lib.hid f1; have F2:=Lib.hid f2
    clear e1 e2 f1 f2 hbl hl HLEFT
    go_enter Tryz.func169,Tryz.ntmps169
    go_wp2_with fail
    refine HL.out.mono ?_
    rintro e w1 ⟨v1,rfl,hn1,hb1⟩
    have HB1:=Lib.hid hb1
    clear hn1 hb1
    go_wp2
    go_ret2
    exact ⟨_,by rw [F2.out]; rfl,by rw [F1.out]; exact num_nil _,HB1.out⟩
  · obtain ⟨e1,e2⟩:=cut_small (Nat.lt_of_not_le hbl)
    have hl:=HLEFT.out
    unfold Ans at hl
    rw [e1,e2] at hl
    have HL:=Lib.hid hl
    clear e1 e2 hbl hl HLEFT
    by_cases hbr:Big≤prodL (xss.drop k)
    · obtain ⟨e1,e2⟩:=cut_big hbr
      obtain ⟨f1,f2⟩:=cut_big (big_mul_right hbr HPL.out)
      rw [← HS.out] at f1 f2
      have E1:=Lib.hid e1; have E2:=Lib.hid e2; have F1:=Lib.hid f1; have F2:=Lib.hid f2
      clear e1 e2 f1 f2 hbr
      go_enter Tryz.func169,Tryz.ntmps169
      go_wp2_with fail
      refine HL.out.mono ?_
      rintro e w1 ⟨v1,rfl,hn1,hb1⟩
      have HB1:=Lib.hid hb1
      have hr:=IH.out w1 _ _ HDL.out (HD.out.below hb1) HALL.out
      unfold Ans at hr
      rw [E1.out,E2.out] at hr
      have HR:=Lib.hid hr
      clear hn1 hb1 hr
      go_wp2_with fail
      refine HR.out.mono ?_
      rintro e w2 ⟨v2,rfl,hn2,hb2⟩
      have HB2:=Lib.hid (below_step HB1.out hb2)
      clear hn2 hb2
      go_wp2
      go_ret2
      exact ⟨_,by rw [F2.out]; rfl,by rw [F1.out]; exact num_nil _,HB2.out⟩
    · obtain ⟨e1,e2⟩:=cut_small (Nat.lt_of_not_le hbr)
      have E1:=Lib.hid e1; have E2:=Lib.hid e2
      clear e1 e2 hbr
      go_enter Tryz.func169,Tryz.ntmps169
      go_wp2_with fail
      refine HL.out.mono ?_
      rintro e w1 ⟨v1,rfl,hn1,hb1⟩
      have HB1:=Lib.hid hb1; have HN1:=Lib.hid hn1
      have hr:=IH.out w1 _ _ HDL.out (HD.out.below hb1) HALL.out
      unfold Ans at hr
      rw [E1.out,E2.out] at hr
      have HR:=Lib.hid hr
      clear hn1 hb1 hr
      go_wp2_with fail
      refine HR.out.mono ?_
      rintro e w2 ⟨v2,rfl,hn2,hb2⟩
      have HB2:=Lib.hid (below_step HB1.out hb2)
      have HT:=Lib.hid (times_num w2 v1 v2 _ _ (HN1.out.below hb2) hn2 HPL.out HPR.out)
      clear hn2 hb2
      go_wp2_with fail
      refine HT.out.mono ?_
      rintro e w3 ⟨v3,rfl,hn3,hb3⟩
      have HN3:=Lib.hid hn3; have HB3:=Lib.hid (below_step HB2.out hb3)
      clear hn3 hb3
      go_wp2
      go_ret2
      unfold Ans
      rw [HS.out]
      exact ⟨_,rfl,HN3.out,HB3.out⟩
theorem product_any:∀ n,ProdUpto n:=by
  intro n
  induction n with
  | zero =>
    intro w v xss hn h _
    obtain rfl:xss=[]:=List.eq_nil_of_length_eq_zero (by omega)
    obtain ⟨ao,cap,rfl,h1,h2,h3,h4,h5⟩:=h
    exact product_none w ao cap h2
  | succ n ih =>
    intro w v xss hn h hall
    match xss,hn,h,hall with
    | [],_,h,_ =>
      obtain ⟨ao,cap,rfl,h1,h2,h3,h4,h5⟩:=h
      exact product_none w ao cap h2
    | [xs],_,h,hall =>
      have:=hall xs (by simp)
      have e:prodL [xs]=val B64 xs:=by simp [prodL]
      rw [e]
      exact product_one w v xs h this.1 this.2.2
    | [xs,ys],_,h,hall =>
      have h1:=hall xs (by simp)
      have h2:=hall ys (by simp)
      have e:prodL [xs,ys]=val B64 xs*val B64 ys:=by simp [prodL]
      rw [e]
      exact product_two w v xs ys h h1.1 h2.1 h1.2.1 h2.2.1
    | a :: b :: c :: r,hn,h,hall=>exact product_rec n ih w v _ hn (by simp) h hall
theorem mul_any (w:World) (v:Value) (xss:List (List Nat)) (h:NatList w v xss) (hall:∀ j,Lim B64 (xss.getD j [])) :
    Calls Tryz.prog 152 #[v] w fun e w'=>∃ v',e=.returned (.tuple #[v',.int .i64 (mulE xss)])∧Num w' v' (mulN xss)∧Below w.heap.size w w':=by
  have hlen:=h.len
  have HNL:=Lib.hid h
  obtain ⟨ao,cap,rfl,h1,h2,h3,h4,h5⟩:=h
  have H5:=Lib.hid h5; have HA:=Lib.hid hall
  unfold maxLen at h2
  clear h3 h4 h5 hall
  go_enter Tryz.func152,Tryz.ntmps152
  go_wp2
  go_loop [4,9] (fun z i=>∃ k:Nat,k≤xss.length∧i=.int .i64 k∧z=.bool (zeroL xss k)∧¬ longL xss k) (fun _ i=>xss.length - (intOf i).toNat)
  case atStart=>exact ⟨0,Nat.zero_le _,rfl,rfl,fun ⟨j,hj,_⟩=>by omega⟩
  case round =>
    obtain ⟨k,hk,rfl,hzv,hnl⟩:=hrel
    have HNLO:=Lib.hid hnl
    clear hnl
    by_cases hlt:k<xss.length
    · obtain ⟨b,off,rfl,hblt,hc⟩:=H5.out (by omega)
      obtain ⟨u,hu,hsu⟩:=hc k hlt
      obtain ⟨a0,c0,rfl⟩:=hsu.shape
      have hlx:=HA.out k
      have HLG:=Lib.hid (long_iff hlx); have HZ:=Lib.hid (nil_iff (xs:=xss.getD k [])); have HZS:=Lib.hid (zeroL_succ hlt)
      have HSU:=Lib.hid hsu
      clear hc hsu hlx
      generalize hxx:xss.getD k []=xx at *
      have HXX:=Lib.hid hxx
      clear hxx
      by_cases hlong:4096<(trimL xx).length
      · have hd:decide (4096<(trimL xx).length)=true:=decide_eq_true hlong
        have HL:Hid (longL xss xss.length):=Lib.hid ⟨k,hlt,by rw [HXX.out]; exact HLG.out.1 hlong⟩
        clear hlong hzv
        go_wp2_with fail
        refine (trim_any HSU.out).mono ?_
        rintro e w' ⟨v',rfl,hs',rfl⟩
        have HS':=Lib.hid hs'; clear hs'
        go_wp2_with fail
        refine (tooLong_any HS'.out).mono ?_
        rintro e w' ⟨rfl,rfl⟩
        go_wp2
        go_ret2
        exact ⟨_,by rw [show mulE xss=5 from if_pos HL.out]; rfl,by rw [show mulN xss=0 from if_pos HL.out]; exact num_nil _,Below.refl _ _⟩
      · have hd:decide (4096<(trimL xx).length)=false:=decide_eq_false hlong
        have HNL2:Hid (¬ longL xss (k+1)):=Lib.hid fun ⟨j,hj,hjl⟩=>by
          by_cases e:j=k
          · subst e; rw [HXX.out] at hjl; exact hlong (HLG.out.2 hjl)
          · exact HNLO.out ⟨j,by omega,hjl⟩
        have hzs:=HZS.out
        subst hzv
        generalize hz0:zeroL xss k=z at *
        have HZ0:=Lib.hid hz0
        clear hlong hz0
        by_cases hn0:(trimL xx).length=0
        · have hd0:=len_eq hn0
          have HZZ:Hid (zeroL xss (k+1)=true):=Lib.hid (by rw [hzs]; simp [HZ.out.1 hn0])
          clear hn0 hzs
          cases z
          all_goals
            go_wp2_with fail
            refine (trim_any HSU.out).mono ?_
            rintro e w' ⟨v',rfl,hs',rfl⟩
            obtain ⟨a2,c2,rfl⟩:=hs'.shape
            have HS':=Lib.hid hs'; clear hs'
            go_wp2_with fail
            refine (tooLong_any HS'.out).mono ?_
            rintro e w' ⟨rfl,rfl⟩
            go_wp2
            go_round
            case rel=>exact ⟨k+1,by omega,by go_num,by rw [HZZ.out],HNL2.out⟩
            case measure=>simp [intOf]; omega
        · have hd0:=len_ne hn0
          have HZZ:Hid (zeroL xss (k+1)=z):=Lib.hid (by
            rw [hzs]
            have:¬ val B64 xx=0:=fun h=>hn0 (HZ.out.2 h)
            simp [this])
          clear hn0 hzs
          cases z
          all_goals
            go_wp2_with fail
            refine (trim_any HSU.out).mono ?_
            rintro e w' ⟨v',rfl,hs',rfl⟩
            obtain ⟨a2,c2,rfl⟩:=hs'.shape
            have HS':=Lib.hid hs'; clear hs'
            go_wp2_with fail
            refine (tooLong_any HS'.out).mono ?_
            rintro e w' ⟨rfl,rfl⟩
            go_wp2
            go_round
            case rel=>exact ⟨k+1,by omega,by go_num,by rw [HZZ.out],HNL2.out⟩
            case measure=>simp [intOf]; omega
    · have hkl:k=xss.length:=by omega
      subst hzv
      have HKL:=Lib.hid hkl
      have HN:Hid (¬ longL xss xss.length):=Lib.hid (by rw [← hkl]; exact HNLO.out)
      have hz1:zeroL xss k=zeroL xss xss.length:=by rw [← hkl]
      clear hkl
      generalize hz0:zeroL xss k=z at *
      have e1:mulE xss=cutE (prodL xss):=if_neg HN.out
      have e2:mulN xss=cutN (prodL xss):=if_neg HN.out
      have E1:=Lib.hid e1; have E2:=Lib.hid e2; have HZ1:=Lib.hid hz1
      clear e1 e2 hz0 hz1
      cases z
      · have hall:∀ x∈xss,Lim B64 x∧0<val B64 x∧val B64 x<Big:=by
          intro x hx
          obtain ⟨j,hj,rfl⟩:=getDL_mem hx
          refine ⟨HA.out j, ?_, ?_⟩
          · have:=HZ1.out
            unfold zeroL at this
            rw [List.take_length] at this
            have h0:=List.any_eq_false.1 this.symm _ hx
            exact Nat.pos_of_ne_zero fun e=>h0 (by rw [e]; rfl)
          · rcases Nat.lt_or_ge (val B64 (xss.getD j [])) Big with h | h
            · exact h
            · exact absurd ⟨j,hj,h⟩ HN.out
        have HP:=Lib.hid (product_any xss.length w _ xss (Nat.le_refl _) HNL.out hall)
        clear hall
        go_wp2_with fail
        refine HP.out.mono ?_
        rintro e w1 ⟨v1,rfl,hn1,hb1⟩
        have HN1:=Lib.hid hn1; have HB1:=Lib.hid hb1
        clear hn1 hb1
        go_wp2
        go_ret2
        exact ⟨_,by rw [E1.out]; rfl,by rw [E2.out]; exact HN1.out,HB1.out⟩
      · have hp:prodL xss=0:=by
          have:=HZ1.out
          unfold zeroL at this
          rw [List.take_length] at this
          obtain ⟨x,hx,h0⟩:=List.any_eq_true.1 this.symm
          exact prodL_zero hx (by simpa using h0)
        have hc:=cut_small (n:=0) (by have:=one_lt_big; omega)
        rw [← hp] at hc
        have HC:=Lib.hid hc
        have HP:=Lib.hid hp
        clear hc hp
        go_wp2
        go_ret2
        exact ⟨_,by rw [E1.out,HC.out.2]; rfl,by rw [E2.out,HC.out.1,HP.out]; exact num_nil _,Below.refl _ _⟩
end Go.Proofs.YtacbkpenohcgjaaGreat
