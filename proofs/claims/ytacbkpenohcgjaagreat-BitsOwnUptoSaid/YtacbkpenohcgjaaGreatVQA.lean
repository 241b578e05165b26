import Derived.Test.YtacbkpenohcgjaaGreatVDV
import Derived.Test.YtacbkpenohcgjaaGreatVMA
import Derived.Deep.QuietTactic
import Derived.BigQuiet
import Derived.Test.YtacbkpenohcgjaaGreatVRF
import Derived.StillTailTactics
set_option linter.unusedVariables false
set_option linter.unusedSimpArgs false
set_option maxHeartbeats 4000000
set_option maxRecDepth 100000
namespace Go.Proofs.YtacbkpenohcgjaaGreat
open Go.RowKit Mth
theorem takeTimes_any (g off cap:Nat) (R b:List Nat) (x:Nat) (bv:Value) (w:World) (hR:Row w 37 .u64 g R) (hlim:Lim B64 R) (hoff:off+b.length≤R.length) (hc1:b.length≤cap) (hc2:cap≤maxLen)
    (hb:Sl w .u64 bv b) (hbl:Lim B64 b) (hne:inBlock bv≠some g) (hp:0<b.length) (hx:x<B64) :
    Calls Tryz.prog 194 #[.slice (some ⟨g,off,none⟩) b.length cap,bv,.int .u64 ((x:Nat):Int)] w fun e w' =>
      ∃ c:Nat,e=.returned (.int .u64 (c:Int))∧∃ R',Row w' 37 .u64 g R'∧w.grownBy w' (some g)∧TkT R R' off b x b.length c:=by
  have hlen:=hb.len
  obtain ⟨bb,boff,bcap,rfl,hb1,hb2,hblt,hbc⟩:=hb.pos hp
  have hne':bb≠g:=by simpa [inBlock] using hne
  clear hne hb
  unfold maxLen at hc2 hb2
  have HX:=Lib.hid hx; have HL:=Lib.hid hlim; have HBL:=Lib.hid hbl; have HBC:=Lib.hid hbc; have HR:=Lib.hid hR
  clear hx hlim hbl hbc hR
  go_enter Tryz.func194,Tryz.ntmps194
  go_wp2
  go_loopw [7,15] (fun c i wr=>∃ k cc:Nat,k≤b.length∧i=.int .i64 k∧c=.int .u64 (cc:Int)∧∃ R',Row wr 37 .u64 g R'∧w.grownBy wr (some g)∧TkT R R' off b x k cc)
    (fun _ i _=>b.length - (intOf i).toNat)
  case atStart=>exact ⟨0,0,Nat.zero_le _,rfl,rfl,R,HR.out,World.grownBy.refl _ _,tkT_zero HL.out⟩
  case round =>
    obtain ⟨k,cc,hk,rfl,rfl,R',hR',hgr,hT⟩:=hrel
    by_cases hlt:k<b.length
    · have hcb:wr.cell? ⟨bb,boff+k,none⟩=some (.int .u64 ((b.getD k 0:Nat):Int)):=hgr.cell (HBC.out k hlt) (by simpa using hne')
      have hcr:wr.cell? ⟨g,off+k,none⟩=some (.int .u64 ((R'.getD (off+k) 0:Nat):Int)):=hR'.cell (by rw [hT.len]; omega)
      have hfr:wr.frozen? ⟨g,off+k,none⟩=false:=hR'.free _
      have HT:=Lib.hid hT; have HR':=Lib.hid hR'; have HG:=Lib.hid hgr
      clear hT hR' hgr
      have hsub:∀ (x y:Nat) (w:World),(callFunc 180 #[.int .u64 (x:Int),.int .u64 (y:Int),.int .u64 0]).run Tryz.prog w=.ok (.value (.tuple #[.int .u64 ((sLo x y 0:Nat):Int),.int .u64 ((sHi x y 0:Nat):Int)])) w:=fun x y w=>sub64_run x y 0 (by omega) w
      generalize hy:b.getD k 0=y at hcb
      generalize hs:R'.getD (off+k) 0=s at hcr
      have HY:=Lib.hid hy; have HS:=Lib.hid hs
      clear hy hs
      have hyl:y<B64:=by rw [← HY.out]; exact HBL.out k
      have hsl:s<B64:=by rw [← HS.out]; exact HT.out.lim _
      have HYL:=Lib.hid hyl; have HSL:=Lib.hid hsl
      clear hyl hsl
      go_wp2_with fail
      refine (mulAdd_any _ _ _ HX.out HYL.out HT.out.clt _).mono ?_
      rintro e w' ⟨rfl,rfl⟩
      go_wp2
      go_roundw
      case rel =>
        have hset:=HR'.out.set (off+k) (sLo s (pLo x y cc) 0)
        have hstep:=tkT_step HT.out HX.out HBL.out hlt hoff
        have hcl:=borrowT_lt (x:=x) (y:=y) (c:=cc) (s:=s) HX.out HYL.out HT.out.clt HSL.out
        rw [HY.out,HS.out] at hstep
        refine ⟨k+1,borrowT x y cc s,by omega,by go_num, ?_,_,hset.1,grown_trans' HG.out hset.2,hstep⟩
        have e3:=wrap_u64 _ hcl
        rw [← e3]
        simp [borrowT]
      case measure=>simp [intOf]; omega
    · have e:k=b.length:=by omega
      have HT:=Lib.hid hT; have HR':=Lib.hid hR'; have HG:=Lib.hid hgr; have E:=Lib.hid e
      clear hT hR' hgr e
      go_wp2
      go_ret
      have hT:=HT.out
      rw [E.out] at hT
      exact ⟨_,rfl,R',HR'.out,HG.out,hT⟩
theorem drawn_more {w w0:World} (h:Drawn w w0) (n:Nat):Drawn w (w0.drewN n):=by
  obtain ⟨m,rfl⟩:=h
  exact ⟨m+n,World.drewN_drewN _ _ _⟩
theorem Drawn.cell {w w':World} (h:Drawn w w') (a:Addr):w'.cell? a=w.cell? a:=by
  obtain ⟨m,rfl⟩:=h; rfl
def GuessO (w wr:World) (u v y1 y0:Nat) (qv rv:Value):Prop:=∃ q r:Nat,qv=.int .u64 (q:Int)∧rv=.int .u64 (r:Int)∧HalfG B64 u v y1 y0 q r∧r<B64∧q<B64∧Drawn w wr
theorem guess_le {q d0 r t0:Nat} (h:mHi q d0<r∨mHi q d0=r∧mLo q d0≤t0):q*d0≤r*B64+t0:=by
  have e:=m_eq q d0
  have h1:=mLo_lt q d0
  rcases h with h | ⟨h,h'⟩
  · have:(mHi q d0+1)*B64≤r*B64:=Nat.mul_le_mul_right _ h
    rw [Nat.add_mul,Nat.one_mul,Nat.mul_comm _ B64] at this
    omega
  · rw [h,Nat.mul_comm B64] at e; omega
theorem guess_gt {q d0 r t0:Nat} (h1:¬ mHi q d0<r) (h2:¬ (mHi q d0=r∧mLo q d0≤t0)) (ht:t0<B64):r*B64+t0<q*d0:=by
  have e:=m_eq q d0
  by_cases h:mHi q d0=r
  · rw [h,Nat.mul_comm B64] at e
    have:¬ mLo q d0≤t0:=fun h3=>h2 ⟨h,h3⟩
    omega
  · have:(r+1)*B64≤mHi q d0*B64:=Nat.mul_le_mul_right _ (by omega)
    rw [Nat.add_mul,Nat.one_mul,Nat.mul_comm _ B64,Nat.mul_comm (mHi q d0)] at this
    rw [Nat.mul_comm r]
    omega
def GuessP (t2 t1 t0 d1 d0 q:Nat):Prop:=(t2<d1∧q=hT B64 (t2*B64+t1) t0 / hY B64 d1 d0)∨(d1≤t2∧q=B64 - 1)
theorem guess_any (ga offa ca gb offb cb t2 t1 t0 d1 d0:Nat) (w:World) (_hca:3≤ca) (_hca2:ca≤maxLen) (_hcb:2≤cb) (_hcb2:cb≤maxLen)
    (c0:w.cell? ⟨ga,offa,none⟩=some (.int .u64 (t0:Int))) (c1:w.cell? ⟨ga,offa+1,none⟩=some (.int .u64 (t1:Int))) (c2:w.cell? ⟨ga,offa+2,none⟩=some (.int .u64 (t2:Int)))
    (e0:w.cell? ⟨gb,offb,none⟩=some (.int .u64 (d0:Int))) (e1:w.cell? ⟨gb,offb+1,none⟩=some (.int .u64 (d1:Int)))
    (l1:t1<B64) (l0:t0<B64) (k1:d1<B64) (k0:d0<B64) (hn:B64≤2*d1) :
    Calls Tryz.prog 193 #[.slice (some ⟨ga,offa,none⟩) 3 ca,.slice (some ⟨gb,offb,none⟩) 2 cb] w fun e w'=>∃ q,e=.returned (.int .u64 ((q:Nat):Int))∧q<B64∧GuessP t2 t1 t0 d1 d0 q∧Drawn w w':=by
  unfold maxLen at _hca2 _hcb2
  by_cases hge:d1≤t2
  · have d:decide ((d1:Int)≤(t2:Int))=true:=decide_eq_true (by omega)
    have dN:decide (d1≤t2)=true:=decide_eq_true hge
    have P:Hid (GuessP t2 t1 t0 d1 d0 (B64 - 1)):=Lib.hid (.inr ⟨hge,rfl⟩)
    clear hge l1 l0 k1 k0 hn
    go_enter Tryz.func193,Tryz.ntmps193
    go_wp2
    go_quiet (fail)
    go_wp2
    go_ret
    exact ⟨B64 - 1,rfl,by unfold B64; omega,P.out,⟨_,rfl⟩⟩
  · have d:decide ((d1:Int)≤(t2:Int))=false:=decide_eq_false (by omega)
    have dN:decide (d1≤t2)=false:=decide_eq_false hge
    have hd1:0<d1:=by have:=B64_pos; omega
    have hu:t2*B64+t1<hY B64 d1 d0:=by
      have:(t2+1)*B64≤d1*B64:=Nat.mul_le_mul_right _ (by omega)
      rw [Nat.add_mul,Nat.one_mul] at this
      unfold hY; omega
    have G:GoodY B64 d1 d0:=⟨k0,hn,hd1,by have:=B64_pos; omega⟩
    have HS:=half_start hu l0 G
    have HLT:=Lib.hid (half_lt hu l0)
    have hr0:(t2*B64+t1) % d1<d1:=Nat.mod_lt _ hd1
    have hq0:(t2*B64+t1) / d1<B64:=dgQ_lt (by omega) l1
    have DV:=fun w=>div64_drawn t2 t1 d1 (by omega) l1 k1 w
    have PP:Hid (∀ q,q=hT B64 (t2*B64+t1) t0 / hY B64 d1 d0→GuessP t2 t1 t0 d1 d0 q):=Lib.hid fun q h=>.inl ⟨by omega,h⟩
    generalize (t2*B64+t1) / d1=q0 at *
    generalize (t2*B64+t1) % d1=r0 at *
    generalize t2*B64+t1=u at *
    have HC0:=Lib.hid c0; have HE0:=Lib.hid e0; have HE1:=Lib.hid e1
    have HG:=Lib.hid G; have HSS:=Lib.hid HS; have DVV:=Lib.hid DV; have L0:=Lib.hid l0; have K1:=Lib.hid k1; have K0:=Lib.hid k0; have HR0:=Lib.hid hr0; have HQ0:=Lib.hid hq0
    clear G HS DV l1 l0 k1 k0 hn hu hr0 hq0 hge hd1
    go_enter Tryz.func193,Tryz.ntmps193
    go_wp2
    go_quiet (fail)
    go_wp2
    have f0:(w.drewN nq).cell? ⟨ga,offa,none⟩=some (.int .u64 (t0:Int)):=c0
    have f1:(w.drewN nq).cell? ⟨ga,offa+1,none⟩=some (.int .u64 (t1:Int)):=c1
    have f2:(w.drewN nq).cell? ⟨ga,offa+2,none⟩=some (.int .u64 (t2:Int)):=c2
    have g0:(w.drewN nq).cell? ⟨gb,offb,none⟩=some (.int .u64 (d0:Int)):=e0
    have g1:(w.drewN nq).cell? ⟨gb,offb+1,none⟩=some (.int .u64 (d1:Int)):=e1
    have HW:Hid (Drawn w (w.drewN nq)):=Lib.hid ⟨nq,rfl⟩
    clear c0 c1 c2 e0 e1
    generalize w.drewN nq=w0 at *
    go_quiet ((go_at_call 190; exact Calls.quiet_of (DVV.out _)))
    go_wp2
    go_loopw [5,6] (fun qv rv wr=>GuessO w wr u t0 d1 d0 qv rv) (fun qv _ _=>(intOf qv).toNat)
    case atStart=>exact ⟨q0,r0,rfl,rfl,HSS.out,Nat.lt_trans HR0.out K1.out,HQ0.out,drawn_more HW.out _⟩
    case round =>
      obtain ⟨q,r,rfl,rfl,hG,hr,hq,hdr⟩:=hrel
      have h0:wr.cell? ⟨ga,offa,none⟩=some (.int .u64 (t0:Int)):=(hdr.cell _).trans HC0.out
      have i0:wr.cell? ⟨gb,offb,none⟩=some (.int .u64 (d0:Int)):=(hdr.cell _).trans HE0.out
      have i1:wr.cell? ⟨gb,offb+1,none⟩=some (.int .u64 (d1:Int)):=(hdr.cell _).trans HE1.out
      have HDR:=Lib.hid hdr
      clear hdr
      have HGG:=Lib.hid hG
      have ST:Hid (q*d0≤r*B64+t0→q=hT B64 u t0 / hY B64 d1 d0):=Lib.hid (half_stop hG HG.out)
      have MO:Hid (r*B64+t0<q*d0→1≤q∧HalfG B64 u t0 d1 d0 (q - 1) (r+d1)):=Lib.hid (fun h=>half_more hG HLT.out HG.out (.inr h))
      have ML:=fun w=>mul64_any q d0 hq K0.out w
      have HQ:=Lib.hid hq; have HR:=Lib.hid hr
      have hadd:=fun w=>add64_run0 r d1 w
      clear hG hr hq
      by_cases hlt:mHi q d0<r
      · have hd1:decide (mHi q d0<r)=true:=decide_eq_true hlt
        have hd2:decide (((mHi q d0:Nat):Int)<(r:Int))=true:=decide_eq_true (by omega)
        have Q:=Lib.hid (PP.out _ (ST.out (guess_le (.inl hlt))))
        clear hlt hadd
        generalize mHi q d0=hh at *
        generalize mLo q d0=ll at *
        go_wp2_with fail
        refine (ML _).mono ?_
        rintro e w' ⟨rfl,rfl⟩
        go_wp2
        go_ret
        exact ⟨q,rfl,HQ.out,Q.out,HDR.out⟩
      · have hd1:decide (mHi q d0<r)=false:=decide_eq_false hlt
        have hd2:decide (((mHi q d0:Nat):Int)<(r:Int))=false:=decide_eq_false (by omega)
        by_cases heq:mHi q d0=r∧mLo q d0≤t0
        · have hd3:(((mHi q d0:Nat):Int) == (r:Int))=true:=by rw [heq.1]; simp
          have hd4:decide (mLo q d0≤t0)=true:=decide_eq_true heq.2
          have hd5:decide (((mLo q d0:Nat):Int)≤(t0:Int))=true:=decide_eq_true (by omega)
          have Q:=Lib.hid (PP.out _ (ST.out (guess_le (.inr heq))))
          clear hlt hadd heq
          generalize mHi q d0=hh at *
          generalize mLo q d0=ll at *
          go_wp2_with fail
          refine (ML _).mono ?_
          rintro e w' ⟨rfl,rfl⟩
          go_wp2
          go_ret
          exact ⟨q,rfl,HQ.out,Q.out,HDR.out⟩
        · have M2:=Lib.hid (MO.out (guess_gt hlt heq L0.out))
          have hq1:1≤q:=M2.out.1
          have hwq:IntKind.u64.wrap ((q:Int) - 1)=((q - 1:Nat):Int):=by
            have:=HQ.out
            unfold B64 at this
            rw [IntKind.wrap_u64]; omega
          have QM:Hid (q - 1<q):=Lib.hid (by omega)
          have QB:Hid (q - 1<B64):=Lib.hid (by have:=HQ.out; omega)
          have hcase:(((mHi q d0:Nat):Int) == (r:Int))=false∨(((mHi q d0:Nat):Int) == (r:Int))=true∧decide (mLo q d0≤t0)=false∧decide (((mLo q d0:Nat):Int)≤(t0:Int))=false:=by
            by_cases h:mHi q d0=r
            · right
              have h2:¬ mLo q d0≤t0:=fun h2=>heq ⟨h,h2⟩
              exact ⟨by rw [h]; simp,decide_eq_false h2,decide_eq_false (by omega)⟩
            · left
              exact beq_eq_false_iff_ne.2 (by omega)
          generalize hqq:q - 1=q2 at *
          clear hlt heq hqq hq1
          generalize mHi q d0=hh at *
          generalize mLo q d0=ll at *
          by_cases hov:B64≤r+d1
          · have hA:aHi r d1 0=1:=by
              have h1:=aHi_le (x:=r) (y:=d1) (c:=0) HR.out K1.out (by omega)
              have h2:=a_eq r d1 0
              have h3:=aLo_lt r d1 0
              rcases Nat.eq_zero_or_pos (aHi r d1 0) with h0 | h0
              · rw [h0] at h2; omega
              · omega
            rw [hA] at hadd
            have Q:=Lib.hid (PP.out _ (half_break M2.out.2 HG.out (by have:=QB.out; omega) hov))
            generalize aLo r d1 0=rr at *
            have hadd2:∀ w,(callFunc 172 #[.int .u64 (r:Int),.int .u64 (d1:Int),.int .u64 0]).run Tryz.prog w=.ok (.value (.tuple #[.int .u64 (rr:Int),.int .u64 1])) w:=hadd
            clear hadd hA hov
            rcases hcase with h1 | ⟨h1,h2,h3⟩<;>(
              go_wp2_with fail
              refine (ML _).mono ?_
              rintro e w' ⟨rfl,rfl⟩
              go_wp2
              go_ret
              exact ⟨q2,rfl,QB.out,Q.out,HDR.out⟩)
          · have hA:aHi r d1 0=0:=by
              have h2:=a_eq r d1 0
              rcases Nat.eq_zero_or_pos (aHi r d1 0) with h0 | h0
              · exact h0
              · have:B64*1≤B64*aHi r d1 0:=Nat.mul_le_mul_left _ h0
                omega
            have hL:aLo r d1 0=r+d1:=by
              have h2:=a_eq r d1 0
              rw [hA] at h2; omega
            rw [hA,hL] at hadd
            have R2:Hid (r+d1<B64):=Lib.hid (by omega)
            have H2:=Lib.hid M2.out.2
            generalize r+d1=rr at *
            have hadd2:∀ w,(callFunc 172 #[.int .u64 (r:Int),.int .u64 (d1:Int),.int .u64 0]).run Tryz.prog w=.ok (.value (.tuple #[.int .u64 (rr:Int),.int .u64 0])) w:=hadd
            clear hadd hA hL hov
            rcases hcase with h1 | ⟨h1,h2,h3⟩<;>(
              go_wp2_with fail
              refine (ML _).mono ?_
              rintro e w' ⟨rfl,rfl⟩
              go_wp2
              go_roundw
              case rel=>exact ⟨q2,rr,rfl,rfl,H2.out,R2.out,QB.out,HDR.out⟩
              case measure=>have:=QM.out; simp [intOf]; omega)
def guessF (t2 t1 t0 d1 d0:Nat):Nat:=if t2<d1 then hT B64 (t2*B64+t1) t0 / hY B64 d1 d0 else B64 - 1
theorem guessF_P (t2 t1 t0 d1 d0:Nat):GuessP t2 t1 t0 d1 d0 (guessF t2 t1 t0 d1 d0):=by
  unfold GuessP guessF
  by_cases h:t2<d1
  · rw [if_pos h]; exact .inl ⟨h,rfl⟩
  · rw [if_neg h]; exact .inr ⟨by omega,rfl⟩
theorem guessF_eq {t2 t1 t0 d1 d0 q:Nat} (h:GuessP t2 t1 t0 d1 d0 q):q=guessF t2 t1 t0 d1 d0:=by
  unfold guessF
  rcases h with ⟨h1,h2⟩ | ⟨h1,h2⟩
  · rw [if_pos h1]; exact h2
  · rw [if_neg (by omega)]; exact h2
theorem guessF_lt {t2 t1 t0 d1 d0:Nat} (l1:t1<B64) (l0:t0<B64):guessF t2 t1 t0 d1 d0<B64:=by
  unfold guessF
  by_cases h:t2<d1
  · rw [if_pos h]
    refine half_lt ?_ l0
    have:(t2+1)*B64≤d1*B64:=Nat.mul_le_mul_right _ h
    rw [Nat.add_mul,Nat.one_mul] at this
    unfold hY; omega
  · rw [if_neg h]; have:=B64_pos; omega
end Go.Proofs.YtacbkpenohcgjaaGreat
namespace Go.Proofs.YtacbkpenohcgjaaGreat
open Go.RowKit Mth
theorem seg_three {R:List Nat} {off m:Nat} (h:off+(m+3)≤R.length) :
    seg R off (m+3)=((R.getD (off+m+2) 0*B64+R.getD (off+m+1) 0)*B64+R.getD (off+m) 0)*B64 ^ m+seg R off m:=by
  have s1:=seg_succ R off (m+2) (by omega)
  have s2:=seg_succ R off (m+1) (by omega)
  have s3:=seg_succ R off m (by omega)
  rw [show off+(m+2)=off+m+2 by omega,show B64 ^ (m+2)=B64 ^ m*B64*B64 by rw [Nat.pow_succ,Nat.pow_succ]] at s1
  rw [show off+(m+1)=off+m+1 by omega,Nat.pow_succ] at s2
  rw [show m+3=m+2+1 from rfl,s1,show m+2=m+1+1 from rfl,s2,s3]
  generalize R.getD (off+m+2) 0=a
  generalize R.getD (off+m+1) 0=b
  generalize R.getD (off+m) 0=c
  rw [Nat.add_mul,Nat.add_mul,Nat.add_mul]
  have e1:B64 ^ m*B64*B64*a=a*B64*B64*B64 ^ m:=by
    rw [Nat.mul_comm _ a,Nat.mul_assoc a,Nat.mul_assoc a,Nat.mul_assoc (B64 ^ m),Nat.mul_comm (B64 ^ m)]
  have e2:B64 ^ m*B64*b=b*B64*B64 ^ m:=by
    rw [Nat.mul_comm _ b,Nat.mul_assoc b,Nat.mul_comm (B64 ^ m)]
  have e3:B64 ^ m*c=c*B64 ^ m:=Nat.mul_comm _ _
  rw [e1,e2,e3]
  omega
theorem val_two {d:List Nat} {m:Nat} (h:d.length=m+2):val B64 d=(d.getD (m+1) 0*B64+d.getD m 0)*B64 ^ m+val B64 (d.take m):=by
  have e:val B64 d=val B64 (d.take (m+2)):=by rw [List.take_of_length_le (by omega)]
  rw [e,show m+2=m+1+1 from rfl,val_take_succ B64 d (m+1) (by omega),val_take_succ B64 d m (by omega),Nat.add_mul,Nat.pow_succ]
  have e2:B64 ^ m*B64*d.getD (m+1) 0=d.getD (m+1) 0*B64*B64 ^ m:=by
    rw [Nat.mul_comm _ (d.getD (m+1) 0),Nat.mul_assoc (d.getD (m+1) 0),Nat.mul_comm (B64 ^ m)]
  have e3:B64 ^ m*d.getD m 0=d.getD m 0*B64 ^ m:=Nat.mul_comm _ _
  rw [e2,e3]
  omega
theorem guess_all {R d:List Nat} {off m q:Nat} (lR:Lim B64 R) (ld:Lim B64 d) (hd:d.length=m+2) (hoff:off+(m+3)≤R.length) (hn:B64≤2*d.getD (m+1) 0) (hP:seg R off (m+3)<B64*val B64 d) (hq:q<B64)
    (h:GuessP (R.getD (off+m+2) 0) (R.getD (off+m+1) 0) (R.getD (off+m) 0) (d.getD (m+1) 0) (d.getD m 0) q) :
    seg R off (m+3) / val B64 d≤q∧q≤seg R off (m+3) / val B64 d+1:=by
  have e1:=seg_three hoff
  have e2:=val_two hd
  have s1:=seg_lt lR off m
  have s2:=val_take_lt (by have:=B64_pos; omega) ld m (by omega)
  have hd1:1≤d.getD (m+1) 0:=by have:=B64_pos; omega
  have l0:=ld m
  rcases h with ⟨h1,h2⟩ | ⟨h1,h2⟩
  · refine guess_ok e1 s1 e2 s2 ?_ h2 hq
    have:1*B64≤d.getD (m+1) 0*B64:=Nat.mul_le_mul_right _ hd1
    omega
  · rw [h2]
    have hM:0<B64 ^ m:=Nat.pow_pos (by have:=B64_pos; omega)
    refine guess_top (N:=B64*B64 ^ m) (d:=d.getD (m+1) 0) (t:=R.getD (off+m+2) 0) ?_ ?_ h1 hn (by have:=B64_pos; omega) ?_ hP
    · rw [e2]
      generalize d.getD (m+1) 0=a at *
      generalize d.getD m 0=b at *
      generalize val B64 (d.take m)=t at *
      have h3:(a*B64+b+1)*B64 ^ m≤((a+1)*B64)*B64 ^ m:=Nat.mul_le_mul_right _ (by rw [Nat.add_mul,Nat.one_mul]; omega)
      rw [Nat.add_mul _ 1,Nat.one_mul] at h3
      rw [← Nat.mul_assoc]
      omega
    · rw [e1]
      generalize R.getD (off+m+2) 0=a at *
      generalize R.getD (off+m+1) 0=b at *
      generalize R.getD (off+m) 0=c at *
      have h3:(a*B64)*B64*B64 ^ m≤((a*B64+b)*B64+c)*B64 ^ m:=Nat.mul_le_mul_right _ (by rw [Nat.add_mul]; omega)
      have h4:a*(B64*(B64*B64 ^ m))=(a*B64)*B64*B64 ^ m:=by rw [Nat.mul_assoc,Nat.mul_assoc]
      rw [h4]
      omega
    · rw [e2]
      have:0<(d.getD (m+1) 0*B64+d.getD m 0)*B64 ^ m:=Nat.mul_pos (by have:=Nat.mul_pos hd1 (show 0<B64 by have:=B64_pos; omega); omega) hM
      omega
theorem guess_at (ga offa ca gb offb cb t2 t1 t0 d1 d0:Nat) (w:World) (hca:3≤ca) (hca2:ca≤maxLen) (hcb:2≤cb) (hcb2:cb≤maxLen)
    (c0:w.cell? ⟨ga,offa,none⟩=some (.int .u64 (t0:Int))) (c1:w.cell? ⟨ga,offa+1,none⟩=some (.int .u64 (t1:Int))) (c2:w.cell? ⟨ga,offa+2,none⟩=some (.int .u64 (t2:Int)))
    (e0:w.cell? ⟨gb,offb,none⟩=some (.int .u64 (d0:Int))) (e1:w.cell? ⟨gb,offb+1,none⟩=some (.int .u64 (d1:Int)))
    (l1:t1<B64) (l0:t0<B64) (k1:d1<B64) (k0:d0<B64) (hn:B64≤2*d1) :
    Calls Tryz.prog 193 #[.slice (some ⟨ga,offa,none⟩) 3 ca,.slice (some ⟨gb,offb,none⟩) 2 cb] w fun e w'=>e=.returned (.int .u64 ((guessF t2 t1 t0 d1 d0:Nat):Int))∧Drawn w w':=by
  refine (guess_any ga offa ca gb offb cb t2 t1 t0 d1 d0 w hca hca2 hcb hcb2 c0 c1 c2 e0 e1 l1 l0 k1 k0 hn).mono ?_
  rintro e w' ⟨q,rfl,_,hP,hd⟩
  exact ⟨by rw [guessF_eq hP],hd⟩
theorem takeQuotient_any (gr off cap gd m dc:Nat) (R dl:List Nat) (w:World) (hR:Row w 37 .u64 gr R) (lR:Lim B64 R) (hD:Sl w .u64 (.slice (some ⟨gd,0,none⟩) (m+2) dc) dl) (lD:Lim B64 dl) (hdl:dl.length=m+2)
    (hne:gd≠gr) (hn:B64≤2*dl.getD (m+1) 0) (hoff:off+(m+3)≤R.length) (hcap:m+3≤cap) (hcm:cap≤maxLen) (hP:seg R off (m+3)<B64*val B64 dl) (hRl:R.length≤16777217) :
    Calls Tryz.prog 192 #[.slice (some ⟨gr,off,none⟩) (m+3) cap,.slice (some ⟨gd,0,none⟩) (m+2) dc] w fun e w' =>
      ∃ R',e=.returned (.int .u64 ((seg R off (m+3) / val B64 dl:Nat):Int))∧Row w' 37 .u64 gr R'∧w.grownBy w' (some gr)∧DigT R R' off (m+2) (val B64 dl):=by
  have hD':=hD
  obtain ⟨ao,cap',eD,h1,h2,h3,h4,h5⟩:=hD'
  obtain ⟨b5,o5,e5,hblt,hdc⟩:=h5 (by omega)
  rw [hdl] at eD
  subst e5
  simp only [Value.slice.injEq,Option.some.injEq,Addr.mk.injEq,and_true,true_and] at eD
  obtain ⟨⟨rfl,rfl⟩,rfl⟩:=eD
  have D0:Hid (0<val B64 dl):=Lib.hid (by
    rcases Nat.eq_zero_or_pos (val B64 dl) with h0 | h0
    · rw [h0] at hP; omega
    · exact h0)
  have hm:m≤16777216:=by omega
  have hc0:w.cell? ⟨gr,off+m,none⟩=some (.int .u64 ((R.getD (off+m) 0:Nat):Int)):=hR.cell (by omega)
  have hc1:w.cell? ⟨gr,off+m+1,none⟩=some (.int .u64 ((R.getD (off+m+1) 0:Nat):Int)):=hR.cell (by omega)
  have hc2:w.cell? ⟨gr,off+m+2,none⟩=some (.int .u64 ((R.getD (off+m+2) 0:Nat):Int)):=hR.cell (by omega)
  have he0:w.cell? ⟨gd,m,none⟩=some (.int .u64 ((dl.getD m 0:Nat):Int)):=by have:=hdc m (by omega); rwa [Nat.zero_add] at this
  have he1:w.cell? ⟨gd,m+1,none⟩=some (.int .u64 ((dl.getD (m+1) 0:Nat):Int)):=by have:=hdc (m+1) (by omega); rwa [Nat.zero_add] at this
  unfold maxLen at hcm h2
  obtain ⟨q,hq⟩:∃ q,q=guessF (R.getD (off+m+2) 0) (R.getD (off+m+1) 0) (R.getD (off+m) 0) (dl.getD (m+1) 0) (dl.getD m 0):=⟨_,rfl⟩
  have hqlt:q<B64:=by rw [hq]; exact guessF_lt (lR _) (lR _)
  have GQ:=Lib.hid (guess_all lR lD hdl hoff hn hP hqlt (by rw [hq]; exact guessF_P _ _ _ _ _))
  have ga:∀ nn,Calls Tryz.prog 193 #[.slice (some ⟨gr,off+m,none⟩) 3 (cap - m),.slice (some ⟨gd,m,none⟩) 2 (dc - m)] (w.drewN nn) fun e w'=>e=.returned (.int .u64 (q:Int))∧Drawn (w.drewN nn) w':=fun nn=>by
    rw [hq]
    exact guess_at gr (off+m) (cap - m) gd m (dc - m) _ _ _ _ _ (w.drewN nn) (by omega) (by unfold maxLen; omega) (by omega) (by unfold maxLen; omega) hc0 hc1 hc2 he0 he1 (lR _) (lR _) (lD _) (lD _) hn
  have GA:=Lib.hid ga; have HQ:=Lib.hid hqlt
  have HR:=Lib.hid hR; have LR:=Lib.hid lR; have HD:=Lib.hid hD; have LD:=Lib.hid lD; have HDL:=Lib.hid hdl; have HNE:=Lib.hid hne; have HOFF:=Lib.hid hoff; have HRL:=Lib.hid hRl
  have hdc2:m+2≤dc:=by omega
  clear hc0 hc1 hc2 he0 he1 hR lR hD lD hdl hne hn hP hdc h1 h3 h4 h5 hoff hRl ga hq hqlt
  go_enter Tryz.func192,Tryz.ntmps192
  go_wp2
  have hw2:IntKind.i64.wrap (m:Int)=(m:Int):=by rw [IntKind.wrap_i64]; omega
  have hcm1:¬ cap=m:=by omega
  have hcm2:¬ dc=m:=by omega
  have hcm3:(m:Int)≤(m:Int)+3:=by omega
  have hcm4:(m:Int)≤(m:Int)+2:=by omega
  go_quiet ((go_at_call 193; have GG:=GA.out; exact Calls.quiet_of (GG _)))
  have HR0:Hid (Row (w.drewN nq) 37 .u64 gr R):=Lib.hid HR.out
  have HD0:Hid (Sl (w.drewN nq) .u64 (.slice (some ⟨gd,0,none⟩) (m+2) dc) dl):=Lib.hid HD.out
  have HG0:Hid (w.grownBy (w.drewN nq) (some gr)):=Lib.hid ⟨rfl,rfl,rfl,Nat.le_refl _,fun _ _ _=>rfl⟩
  clear hw2 hcm1 hcm2 hcm3 hcm4
  generalize w.drewN nq=w0 at *
  have TT:=takeTimes_any gr off cap R dl q _ w0 HR0.out LR.out (by rw [HDL.out]; have:=HOFF.out; omega) (by rw [HDL.out]; omega) (by unfold maxLen; omega) HD0.out LD.out (by have:=HNE.out; simpa [inBlock] using this) (by rw [HDL.out]; omega) HQ.out
  rw [HDL.out] at TT
  have TTT:=Lib.hid TT; clear TT
  go_wp2_with fail
  refine TTT.out.mono ?_
  rintro e w1 ⟨c,rfl,R1,hr1,hg1,ht1⟩
  have hcell:w1.cell? ⟨gr,off+(m+2),none⟩=some (.int .u64 ((R1.getD (off+(m+2)) 0:Nat):Int)):=hr1.cell (by rw [ht1.len]; have:=HOFF.out; omega)
  have hfr:w1.frozen? ⟨gr,off+(m+2),none⟩=false:=hr1.free _
  have hplt:=ht1.lim (off+(m+2))
  have hclt:=ht1.clt
  have FINE:=Lib.hid (fun h=>dig_fine ht1 HDL.out.symm (by have:=HOFF.out; omega) GQ.out.1 h D0.out)
  have OVQ:=Lib.hid (fun h=>dig_over_q ht1 HDL.out.symm (by have:=HOFF.out; omega) GQ.out.1 GQ.out.2 h)
  have OV:=Lib.hid (fun R3 c3 h1 h2 h3 h4=>dig_over (R3:=R3) (c3:=c3) ht1 HDL.out.symm LD.out (by have:=HOFF.out; omega) h1 h2 h3 D0.out h4)
  have L1:=Lib.hid ht1.lim; have LEN1:=Lib.hid ht1.len
  have HR1:=Lib.hid hr1; have HG1:=Lib.hid hg1
  have HD1:=Lib.hid (HD0.out.grown hg1 (.inl (by have:=HNE.out; simpa [inBlock] using this)))
  clear hr1 hg1 ht1
  generalize R1.getD (off+(m+2)) 0=p at *
  have HPL:=Lib.hid hplt; have HCL:=Lib.hid hclt
  clear hplt hclt
  by_cases hov:p<c
  · have hd:decide (p<c)=true:=decide_eq_true hov
    have OQ:=Lib.hid (OVQ.out hov)
    have OV2:=Lib.hid (fun R3 c3=>OV.out R3 c3 OQ.out.1 OQ.out.2 hov)
    obtain ⟨pp,hpp⟩:∃ pp,pp=p+B64 - c:=⟨_,rfl⟩
    have hw3:IntKind.u64.wrap ((p:Int) - (c:Int))=(pp:Int):=by
      have h1:=HPL.out; have h2:=HCL.out
      rw [hpp]; unfold B64 at *
      rw [IntKind.wrap_u64]; omega
    have hppl:pp<B64:=by have h1:=HPL.out; have h2:=HCL.out; omega
    have HPPL:=Lib.hid hppl
    rw [← hpp] at OV2
    obtain ⟨Q,hQ⟩:∃ Q,Q=seg R off (m+3) / val B64 dl:=⟨_,rfl⟩
    have hw4:IntKind.u64.wrap ((q:Int) - 1)=(Q:Int):=by
      have h1:=OQ.out.1; have h2:=HQ.out
      rw [show m+2+1=m+3 from rfl,← hQ] at h1
      unfold B64 at h2
      rw [IntKind.wrap_u64]; omega
    have HQQ:=Lib.hid hQ
    have hset:=HR1.out.set (off+(m+2)) pp
    have AD:=Lib.hid (addTo_any gr off (m+3) cap _ dl _ _ hset.1 (lim_set L1.out HPPL.out _) (HD1.out.grown hset.2 (.inl (by have:=HNE.out; simpa [inBlock] using this))) LD.out (.inl (by have:=HNE.out; simpa [inBlock] using this)) (by rw [HDL.out]; omega) (by rw [List.length_set,LEN1.out]; exact HOFF.out) hcap (by unfold maxLen; omega) (by rw [List.length_set,LEN1.out]; exact HRL.out))
    have HS:=Lib.hid hset.2
    clear hov hpp hQ hppl hset
    go_wp2_with fail
    refine AD.out.mono ?_
    rintro e w3 ⟨rfl,R3,c3,hr3,hg3,hp3⟩
    have HR3:=Lib.hid hr3; have HG3:=Lib.hid hg3; have HP3:=Lib.hid (OV2.out R3 c3 hp3)
    clear hr3 hg3 hp3
    go_wp2
    go_ret
    exact ⟨R3,by rw [← HQQ.out]; rfl,HR3.out,grown_trans' (grown_trans' (grown_trans' HG0.out HG1.out) HS.out) HG3.out,HP3.out⟩
  · have hd:decide (p<c)=false:=decide_eq_false hov
    have FN:=Lib.hid (FINE.out (by omega))
    obtain ⟨pp,hpp⟩:∃ pp,pp=p - c:=⟨_,rfl⟩
    have hw3:IntKind.u64.wrap ((p:Int) - (c:Int))=(pp:Int):=by
      have h1:=HPL.out; have h2:=HCL.out
      rw [hpp]; unfold B64 at *
      rw [IntKind.wrap_u64]; omega
    rw [← hpp] at FN
    have hset:=HR1.out.set (off+(m+2)) pp
    have HS:=Lib.hid hset
    clear hov hpp hset
    go_wp2
    go_ret
    exact ⟨_,by rw [show m+3=m+2+1 from rfl,← FN.out.1]; rfl,HS.out.1,grown_trans' (grown_trans' HG0.out HG1.out) HS.out.2,FN.out.2⟩
end Go.Proofs.YtacbkpenohcgjaaGreat
namespace Go.Proofs.YtacbkpenohcgjaaGreat
open Go.RowKit Mth
def Own (w:World) (base:Nat) (v:Value) (n:Nat):Prop :=
  (v=.slice none 0 0∧n=0)∨∃ g len cap R,v=.slice (some ⟨g,0,none⟩) len cap∧Row w 37 .u64 g R∧base≤g∧len≤R.length∧len≤cap∧cap≤maxLen∧R.length≤16777217∧Lim B64 R∧Top (R.take len)∧len≤16777216∧val B64 (R.take len)=n
theorem Own.num {w:World} {base n:Nat} {v:Value} (h:Own w base v n):Num w v n:=by
  rcases h with ⟨rfl,rfl⟩ | ⟨g,len,cap,R,rfl,h1,h2,h3,h4,h5,h6,h7,h8,h9,rfl⟩
  · exact num_nil w
  · have:=h1.sl (off:=0) (n:=len) (cap:=cap) (by omega) h4 h5 h9
    rw [List.drop_zero] at this
    exact ⟨_,this,lim_take (by have:=B64_pos; omega) h7 _,h8,rfl⟩
theorem Own.below {w w':World} {base n:Nat} {v:Value} (h:Own w base v n) (hb:Below w.heap.size w w'):Own w' base v n:=by
  rcases h with h | ⟨g,len,cap,R,h0,h1,h2⟩
  · exact .inl h
  · exact .inr ⟨g,len,cap,R,h0,h1.below hb,h2⟩
theorem Own.mono {w:World} {base base' n:Nat} {v:Value} (h:Own w base v n) (hb:base'≤base):Own w base' v n:=by
  rcases h with h | ⟨g,len,cap,R,h0,h1,h2,h3⟩
  · exact .inl h
  · exact .inr ⟨g,len,cap,R,h0,h1,by omega,h3⟩
theorem Own.drawn {w:World} {base n:Nat} {v:Value} (h:Own w base v n) (k:Nat):Own (w.drewN k) base v n:=h
def setV (ao:Option Addr) (cap:Nat) (xs:List Nat):Value:=if tlen xs=0 then .slice none 0 0 else .slice ao (tlen xs) cap
theorem settle_is {ao:Option Addr} {n cap:Nat} {xs:List Nat} {w:World} (h:Sl w .u64 (.slice ao n cap) xs) :
    Calls Tryz.prog 164 #[.slice ao n cap] w fun e w'=>e=.returned (setV ao cap xs)∧w'=w:=by
  have T:=Lib.hid (trim_eq' h)
  have hcap:cap≤maxLen:=by obtain ⟨_,_,e,_,h2,_⟩:=h; simp only [Value.slice.injEq] at e; obtain ⟨_,_,rfl⟩:=e; exact h2
  have hlen:tlen xs≤16777216:=Nat.le_trans (tlen_le xs) h.len
  unfold maxLen at hcap
  clear h
  unfold setV
  generalize tlen xs=m at *
  by_cases h0:m=0
  · have hd:=len_eq h0
    go_enter Tryz.func164,Tryz.ntmps164
    go_wp2_with fail
    refine T.out.mono ?_
    rintro e w' ⟨rfl,rfl⟩
    go_wp2
    go_ret
    exact ⟨rfl,rfl⟩
  · have hd:=len_ne h0
    go_enter Tryz.func164,Tryz.ntmps164
    go_wp2_with fail
    refine T.out.mono ?_
    rintro e w' ⟨rfl,rfl⟩
    go_wp2
    go_ret
    exact ⟨rfl,rfl⟩
theorem setV_own {w:World} {base g n cap:Nat} {R:List Nat} (h:Row w 37 .u64 g R) (hg:base≤g) (hn:n≤R.length) (hc:n≤cap) (hm:cap≤maxLen) (hR:R.length≤16777217) (lR:Lim B64 R) (hn2:n≤16777216) :
    Own w base (setV (some ⟨g,0,none⟩) cap (R.take n)) (val B64 (R.take n)):=by
  unfold setV
  have ht:=tlen_le (R.take n)
  rw [List.length_take,Nat.min_eq_left hn] at ht
  have e:(R.take n).take (tlen (R.take n))=R.take (tlen (R.take n)):=by rw [List.take_take,Nat.min_eq_left ht]
  have hv:val B64 (R.take (tlen (R.take n)))=val B64 (R.take n):=by
    have:=val_trimL B64 (R.take n)
    unfold trimL at this
    rw [e] at this
    exact this
  have hT:Top (R.take (tlen (R.take n))):=by
    have:=top_trimL (R.take n)
    unfold trimL at this
    rw [e] at this
    exact this
  by_cases h0:tlen (R.take n)=0
  · rw [if_pos h0]
    rw [h0] at hv
    exact .inl ⟨rfl,by rw [← hv]; rfl⟩
  · rw [if_neg h0]
    exact .inr ⟨g,_,cap,R,rfl,h,hg,by omega,by omega,hm,hR,lR,hT,by omega,hv⟩
theorem long_zero {R0 xs dl:List Nat} {p m s:Nat} (hL:R0.length=p+m+3) (lR:Lim B64 R0) (lx:Lim B64 xs) (hx:xs.length=p+(m+2)) (hv:val B64 R0=2 ^ s*val B64 xs) (hs:s≤63) {D:Nat} (_hD:val B64 dl=D) (hn:2 ^ 63*B64 ^ (m+1)≤D) :
    LongT R0 (List.replicate (p+1) 0) (p+m+3) (p+1) (m+2) (2 ^ s*val B64 xs) D (p+1):=by
  refine ⟨hL,by simp,lR,fun j=>by rw [getD_replicate]; have:=B64_pos; omega, ?_, ?_⟩
  · rw [hv]
    have h1:=val_lt lx
    rw [hx] at h1
    have h2:2 ^ s≤2 ^ 63:=Nat.pow_le_pow_right (by omega) hs
    have h3:2 ^ s*val B64 xs<2 ^ 63*B64 ^ (p+(m+2)):=Nat.lt_of_le_of_lt (Nat.mul_le_mul_right _ h2) (Nat.mul_lt_mul_of_pos_left h1 (Nat.pow_pos (by omega)))
    have h4:B64 ^ (p+1)*(2 ^ 63*B64 ^ (m+1))≤B64 ^ (p+1)*D:=Nat.mul_le_mul_left _ hn
    rw [Nat.mul_left_comm,← Nat.pow_add,show p+1+(m+1)=p+(m+2) by omega] at h4
    omega
  · rw [hv,List.drop_of_length_le (by simp)]
    simp [val]
def LongQ (w wr:World) (gd gr gq L p m N D:Nat) (dl:List Nat) (i:Value):Prop:=∃ (k:Nat) (R Q:List Nat),k≤p+1∧i=.int .i64 ((k:Int) - 1)∧LongT R Q L (p+1) (m+2) N D k∧Row wr 37 .u64 gr R∧Row wr 37 .u64 gq Q∧Row wr 37 .u64 gd dl∧Below gd w wr
theorem divideLong_any (va vb:Value) (xs ys:List Nat) (m p:Nat) (w:World) (ha:Sl w .u64 va xs) (hb:Sl w .u64 vb ys) (la:Lim B64 xs) (lb:Lim B64 ys) (tb:Top ys) (hyl:ys.length=m+2) (hxl:xs.length=p+(m+2)) (hal:xs.length≤1000000) :
    Calls Tryz.prog 186 #[va,vb] w fun e w'=>∃ vq vr,e=.returned (.tuple #[vq,vr])∧Own w' w.heap.size vq (val B64 xs / val B64 ys)∧Own w' w.heap.size vr (val B64 xs % val B64 ys)∧Below w.heap.size w w':=by
  have htop:=tlen_top ys (by rw [tb]; omega)
  rw [tb,hyl,show m+2 - 1=m+1 by omega] at htop
  obtain ⟨m',hbl,g1,g2⟩:=bl_spec htop
  have hm64:m'+1≤64:=by rw [← hbl]; exact bl_le (lb _)
  obtain ⟨s,hs⟩:∃ s,s+(m'+1)=64:=⟨64 - (m'+1),by omega⟩
  have NF:=norm_facts lb (show ys.length=(m+1)+1 by omega) g1 g2 hs
  have LZ:=Lib.hid (lz_any (ys.getD (m+1) 0) (m'+1) s (lb _) hbl hs)
  have hs63:s≤63:=by omega
  obtain ⟨ab,aoff,acap,rfl,ha1,ha2,hablt,hac⟩:=ha.pos (by omega)
  obtain ⟨bb,boff,bcap,rfl,hb1,hb2,hbblt,hbc⟩:=hb.pos (by omega)
  have hbtop:=hbc (m+1) (by omega)
  have HA:=Lib.hid ha; have HB:=Lib.hid hb; have LA:=Lib.hid la; have LB:=Lib.hid lb; have HS:=Lib.hid hs; have HNF:=Lib.hid NF
  have hm6:m≤1000000:=by omega
  have hp6:p≤1000000:=by omega
  unfold maxLen at ha2 hb2
  rw [hyl] at HB hb1 ⊢
  rw [hxl] at HA ha1 ⊢
  have HYL:=Lib.hid hyl; have HXL:=Lib.hid hxl
  clear ha hb la lb tb hac hbc htop hbl g1 g2 NF hyl hxl hs hal
  generalize ys.getD (m+1) 0=tb at *
  go_enter Tryz.func186,Tryz.ntmps186
  go_wp2_with fail
  refine (LZ.out _).mono ?_
  rintro e w' ⟨rfl,rfl⟩
  go_wp2_with (at_make; refine make_nat rfl _ _ rfl _ _ (m+3) rfl rfl (by omega) (by omega) (by omega) ?_; intro w1 hrow hb1)
  have S0:=Lib.hid (shiftUp_any w.heap.size 0 (m+3) s (m'+1) (List.replicate (m+3) 0) ys _ w1 hrow (fun j=>by rw [getD_replicate]; have:=B64_pos; omega) (HB.out.below hb1) LB.out (by simp [inBlock]; omega) (by rw [List.length_replicate,HYL.out]; omega) (by rw [HYL.out]; omega) (maxLen_24 (by omega)) HS.out hs63 (by rw [List.length_replicate]; omega))
  rw [HYL.out] at S0
  have B1:=Lib.hid hb1
  clear hrow hb1
  go_wp2_with fail
  refine S0.out.mono ?_
  rintro e w2 ⟨rfl,D',hrd,hgd,hud⟩
  have hDl:D'.length=m+3:=by rw [hud.len,List.length_replicate]
  have hDv:val B64 (D'.take (m+2))=2 ^ s*val B64 ys:=by
    have h1:=hud.eq
    rw [HYL.out] at h1
    have h2:=seg_succ D' 0 (m+2) (by omega)
    rw [h1] at h2
    have h3:=HNF.out.1
    rw [show m+1+1=m+2 from rfl] at h3
    have h4:D'.getD (0+(m+2)) 0=0:=by
      rcases Nat.eq_zero_or_pos (D'.getD (0+(m+2)) 0) with h0 | h0
      · exact h0
      · have:B64 ^ (m+2)*1≤B64 ^ (m+2)*D'.getD (0+(m+2)) 0:=Nat.mul_le_mul_left _ h0
        omega
    rw [h4,Nat.mul_zero,Nat.add_zero] at h2
    rw [h2]
    simp [seg]
  have hDn:=norm_top hud.lim (n:=m+1) (by omega) hDv HNF.out.2
  have hDs:Sl w2 .u64 (.slice (some ⟨w.heap.size,0,none⟩) (m+2) (m+3)) (D'.take (m+2)):=by
    have:=hrd.sl (off:=0) (n:=m+2) (cap:=m+3) (by omega) (by omega) (maxLen_24 (by omega)) (by omega)
    rwa [List.drop_zero] at this
  have B2:=Lib.hid (below_of_grown B1.out hgd (Nat.le_refl _) B1.out.size)
  have HDS:=Lib.hid hDs; have HDN:=Lib.hid hDn; have HDV:=Lib.hid hDv; have HDL:=Lib.hid hDl; have LD:=Lib.hid hud.lim
  have HRD:=Lib.hid hrd
  clear hrd hgd hud hDl hDv hDn hDs
  have hszd:w.heap.size<w2.heap.size:=HRD.out.lt
  go_wp2_with (at_make; refine make_nat rfl _ _ rfl _ _ (p+m+3) rfl rfl (by omega) (by omega) (by omega) ?_; intro w3 hrow hb3)
  have S1:=Lib.hid (shiftUp_any w2.heap.size 0 (p+m+3) s (m'+1) (List.replicate (p+m+3) 0) xs _ w3 hrow (fun j=>by rw [getD_replicate]; have:=B64_pos; omega) (HA.out.below (below_step B2.out hb3)) LA.out (by simp [inBlock]; omega) (by rw [List.length_replicate,HXL.out]; omega) (by rw [HXL.out]; omega) (maxLen_24 (by omega)) HS.out hs63 (by rw [List.length_replicate]; omega))
  rw [HXL.out] at S1
  have B3:=Lib.hid (below_step B2.out hb3)
  have HRD3:=Lib.hid (HRD.out.below hb3)
  clear hrow hb3
  go_wp2_with fail
  refine S1.out.mono ?_
  rintro e w4 ⟨rfl,R0,hrr,hgr,hur⟩
  have hRl:R0.length=p+m+3:=by rw [hur.len,List.length_replicate]
  have hRv:val B64 R0=2 ^ s*val B64 xs:=by
    have h1:=hur
    rw [show p+m+3=0+xs.length+1 by rw [HXL.out]; omega] at h1
    have:=upAll_val h1
    rwa [Nat.mul_zero,Nat.zero_add] at this
  have ZZ:=Lib.hid (long_zero hRl hur.lim LA.out HXL.out hRv hs63 HDV.out HNF.out.2)
  have B4:=Lib.hid (below_of_grown B3.out hgr B2.out.size B3.out.size)
  have HRR:=Lib.hid hrr
  have HRD4:=Lib.hid (HRD3.out.grown hgr (by simp; omega))
  clear hrr hgr hur hRl hRv
  have hszr:w2.heap.size<w4.heap.size:=HRR.out.lt
  go_wp2_with (at_make; refine make_nat rfl _ _ rfl _ _ (p+1) rfl rfl (by omega) (by omega) (by omega) ?_; intro w5 hrow hb5)
  have HRQ:=Lib.hid hrow; have B5:=Lib.hid (below_step B4.out hb5)
  have HRD5:=Lib.hid (HRD4.out.below hb5); have HRR5:=Lib.hid (HRR.out.below hb5)
  clear hrow hb5
  have hszw:=B2.out.size
  have hszw4:=B4.out.size
  generalize hgd:w.heap.size=gd at *
  generalize hgr:w2.heap.size=gr at *
  generalize hgq:w4.heap.size=gq at *
  have HGD:=Lib.hid hgd; have HGR:=Lib.hid hgr; have HGQ:=Lib.hid hgq
  clear hgd hgr hgq
  go_loopw [11] (fun i wr=>LongQ w wr gd gr gq (p+m+3) p m (2 ^ s*val B64 xs) (2 ^ s*val B64 ys) D' i) (fun i _=>(intOf i+1).toNat)
  case atStart=>exact ⟨p+1,_,_,Nat.le_refl _,by congr 1; omega,ZZ.out,HRR5.out,HRQ.out,HRD5.out,B5.out⟩
  case round =>
    obtain ⟨k0,R,Q,hk,rfl,hT,hrow,hroq,hrod,hbel⟩:=hrel
    have HT:=Lib.hid hT; have HROW:=Lib.hid hrow; have HROQ:=Lib.hid hroq; have HROD:=Lib.hid hrod; have HBEL:=Lib.hid hbel
    by_cases hlt:0<k0
    · obtain ⟨k,rfl⟩:∃ k,k0=k+1:=⟨k0 - 1,by omega⟩
      have he:((k+1:Nat):Int) - 1=(k:Int):=by omega
      rw [he]
      have hD0:0<2 ^ s*val B64 ys:=by have h1:=hT.lt; rcases Nat.eq_zero_or_pos (2 ^ s*val B64 ys) with h0 | h0; (rw [h0] at h1; omega); exact h0
      have hDle:2 ^ s*val B64 ys≤B64 ^ (m+2):=Nat.le_of_lt HNF.out.1
      have hP:=long_part hT hDle (by omega)
      have hln:(D'.take (m+2)).length=m+2:=by rw [List.length_take,HDL.out]; omega
      have TQ:=takeQuotient_any gr k (p+m+3 - k) gd m (m+3) R (D'.take (m+2)) wr hrow hT.lim (by
          have:=hrod.sl (off:=0) (n:=m+2) (cap:=m+3) (by rw [HDL.out]; omega) (by omega) (maxLen_24 (by omega)) (by omega)
          rwa [List.drop_zero] at this) (lim_take (by have:=B64_pos; omega) LD.out _) hln (by omega) (by rw [getD_take,if_pos (by omega)]; exact HDN.out) (by rw [hT.len]; omega) (by omega) (maxLen_24 (by omega)) (by rw [HDV.out]; exact hP.2.2) (by rw [hT.len]; omega)
      have ST:=Lib.hid (fun R' h=>long_step (R':=R') hT hD0 hDle (by omega) (by omega) h)
      rw [HDV.out] at TQ
      have hzz:seg R k (m+2+1)=seg R k (m+3):=rfl
      rw [hzz] at ST
      obtain ⟨z,hz⟩:∃ z,z=seg R k (m+3) / (2 ^ s*val B64 ys):=⟨_,rfl⟩
      rw [← hz] at TQ ST
      have TQQ:=Lib.hid TQ
      have hql:=hT.qlen
      have HQL:=Lib.hid hql
      have hkp:k≤p:=by omega
      clear hT hrow hroq hrod hbel hP hln TQ hz hzz hD0 hDle hql
      go_wp2_with fail
      rw [show k+(m+2)+1 - k=m+3 by omega]
      refine TQQ.out.mono ?_
      rintro e w6 ⟨R',rfl,hr6,hg6,hd6⟩
      have hq6:=HROQ.out.grown hg6 (by simp; omega)
      have hcq:w6.cell? ⟨gq,k,none⟩=some (.int .u64 ((Q.getD k 0:Nat):Int)):=hq6.cell (by rw [HQL.out]; omega)
      have hfq:w6.frozen? ⟨gq,k,none⟩=false:=hq6.free _
      have HR6:=Lib.hid hr6; have HG6:=Lib.hid hg6; have HQ6:=Lib.hid hq6; have HN6:=Lib.hid (ST.out _ hd6)
      have HD6:=Lib.hid (HROD.out.grown hg6 (by simp; omega))
      generalize Q.getD k 0=qo at hcq
      clear hr6 hg6 hd6 hq6
      go_wp2
      go_roundw
      case rel =>
        have hset:=HQ6.out.set k z
        have hb6:=below_of_grown HBEL.out HG6.out (by omega) (by have:=HBEL.out.size; have:=HGD.out; omega)
        exact ⟨k,R',_,by omega,by go_num,HN6.out,HR6.out.grown hset.2 (by simp; omega),hset.1,HD6.out.grown hset.2 (by simp; omega),below_of_grown hb6 hset.2 (by omega) (by have:=hb6.size; have:=HGD.out; omega)⟩
      case measure=>simp [intOf]
    · obtain rfl:k0=0:=by omega
      have hE:=long_end hT
      have hNY:0<2 ^ s:=Nat.pow_pos (by omega)
      have hDS:=div_shifted (N:=val B64 xs) (y:=val B64 ys) (s:=s) hNY
      rw [Nat.mul_comm (val B64 xs),Nat.mul_comm (val B64 ys)] at hDS
      have hq:val B64 Q=val B64 xs / val B64 ys:=by rw [hE.1]; exact hDS.1
      have hRlt:val B64 R<B64 ^ (m+2):=by
        have h1:=hT.lt
        simp only [Nat.pow_zero,Nat.one_mul] at h1
        exact Nat.lt_trans h1 HNF.out.1
      have hRt:val B64 (R.take (m+2))=val B64 R:=by
        have h1:=val_split B64 R (m+2) (by rw [hT.len]; omega)
        rcases Nat.eq_zero_or_pos (val B64 (R.drop (m+2))) with h0 | h0
        · rw [h0] at h1; omega
        · have:B64 ^ (m+2)*1≤B64 ^ (m+2)*val B64 (R.drop (m+2)):=Nat.mul_le_mul_left _ h0
          omega
      have hr:val B64 (R.take (m+2)) / 2 ^ s=val B64 xs % val B64 ys:=by rw [hRt,hE.2]; exact hDS.2
      have hln:(R.take (m+2)).length=m+2:=by rw [List.length_take,hT.len]; omega
      have SD:=shiftDown_any gr (p+m+3) s (m'+1) R (R.take (m+2)) (.slice (some ⟨gr,0,none⟩) (m+2) (p+m+3)) wr.drew hrow hT.lim (by
          have:=Row.sl (w:=wr.drew) hrow (off:=0) (n:=m+2) (cap:=p+m+3) (by rw [hT.len]; omega) (by omega) (maxLen_24 (by omega)) (by omega)
          rwa [List.drop_zero] at this) (lim_take (by have:=B64_pos; omega) hT.lim _) (.inr ⟨⟨_,by rw [hln]⟩,by rw [hln]⟩) (by rw [hln,hT.len]; omega) (by rw [hln]; omega) (maxLen_24 (by omega)) HS.out hs63 (by rw [hT.len]; omega)
      rw [hln] at SD
      have SDD:=Lib.hid SD; have HRL:=Lib.hid hT.len; have HQL:=Lib.hid hT.qlen; have HQM:=Lib.hid hT.qlim
      have HQV:=Lib.hid hq; have HRV:=Lib.hid hr
      clear hE hDS hRlt hRt hln SD hq hr hT hrow hroq hrod hbel
      go_wp2
      have k1:(0:Int)≤(m:Int)+2:=by omega
      have k2:(m:Int)+2≤(p:Int)+(m:Int)+3:=by omega
      have k3:((m:Int)+2).toNat=m+2:=by omega
      go_still_tail 7,(by kernel_rfl)
      change wpList _ _ _ _ _ wr.drew
      have HQ2:Hid (Row wr.drew 37 .u64 gq Q):=Lib.hid HROQ.out
      have HB2:Hid (Below gd w wr.drew):=Lib.hid HBEL.out.drew
      generalize wr.drew=w2 at *
      go_wp2_with fail
      refine SDD.out.mono ?_
      rintro e w7 ⟨rfl,R',c',hr7,hg7,hdn⟩
      have hq7:=HQ2.out.grown hg7 (by simp; omega)
      have B7:=Lib.hid (below_of_grown HB2.out hg7 (by omega) (by have:=HB2.out.size; have:=HGD.out; omega))
      have hRl:=hdn.len
      rw [HRL.out] at hRl
      have hRe:=dnT_end hdn
      rw [show (R.take (m+2)).length=m+2 by rw [List.length_take,HRL.out]; omega,HRV.out] at hRe
      have hqs:Sl w7 .u64 (.slice (some ⟨gq,0,none⟩) (p+1) (p+1)) (Q.take (p+1)):=by
        have:=hq7.sl (off:=0) (n:=p+1) (cap:=p+1) (by rw [HQL.out]; omega) (by omega) (maxLen_24 (by omega)) (by omega)
        rwa [List.drop_zero] at this
      have hrs:Sl w7 .u64 (.slice (some ⟨gr,0,none⟩) (m+2) (p+m+3)) (R'.take (m+2)):=by
        have:=hr7.sl (off:=0) (n:=m+2) (cap:=p+m+3) (by rw [hRl]; omega) (by omega) (maxLen_24 (by omega)) (by omega)
        rwa [List.drop_zero] at this
      have O1:=setV_own (base:=gd) hq7 (by omega) (show p+1≤Q.length by rw [HQL.out]; omega) (Nat.le_refl (p+1)) (maxLen_24 (by omega)) (by rw [HQL.out]; omega) HQM.out (by omega)
      have O2:=setV_own (base:=gd) hr7 (by omega) (show m+2≤R'.length by rw [hRl]; omega) (show m+2≤p+m+3 by omega) (maxLen_24 (by omega)) (by rw [hRl]; omega) hdn.lim (by omega)
      rw [List.take_of_length_le (show Q.length≤p+1 by rw [HQL.out]; omega),HQV.out] at O1
      rw [List.take_of_length_le (show Q.length≤p+1 by rw [HQL.out]; omega)] at hqs
      rw [hRe] at O2
      have Q1:=fun nn=>settle_is (w:=w7.drewN nn) hqs
      have Q2:=fun nn=>settle_is (w:=w7.drewN nn) hrs
      generalize setV (some ⟨gq,0,none⟩) (p+1) Q=vq at *
      generalize setV (some ⟨gr,0,none⟩) (p+m+3) (R'.take (m+2))=vr at *
      have OO1:=Lib.hid O1; have OO2:=Lib.hid O2; have QQ1:=Lib.hid Q1; have QQ2:=Lib.hid Q2
      clear hr7 hg7 hdn hq7 hRl hRe hqs hrs O1 O2 Q1 Q2
      go_wp2
      go_quiet ((first | (go_at_call 164; have GG:=QQ1.out; exact Calls.quiet_of_same (GG _)) | (go_at_call 164; have GG:=QQ2.out; exact Calls.quiet_of_same (GG _))))
      go_wp2
      go_ret2
      rw [HGD.out]
      exact ⟨_,_,rfl,OO1.out.drawn _,OO2.out.drawn _,bdrawn B7.out _⟩
end Go.Proofs.YtacbkpenohcgjaaGreat
namespace Go.Proofs.YtacbkpenohcgjaaGreat
open Go.RowKit Mth
theorem of_own (x:Nat) (hx:x<B64) (w:World) :
    Calls Tryz.prog 97 #[.int .u64 x] w fun e w'=>∃ v',e=.returned v'∧Own w' w.heap.size v' x∧Below w.heap.size w w':=by
  have HX:=Lib.hid hx; clear hx
  by_cases h0:x=0
  · have hd:((x:Int) == 0)=true:=by rw [h0]; rfl
    have H0:=Lib.hid h0; clear h0
    go_enter Tryz.func97,Tryz.ntmps97
    go_wp2
    go_ret
    exact ⟨_,rfl,.inl ⟨rfl,H0.out⟩,Below.refl _ _⟩
  · have hd:((x:Int) == 0)=false:=by simp; omega
    have H0:=Lib.hid h0; clear h0
    go_enter Tryz.func97,Tryz.ntmps97
    go_wp2
    go_ret
    have hrow:Row (w.alloc (Obj.cells #[Value.int IntKind.u64 (x:Int)] 37)) 37 .u64 w.heap.size [x]:=heap_alloc_new w _
    have hb:Below w.heap.size w (w.alloc (Obj.cells #[Value.int IntKind.u64 (x:Int)] 37)):=(Below.refl _ _).alloc (Nat.le_refl _) _
    exact ⟨_,rfl,.inr ⟨_,1,1,[x],rfl,hrow,Nat.le_refl _,by simp,Nat.le_refl _,by unfold maxLen; omega,by simp,lim_cons.2 ⟨HX.out,lim_nil (by have:=B64_pos; omega)⟩,by simp [Top,tlen,H0.out],by omega,by simp [val]⟩,hb⟩
theorem fresh_own {v:Value} {xs:List Nat} {w:World} (h:Sl w .u64 v xs) (hl:Lim B64 xs) :
    Calls Tryz.prog 175 #[v] w fun e w'=>∃ v',e=.returned v'∧Own w' w.heap.size v' (val B64 xs)∧Below w.heap.size w w':=by
  have hlen:=h.len
  refine (fresh_any h).mono ?_
  rintro e w' ⟨v',h1,h2,h3,h4⟩
  refine ⟨v',h1, ?_,h2⟩
  have hv:val B64 (trimL xs)=val B64 xs:=val_trimL _ _
  have hll:(trimL xs).length≤16777216:=by rw [length_trimL]; exact Nat.le_trans (tlen_le xs) hlen
  rcases h4 with ⟨h5,h6⟩ | ⟨h5,h6⟩
  · exact .inl ⟨h5,by rw [← hv,h6]; rfl⟩
  · exact .inr ⟨_,_,_,_,h5,h6,Nat.le_refl _,Nat.le_refl _,Nat.le_refl _,maxLen_24 (by omega),by omega,lim_trimL hl,by rw [List.take_length]; exact top_trimL xs,hll,by rw [List.take_length]; exact hv⟩
theorem divide_any (va vb:Value) (xs ys:List Nat) (w:World) (ha:Sl w .u64 va xs) (hb:Sl w .u64 vb ys) (la:Lim B64 xs) (lb:Lim B64 ys) (ta:Top xs) (tb:Top ys) (hp:0<ys.length) (hal:xs.length≤1000000) :
    Calls Tryz.prog 182 #[va,vb] w fun e w'=>∃ vq vr,e=.returned (.tuple #[vq,vr])∧Own w' w.heap.size vq (val B64 xs / val B64 ys)∧Own w' w.heap.size vr (val B64 xs % val B64 ys)∧Below w.heap.size w w':=by
  have hal2:=ha.len; have hbl2:=hb.len
  obtain ⟨a0,c0,rfl⟩:=ha.shape
  obtain ⟨a1,c1,rfl⟩:=hb.shape
  by_cases hlt:xs.length<ys.length
  · have hv:=val_lt_of_length B64_pos la tb hlt
    have E1:Hid (val B64 xs / val B64 ys=0):=Lib.hid (Nat.div_eq_of_lt hv)
    have E2:Hid (val B64 xs % val B64 ys=val B64 xs):=Lib.hid (Nat.mod_eq_of_lt hv)
    have FR:=Lib.hid (fresh_own ha la)
    clear ha hb la lb ta tb hv
    go_enter Tryz.func182,Tryz.ntmps182
    go_wp2_with fail
    refine FR.out.mono ?_
    rintro e w1 ⟨v1,rfl,ho,hb1⟩
    have O:=Lib.hid ho; have B:=Lib.hid hb1
    clear ho hb1
    go_wp2
    go_ret2
    exact ⟨_,_,rfl,.inl ⟨rfl,E1.out⟩,by rw [E2.out]; exact O.out,B.out⟩
  · by_cases h1:ys.length=1
    · have hy:=list_one h1
      obtain ⟨bb,boff,bcap,e9,hb1,hb2,hbblt,hbc⟩:=hb.pos hp
      simp only [Value.slice.injEq,true_and] at e9
      obtain ⟨rfl,rfl⟩:=e9
      have hb0:=hbc 0 hp
      rw [Nat.add_zero] at hb0
      generalize hd:ys.getD 0 0=d at *
      have hdlt:d<B64:=by rw [← hd]; exact lb 0
      have hd0:0<d:=by
        have:=tlen_top ys (by rw [tb]; omega)
        rw [tb,h1,hd] at this
        omega
      have hyv:val B64 ys=d:=by rw [hy]; simp [val]
      have FR:=Lib.hid (fresh_any ha)
      have TX:=trimL_of_top ta
      rw [TX] at FR
      have HL:=Lib.hid la; have HY:=Lib.hid hyv; have HD:=Lib.hid hdlt; have HD0:=Lib.hid hd0; have H1:=Lib.hid h1
      have hxp:0<xs.length:=by omega
      unfold maxLen at hb2
      have hxl:¬ xs.length<1:=by omega
      rw [h1] at hb1 hlt ⊢
      clear ha hb la lb ta tb hbc hy hd hyv hdlt TX hd0 h1 hlt
      go_enter Tryz.func182,Tryz.ntmps182
      go_wp2_with fail
      refine FR.out.mono ?_
      rintro e w1 ⟨v1,rfl,hbl,_,hcase⟩
      rcases hcase with ⟨_,h0⟩ | ⟨rfl,hrow⟩
      · rw [h0] at hxp; simp at hxp
      · have hbd:w1.cell? ⟨bb,boff,none⟩=some (.int .u64 (d:Int)):=(hbl.cell (p:=⟨bb,boff,none⟩) hbblt).trans hb0
        have DB:=Lib.hid (divideByLimb_any w.heap.size xs.length xs.length d xs w1 hrow HL.out (Nat.le_refl _) (Nat.le_refl _) (maxLen_24 (by omega)) HD0.out HD.out (by omega))
        have B1:=Lib.hid hbl
        clear hrow hbl
        go_wp2_with fail
        refine DB.out.mono ?_
        rintro e w2 ⟨r,R',rfl,hr2,hg2,hT⟩
        have hE:=dbT_end hT
        rw [List.take_length] at hE
        have hRl:=hT.len
        have B2:=Lib.hid (below_of_grown B1.out hg2 (Nat.le_refl _) B1.out.size)
        have O1:=setV_own (base:=w.heap.size) hr2 (Nat.le_refl _) (show xs.length≤R'.length by omega) (Nat.le_refl xs.length) (maxLen_24 (by omega)) (by omega) hT.lim (by omega)
        have hsl:Sl w2 .u64 (.slice (some ⟨w.heap.size,0,none⟩) xs.length xs.length) (R'.take xs.length):=by
          have:=hr2.sl (off:=0) (n:=xs.length) (cap:=xs.length) (by omega) (Nat.le_refl _) (maxLen_24 (by omega)) (by omega)
          rwa [List.drop_zero] at this
        have SV:=settle_is hsl
        have hrl:=hT.rlt
        generalize setV (some ⟨w.heap.size,0,none⟩) xs.length (R'.take xs.length)=vq at *
        rw [hE.1] at O1
        have OO:=Lib.hid O1; have SS:=Lib.hid SV; have HE2:=Lib.hid hE.2; have HRB:Hid (r<B64):=Lib.hid (by have:=HD.out; omega)
        clear hr2 hg2 hT hE hRl O1 hsl SV hrl
        go_wp2_with fail
        refine SS.out.mono ?_
        rintro e w3 ⟨rfl,rfl⟩
        go_wp2_with fail
        refine (of_own r HRB.out _).mono ?_
        rintro e w4 ⟨v4,rfl,ho4,hb4⟩
        have O4:=Lib.hid (ho4.mono B2.out.size); have OQ:=Lib.hid (OO.out.below hb4); have B4:=Lib.hid (below_step B2.out hb4)
        clear ho4 hb4
        go_wp2
        go_ret2
        refine ⟨_,_,rfl, ?_, ?_,B4.out⟩
        · rw [HY.out]; exact OQ.out
        · rw [HY.out,← HE2.out]; exact O4.out
    · obtain ⟨m,hm⟩:∃ m,ys.length=m+2:=⟨ys.length - 2,by omega⟩
      obtain ⟨p,hpx⟩:∃ p,xs.length=p+(m+2):=⟨xs.length - (m+2),by omega⟩
      have DL:=Lib.hid (divideLong_any _ _ xs ys m p w ha hb la lb tb hm hpx hal)
      have hd1:((ys.length:Int) == 1)=false:=beq_eq_false_iff_ne.2 (by omega)
      have hxl:¬ xs.length<ys.length:=hlt
      clear ha hb la lb ta tb hm hpx h1 hlt
      go_enter Tryz.func182,Tryz.ntmps182
      go_wp2_with fail
      refine DL.out.mono ?_
      rintro e w1 ⟨vq,vr,rfl,h2,h3,h4⟩
      have H2:=Lib.hid h2; have H3:=Lib.hid h3; have H4:=Lib.hid h4
      clear h2 h3 h4
      go_wp2
      go_ret2
      exact ⟨_,_,rfl,H2.out,H3.out,H4.out⟩
def quoN (a b:Nat):Nat:=if Big≤a∨Big≤b then 0 else a / b
def remN (a b:Nat):Nat:=if Big≤a∨Big≤b then 0 else if b=0 then 0 else a % b
def quoE (a b:Nat):Int:=if Big≤a∨Big≤b then 5 else if b=0 then 11 else 0
theorem quo_long {a b:Nat} (h:Big≤a∨Big≤b):quoN a b=0∧remN a b=0∧quoE a b=5:=⟨if_pos h,if_pos h,if_pos h⟩
theorem quo_zero {a b:Nat} (h:¬ (Big≤a∨Big≤b)) (h2:b=0):quoN a b=0∧remN a b=0∧quoE a b=11:=by
  unfold quoN remN quoE; rw [if_neg h,if_neg h,if_neg h,if_pos h2,if_pos h2]; subst h2; simp
theorem quo_fine {a b:Nat} (h:¬ (Big≤a∨Big≤b)) (h2:b≠0):quoN a b=a / b∧remN a b=a % b∧quoE a b=0:=by
  unfold quoN remN quoE; rw [if_neg h,if_neg h,if_neg h,if_neg h2,if_neg h2]; exact ⟨rfl,rfl,rfl⟩
theorem quo_any (v1 v2:Value) (xs ys:List Nat) (w:World) (h1:Sl w .u64 v1 xs) (h2:Sl w .u64 v2 ys) (l1:Lim B64 xs) (l2:Lim B64 ys) :
    Calls Tryz.prog 177 #[v1,v2] w fun e w'=>∃ vq vr,e=.returned (.tuple #[vq,vr,.int .i64 (quoE (val B64 xs) (val B64 ys))])∧Own w' w.heap.size vq (quoN (val B64 xs) (val B64 ys))∧Own w' w.heap.size vr (remN (val B64 xs) (val B64 ys))∧Below w.heap.size w w':=by
  have T1:=Lib.hid (trim_any h1); have T2:=Lib.hid (trim_any h2)
  have G1:=Lib.hid (long_iff l1); have G2:=Lib.hid (long_iff l2)
  have e1:val B64 (trimL xs)=val B64 xs:=val_trimL _ _
  have e2:val B64 (trimL ys)=val B64 ys:=val_trimL _ _
  have k1:=lim_trimL l1; have k2:=lim_trimL l2; have p1:=top_trimL xs; have p2:=top_trimL ys
  rw [← e1] at G1 ⊢
  rw [← e2] at G2 ⊢
  clear h1 h2 l1 l2 e1 e2
  generalize trimL xs=ts at *
  generalize trimL ys=us at *
  have K1:=Lib.hid k1; have K2:=Lib.hid k2; have P1:=Lib.hid p1; have P2:=Lib.hid p2
  clear k1 k2 p1 p2
  go_enter Tryz.func177,Tryz.ntmps177
  go_wp2_with fail
  refine T1.out.mono ?_
  rintro e w' ⟨va,rfl,s1,rfl⟩
  go_wp2_with fail
  refine T2.out.mono ?_
  rintro e w' ⟨vb,rfl,s2,rfl⟩
  have S1:=Lib.hid s1; have S2:=Lib.hid s2
  obtain ⟨a0,c0,rfl⟩:=s1.shape
  obtain ⟨a1,c1,rfl⟩:=s2.shape
  clear s1 s2
  by_cases g1:4096<ts.length
  · have hd:decide (4096<ts.length)=true:=decide_eq_true g1
    have E:=Lib.hid (quo_long (b:=val B64 us) (.inl (G1.out.1 g1)))
    clear g1
    go_wp2_with fail
    refine (tooLong_any S1.out).mono ?_
    rintro e w' ⟨rfl,rfl⟩
    go_wp2
    go_ret3
    exact ⟨_,_,by rw [E.out.2.2]; rfl,by rw [E.out.1]; exact .inl ⟨rfl,rfl⟩,by rw [E.out.2.1]; exact .inl ⟨rfl,rfl⟩,Below.refl _ _⟩
  · have hd:decide (4096<ts.length)=false:=decide_eq_false g1
    by_cases g2:4096<us.length
    · have hd2:decide (4096<us.length)=true:=decide_eq_true g2
      have E:=Lib.hid (quo_long (a:=val B64 ts) (.inr (G2.out.1 g2)))
      clear g1 g2
      go_wp2_with fail
      refine (tooLong_any S1.out).mono ?_
      rintro e w' ⟨rfl,rfl⟩
      go_wp2_with fail
      refine (tooLong_any S2.out).mono ?_
      rintro e w' ⟨rfl,rfl⟩
      go_wp2
      go_ret3
      exact ⟨_,_,by rw [E.out.2.2]; rfl,by rw [E.out.1]; exact .inl ⟨rfl,rfl⟩,by rw [E.out.2.1]; exact .inl ⟨rfl,rfl⟩,Below.refl _ _⟩
    · have hd2:decide (4096<us.length)=false:=decide_eq_false g2
      have NB:Hid (¬ (Big≤val B64 ts∨Big≤val B64 us)):=Lib.hid (fun h=>h.elim (fun h=>g1 (G1.out.2 h)) (fun h=>g2 (G2.out.2 h)))
      have hl1:ts.length≤4096:=by omega
      have hl2:us.length≤4096:=by omega
      clear g1 g2
      go_wp2_with fail
      refine (tooLong_any S1.out).mono ?_
      rintro e w' ⟨rfl,rfl⟩
      go_wp2_with fail
      refine (tooLong_any S2.out).mono ?_
      rintro e w' ⟨rfl,rfl⟩
      by_cases h0:us.length=0
      · have hd0:=len_eq h0
        have E:=Lib.hid (quo_zero NB.out (show val B64 us=0 by rw [List.eq_nil_of_length_eq_zero h0]; rfl))
        clear h0
        go_wp2
        go_ret3
        exact ⟨_,_,by rw [E.out.2.2]; rfl,by rw [E.out.1]; exact .inl ⟨rfl,rfl⟩,by rw [E.out.2.1]; exact .inl ⟨rfl,rfl⟩,Below.refl _ _⟩
      · have hd0:=len_ne h0
        have E:=Lib.hid (quo_fine NB.out (show val B64 us≠0 by have:=pos_of_top P2.out (by omega); omega))
        have DV:=Lib.hid (divide_any _ _ ts us w S1.out S2.out K1.out K2.out P1.out P2.out (by omega) (by omega))
        clear h0
        go_wp2_with fail
        refine DV.out.mono ?_
        rintro e w1 ⟨vq,vr,rfl,h2,h3,h4⟩
        have H2:=Lib.hid h2; have H3:=Lib.hid h3; have H4:=Lib.hid h4
        clear h2 h3 h4
        go_wp2
        go_ret3
        exact ⟨_,_,by rw [E.out.2.2]; rfl,by rw [E.out.1]; exact H2.out,by rw [E.out.2.1]; exact H3.out,H4.out⟩
end Go.Proofs.YtacbkpenohcgjaaGreat
namespace Go.Proofs.YtacbkpenohcgjaaGreat
open Go.RowKit Mth
def Nm (w:World) (v:Value) (n:Nat):Prop:=∃ zs,Sl w .u64 v zs∧Lim B64 zs∧val B64 zs=n
theorem Num.nm {w:World} {v:Value} {n:Nat} (h:Num w v n):Nm w v n:=by
  obtain ⟨ys,h1,h2,_,h3⟩:=h; exact ⟨ys,h1,h2,h3⟩
theorem Own.nm {w:World} {base n:Nat} {v:Value} (h:Own w base v n):Nm w v n:=h.num.nm
theorem Nm.below {w w':World} {v:Value} {n:Nat} (h:Nm w v n) (hb:Below w.heap.size w w'):Nm w' v n:=by
  obtain ⟨ys,h1,h2⟩:=h; exact ⟨ys,h1.below hb,h2⟩
theorem Nm.shape {w:World} {v:Value} {n:Nat} (h:Nm w v n):∃ ao k c,v=.slice ao k c:=by
  obtain ⟨ys,h1,_⟩:=h
  obtain ⟨ao,c,rfl⟩:=h1.shape
  exact ⟨_,_,_,rfl⟩
theorem add2_N (xs ys:List Nat):addN [xs,ys]=cutN (val B64 xs+val B64 ys)∧addE [xs,ys]=cutE (val B64 xs+val B64 ys):=by
  have hs:sumL [xs,ys]=val B64 xs+val B64 ys:=by simp [sumL]
  have hb:=longB_two xs ys
  by_cases h:Big≤val B64 xs∨Big≤val B64 ys
  · have h1:longB [xs,ys] [xs,ys].length=true:=by
      show longB [xs,ys] 2=true
      rw [hb]; simpa using h
    obtain ⟨e1,e2⟩:=add_long h1
    obtain ⟨c1,c2⟩:=cut_big (show Big≤val B64 xs+val B64 ys by omega)
    exact ⟨by rw [e1,c1],by rw [e2,c2]⟩
  · have h1:longB [xs,ys] [xs,ys].length=false:=by
      show longB [xs,ys] 2=false
      rw [hb]; simpa using h
    obtain ⟨e1,e2⟩:=add_fine h1
    rw [hs] at e1 e2
    exact ⟨e1,e2⟩
def mN (m n:Nat):Nat:=if Big≤m∨Big≤n then 0 else cutN (m*n)
def mE (m n:Nat):Int:=if Big≤m∨Big≤n then 5 else cutE (m*n)
theorem mul2_N (xs ys:List Nat):mulN [xs,ys]=mN (val B64 xs) (val B64 ys)∧mulE [xs,ys]=mE (val B64 xs) (val B64 ys):=by
  have hs:prodL [xs,ys]=val B64 xs*val B64 ys:=by simp [prodL]
  have hb:=longB_two xs ys
  unfold mN mE
  by_cases h:Big≤val B64 xs∨Big≤val B64 ys
  · have h1:longB [xs,ys] [xs,ys].length=true:=by
      show longB [xs,ys] 2=true
      rw [hb]; simpa using h
    obtain ⟨e1,e2⟩:=mul_long h1
    exact ⟨by rw [e1,if_pos h],by rw [e2,if_pos h]⟩
  · have h1:longB [xs,ys] [xs,ys].length=false:=by
      show longB [xs,ys] 2=false
      rw [hb]; simpa using h
    obtain ⟨e1,e2⟩:=mul_fine h1
    rw [hs] at e1 e2
    exact ⟨by rw [e1,if_neg h],by rw [e2,if_neg h]⟩
theorem pair_lim {xs ys:List Nat} (h1:Lim B64 xs) (h2:Lim B64 ys):∀ j,Lim B64 ([xs,ys].getD j []):=fun j=>by
  match j with
  | 0=>exact h1
  | 1=>exact h2
  | j+2=>exact lim_nil (by have:=B64_pos; omega)
theorem quo_nm {v1 v2:Value} {m n:Nat} {w:World} (h1:Nm w v1 m) (h2:Nm w v2 n) :
    Calls Tryz.prog 177 #[v1,v2] w fun e w'=>∃ vq vr,e=.returned (.tuple #[vq,vr,.int .i64 (quoE m n)])∧Own w' w.heap.size vq (quoN m n)∧Own w' w.heap.size vr (remN m n)∧Below w.heap.size w w':=by
  obtain ⟨xs,s1,l1,rfl⟩:=h1
  obtain ⟨ys,s2,l2,rfl⟩:=h2
  exact quo_any v1 v2 xs ys w s1 s2 l1 l2
theorem cmp_nm {v1 v2:Value} {m n:Nat} {w:World} (h1:Nm w v1 m) (h2:Nm w v2 n) (c:Int) (hc:cmp3 m n=c) :
    Calls Tryz.prog 142 #[v1,v2] w fun e w'=>e=.returned (.int .i64 c)∧Below w.heap.size w w':=by
  subst hc
  obtain ⟨xs,s1,l1,rfl⟩:=h1
  obtain ⟨ys,s2,l2,rfl⟩:=h2
  exact cmp_any v1 v2 xs ys w s1 s2 l1 l2
end Go.Proofs.YtacbkpenohcgjaaGreat
