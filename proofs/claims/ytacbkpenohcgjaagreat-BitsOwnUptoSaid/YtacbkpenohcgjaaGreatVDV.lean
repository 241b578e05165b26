import Derived.Test.YtacbkpenohcgjaaGreatVRF
import Derived.Test.YtacbkpenohcgjaaGreatVMA
set_option linter.unusedVariables false
set_option linter.unusedSimpArgs false
set_option maxHeartbeats 8000000
set_option maxRecDepth 100000
namespace Go.Proofs.YtacbkpenohcgjaaGreat
open Go.RowKit Mth
theorem lz_any (x n s:Nat) (h:x<B64) (hn:bl x=n) (hs:s+n=64) (w:World):Calls Tryz.prog 191 #[.int .u64 ((x:Nat):Int)] w fun e w'=>e=.returned (.int .i64 ((s:Nat):Int))∧w=w':=by
  have LN:=Lib.hid (bitsLen_any x h)
  rw [hn] at LN
  have E:Hid ((64:Int) - (n:Int)=(s:Int)):=Lib.hid (by omega)
  clear h hn
  go_enter Tryz.func191,Tryz.ntmps191
  go_wp2_with fail
  refine (LN.out _).mono ?_
  rintro e w' ⟨rfl,rfl⟩
  go_wp2
  go_ret
  exact ⟨by rw [← E.out]; rfl,rfl⟩
def Drawn (w w':World):Prop:=∃ m,w'=w.drewN m
theorem Drawn.below {w w':World} (h:Drawn w w'):Below w.heap.size w w':=by
  obtain ⟨m,rfl⟩:=h
  exact bdrawn (Below.refl _ _) m
theorem div64_zero (lo y:Nat) (hl:lo<B64) (hy:y<B64) (h0:0<y) (w:World) :
    Calls Tryz.prog 190 #[.int .u64 0,.int .u64 ((lo:Nat):Int),.int .u64 ((y:Nat):Int)] w fun e w' =>
      e=.returned (.tuple #[.int .u64 ((lo / y:Nat):Int),.int .u64 ((lo % y:Nat):Int)])∧Drawn w w':=by
  have d1:((y:Int) == 0)=false:=beq_eq_false_iff_ne.2 (by omega)
  have hyne:(y:Int)≠0:=by omega
  have h1:(lo:Int) / (y:Int)=((lo / y:Nat):Int):=(Int.natCast_ediv lo y).symm
  have h2:(lo:Int) % (y:Int)=((lo % y:Nat):Int):=(Int.natCast_emod lo y).symm
  have hlo:lo≤18446744073709551615:=by unfold B64 at hl; omega
  have hyb:y≤18446744073709551615:=by unfold B64 at hy; omega
  generalize lo / y=q at *
  generalize lo % y=r at *
  have H1:=Lib.hid h1; have H2:=Lib.hid h2
  clear hl hy
  go_enter Tryz.func190,Tryz.ntmps190
  have hq:q≤18446744073709551615:=by
    have h9:(q:Int)≤(lo:Int):=by rw [← H1.out]; exact Int.ediv_le_self _ (by omega)
    omega
  have hqw:IntKind.u64.wrap (q:Int)=(q:Int):=wrap_u64 q (by unfold B64; omega)
  go_wp2
  go_region
  go_wp2
  go_ret2
  exact ⟨by rw [← H2.out]; rfl,⟨1,rfl⟩⟩
theorem hi_half (x:Nat):(x:Int) / 4294967296=((x / w32:Nat):Int):=by unfold w32; rw [Int.natCast_ediv]; rfl
theorem lo_half {x:Nat} (h:x<B64):bits BinOp.and IntKind.u64 (x:Int) 4294967295=((x % w32:Nat):Int):=by
  have:=u64_and_nat x 4294967295 h (by omega)
  rw [show ((4294967295:Nat):Int)=4294967295 from rfl] at this
  rw [this,show (4294967295:Nat)=2 ^ 32 - 1 from rfl,Nat.and_two_pow_sub_one_eq_mod]
  rfl
def HalfO (u v y1 y0:Nat) (qv rv:Value):Prop:=∃ q r:Nat,qv=.int .u64 (q:Int)∧rv=.int .u64 (r:Int)∧HalfG w32 u v y1 y0 q r∧r<w32
theorem rest_wraps {u v q Y R:Nat} (h:R+q*Y=hT w32 u v) (hR:R<B64) :
    ∃ a1 a2 a3:Nat,IntKind.u64.wrap ((u:Int)*4294967296)=(a1:Int)∧IntKind.u64.wrap ((a1:Int)+(v:Int))=(a2:Int)∧IntKind.u64.wrap ((q:Int)*(Y:Int))=(a3:Int)∧IntKind.u64.wrap ((a2:Int) - (a3:Int))=(R:Int):=by
  unfold hT w32 at h
  refine ⟨u*4294967296 % 18446744073709551616,(u*4294967296 % 18446744073709551616+v) % 18446744073709551616,q*Y % 18446744073709551616, ?_, ?_, ?_, ?_⟩
  · rw [IntKind.wrap_u64]; omega
  · rw [IntKind.wrap_u64]; omega
  · rw [← Int.natCast_mul,IntKind.wrap_u64]; omega
  · unfold B64 at hR
    generalize q*Y=A at *
    rw [IntKind.wrap_u64]; omega
theorem div64_main (hi lo y n sh m:Nat) (hh:hi<y) (h0:0<hi) (hl:lo<B64) (hy:y<B64) (hn:bl y=n) (hsn:sh+n=64) (hm:sh+m=64) (w:World) :
    Calls Tryz.prog 190 #[.int .u64 ((hi:Nat):Int),.int .u64 ((lo:Nat):Int),.int .u64 ((y:Nat):Int)] w fun e w' =>
      e=.returned (.tuple #[.int .u64 (((hi*B64+lo) / y:Nat):Int),.int .u64 (((hi*B64+lo) % y:Nat):Int)])∧w=w':=by
  have LZ:=Lib.hid (lz_any y n sh hy hn hsn)
  have d1:((y:Int) == 0)=false:=beq_eq_false_iff_ne.2 (by omega)
  have d2:decide ((y:Int)≤(hi:Int))=false:=decide_eq_false (by omega)
  have d3:((hi:Int) == 0)=false:=beq_eq_false_iff_ne.2 (by omega)
  obtain ⟨m',e1,g1,g2⟩:=bl_spec (n:=y) (by omega)
  have hnn:n=m'+1:=by rw [← hn,e1]
  have hYlt:y*2 ^ sh<B64:=by
    have h9:y*2 ^ sh<2 ^ (m'+1)*2 ^ sh:=Nat.mul_lt_mul_of_pos_right g2 (Nat.pow_pos (by omega))
    rw [← Nat.pow_add,show m'+1+sh=64 by omega] at h9
    exact h9
  have hYge:9223372036854775808≤y*2 ^ sh:=by
    have h9:2 ^ m'*2 ^ sh≤y*2 ^ sh:=Nat.mul_le_mul_right _ g1
    rw [← Nat.pow_add,show m'+sh=63 by omega] at h9
    exact h9
  have wY:IntKind.u64.wrap ((y:Int)*2 ^ sh)=((y*2 ^ sh:Nat):Int):=by rw [shl_u64,Nat.mod_eq_of_lt hYlt]
  have DS:=div_shifted (N:=hi*B64+lo) (y:=y) (s:=sh) (Nat.pow_pos (by omega))
  have SL:=shifted_limbs (hi:=hi) (lo:=lo) hm
  have hub:hi*2 ^ sh+lo / 2 ^ m<y*2 ^ sh:=by
    have h9:(hi+1)*2 ^ sh≤y*2 ^ sh:=Nat.mul_le_mul_right _ hh
    have h8:lo / 2 ^ m<2 ^ sh:=by
      rw [Nat.div_lt_iff_lt_mul (Nat.pow_pos (by omega)),← b64_split hm]; exact hl
    rw [Nat.add_mul,Nat.one_mul] at h9
    omega
  have wu:bits BinOp.or IntKind.u64 (IntKind.u64.wrap ((hi:Int)*2 ^ sh)) ((lo:Int) / 2 ^ m)=((hi*2 ^ sh+lo / 2 ^ m:Nat):Int):=by
    have h8:lo / 2 ^ m<2 ^ sh:=by
      rw [Nat.div_lt_iff_lt_mul (Nat.pow_pos (by omega)),← b64_split hm]; exact hl
    have h7:hi*2 ^ sh<B64:=Nat.lt_of_le_of_lt (Nat.le_add_right _ _) (Nat.lt_trans hub hYlt)
    rw [shl_u64,shr_u64,Nat.mod_eq_of_lt h7,u64_or_nat _ _ h7 (Nat.lt_of_le_of_lt (Nat.div_le_self _ _) hl),Nat.mul_comm hi,← Nat.two_pow_add_eq_or_of_lt h8]
  have wt:IntKind.u64.wrap ((lo:Int)*2 ^ sh)=((lo*2 ^ sh % B64:Nat):Int):=shl_u64 lo sh
  have htl:lo*2 ^ sh % B64<B64:=mod64_lt _
  have ws:(64:Int) - (sh:Int)=(m:Int):=by omega
  generalize hYY:y*2 ^ sh=Y at *
  generalize hi*2 ^ sh+lo / 2 ^ m=u at *
  generalize lo*2 ^ sh % B64=t at *
  have hYr:Y / w32*w32+Y % w32=Y:=by rw [Nat.mul_comm]; exact Nat.div_add_mod _ _
  have htr:t / w32*w32+t % w32=t:=by rw [Nat.mul_comm]; exact Nat.div_add_mod _ _
  have k1:=hi_half Y; have k2:=lo_half hYlt; have k3:=hi_half t; have k4:=lo_half htl
  have GY:GoodY w32 (Y / w32) (Y % w32):=by
    unfold w32
    exact ⟨Nat.mod_lt _ (by omega),by omega,by omega,by omega⟩
  have hv1:t / w32<w32:=by unfold w32; unfold B64 at htl; omega
  have hv0:t % w32<w32:=Nat.mod_lt _ (by unfold w32; omega)
  have hy1b:Y / w32<w32:=by unfold w32; unfold B64 at hYlt; omega
  generalize Y / w32=y1 at *
  generalize Y % w32=y0 at *
  generalize t / w32=v1 at *
  generalize t % w32=v0 at *
  have hYe:hY w32 y1 y0=Y:=hYr
  rw [← hYe] at hub
  have HS1:=half_start hub hv1 GY
  have HL1:=half_lt hub hv1
  have hy1p:=GY.pos
  have kq:(u:Int) / (y1:Int)=((u / y1:Nat):Int):=(Int.natCast_ediv u y1).symm
  have hr1:u % y1<w32:=Nat.lt_trans (Nat.mod_lt _ hy1p) hy1b
  have hu64:u<B64:=Nat.lt_trans (by rw [hYe] at hub; exact hub) hYlt
  have hqb:=HS1.le
  have hqe:=HS1.eq
  generalize u / y1=q at *
  generalize u % y1=r at *
  have hyn:(y1:Int)≠0:=by omega
  have hyd:((y1:Int) == 0)=false:=beq_eq_false_iff_ne.2 hyn
  have hqb2:q≤4294967297:=hqb
  have hub2:u≤18446744073709551615:=by unfold B64 at hu64; omega
  have hqy:q*y1≤u:=by omega
  have wq:IntKind.u64.wrap ((q:Int)*(y1:Int))=((q*y1:Nat):Int):=by rw [← Int.natCast_mul]; exact wrap_u64 _ (by unfold B64; omega)
  have wr:IntKind.u64.wrap ((u:Int) - ((q*y1:Nat):Int))=(r:Int):=by rw [IntKind.wrap_u64]; omega
  generalize q*y1=qy at *
  have Hd:=Lib.hid DS; have HSL:=Lib.hid SL; have HHS1:=Lib.hid HS1; have HHL1:=Lib.hid HL1; have HGY:=Lib.hid GY; have HYE:=Lib.hid hYe; have HTR:=Lib.hid htr
  have HR1:=Lib.hid hr1; have HV1:=Lib.hid hv1; have HV0:=Lib.hid hv0; have HYLT:=Lib.hid hYlt; have HYY:=Lib.hid hYY; have HUB:=Lib.hid hub
  have hlo:lo≤18446744073709551615:=by unfold B64 at hl; omega
  have hyb:y≤18446744073709551615:=by unfold B64 at hy; omega
  have HYB1:Hid (y1≤4294967295):=Lib.hid (by unfold w32 at hy1b; omega)
  have hsh:sh≤64:=by omega
  clear DS SL HS1 HL1 GY hYe htr hYr hr1 hv1 hv0 hYlt hYY hub e1 g1 g2 hnn hYge hl hy htl hqe hqb hy1b hu64 hm hsn hn
  go_enter Tryz.func190,Tryz.ntmps190
  go_wp2_with fail
  refine (LZ.out _).mono ?_
  rintro e w' ⟨rfl,rfl⟩
  go_wp2_with fail
  clear wY wu wt k1 k2 k3 k4 kq wq wr ws d1 d2 d3 hqb2 hqy hub2 hlo hyb
  go_loop [15,16] (fun qv rv=>HalfO u v1 y1 y0 qv rv) (fun qv _=>(intOf qv).toNat)
  case atStart=>exact ⟨q,r,rfl,rfl,HHS1.out,HR1.out⟩
  case round =>
    obtain ⟨q1,r1,rfl,rfl,hG1,hr1⟩:=hrel
    have G1:=Lib.hid hG1
    have HLE1:Hid (q1≤4294967297):=Lib.hid hG1.le
    have HRB1:Hid (r1≤4294967295):=Lib.hid (by unfold w32 at hr1; omega)
    have MORE1:=Lib.hid (fun h=>half_more hG1 HHL1.out HGY.out h)
    have HVB1:Hid (v1≤4294967295):=Lib.hid (by have:=HV1.out; unfold w32 at this; omega)
    have HY0B:Hid (y0≤4294967295):=Lib.hid (by have:=HGY.out.lo; unfold w32 at this; omega)
    clear hG1 hr1
    by_cases hA:4294967296≤q1
    · have ha1:decide ((4294967296:Int)≤(q1:Int))=true:=decide_eq_true (by omega)
      have MM:=Lib.hid (MORE1.out (.inl (by unfold w32; omega)))
      have HQM1:Hid (1≤q1):=Lib.hid (by omega)
      clear hA
      obtain ⟨qq1,hqq1⟩:∃ x,x=q1 - 1:=⟨_,rfl⟩
      obtain ⟨rr1,hrr1⟩:∃ x,x=r1+y1:=⟨_,rfl⟩
      have wq1:IntKind.u64.wrap ((q1:Int) - 1)=(qq1:Int):=by have:=MM.out.1; have:=HLE1.out; rw [IntKind.wrap_u64]; omega
      have wr1:IntKind.u64.wrap ((r1:Int)+(y1:Int))=(rr1:Int):=by have:=HRB1.out; have:=HYB1.out; rw [IntKind.wrap_u64]; omega
      rw [← hqq1,← hrr1] at MM
      have QQ1:=Lib.hid hqq1
      by_cases hB:4294967296≤rr1
      · have hb1:decide ((4294967296:Int)≤(rr1:Int))=true:=decide_eq_true (by omega)
        have QD1:Hid (qq1=hT w32 u v1 / hY w32 y1 y0):=Lib.hid (half_break MM.out.2 HGY.out (by have:=HLE1.out; unfold w32; omega) (by unfold w32; omega))
        clear hqq1 hrr1 hB
        have QDD:Hid (qq1=hT w32 u v1 / hY w32 y1 y0):=QD1
        obtain ⟨qd,hqd⟩:∃ x,x=qq1:=⟨_,rfl⟩
        rw [← hqd] at QDD
        subst hqd
        obtain ⟨R1,hR1⟩:∃ x,x=hT w32 u v1 % hY w32 y1 y0:=⟨_,rfl⟩
        have hre1:R1+qd*hY w32 y1 y0=hT w32 u v1:=by rw [hR1,QDD.out]; exact half_rest
        have hlt1:R1<hY w32 y1 y0:=by rw [hR1]; exact Nat.mod_lt _ HGY.out.posY
        have HS2:=Lib.hid (half_start hlt1 HV0.out HGY.out)
        have HL2:=Lib.hid (half_lt hlt1 HV0.out)
        rw [HYE.out] at hre1 hlt1
        have RE1:=Lib.hid hre1
        obtain ⟨a1,a2,a3,x1,x2,x3,x4⟩:=rest_wraps (u:=u) (v:=v1) (q:=qd) (Y:=Y) (R:=R1) hre1 (Nat.lt_trans hlt1 HYLT.out)
        have kq2:(R1:Int) / (y1:Int)=((R1 / y1:Nat):Int):=(Int.natCast_ediv R1 y1).symm
        have hmd:R1 % y1<y1:=Nat.mod_lt _ hy1p
        have hqe2:=HS2.out.eq
        have hR1b:R1<B64:=Nat.lt_trans hlt1 HYLT.out
        generalize R1 / y1=qs at *
        generalize R1 % y1=rs at *
        obtain ⟨qsy,hqsy⟩:∃ x,x=qs*y1:=⟨_,rfl⟩
        rw [← hqsy] at hqe2
        have hqw2:IntKind.u64.wrap ((qs:Int)*(y1:Int))=(qsy:Int):=by rw [hqsy,← Int.natCast_mul]; exact wrap_u64 _ (by rw [← hqsy]; omega)
        have hrw2:IntKind.u64.wrap ((R1:Int) - (qsy:Int))=(rs:Int):=by unfold B64 at hR1b; rw [IntKind.wrap_u64]; omega
        have hqsw:IntKind.u64.wrap (qs:Int)=(qs:Int):=by have:=HS2.out.le; unfold w32 at this; exact wrap_u64 _ (by unfold B64; omega)
        have HRS:Hid (rs<w32):=Lib.hid (by have:=HYB1.out; unfold w32; omega)
        clear hR1 hre1 hlt1 hmd hqe2 hR1b hqsy
        repeat (first | go_skip | go_guarded | go_step | go_upon | go_back)
        clear x1 x2 x3 x4 kq2 hqw2 hrw2 hqsw
        go_loop [18,16] (fun qv rv=>HalfO R1 v0 y1 y0 qv rv) (fun qv _=>(intOf qv).toNat)
        case atStart=>exact ⟨qs,rs,rfl,rfl,HS2.out,HRS.out⟩
        case round =>
          obtain ⟨q2,r2,rfl,rfl,hG2,hr2⟩:=hrel
          have G2:=Lib.hid hG2
          have HLE2:Hid (q2≤4294967297):=Lib.hid hG2.le
          have HRB2:Hid (r2≤4294967295):=Lib.hid (by unfold w32 at hr2; omega)
          have MORE2:=Lib.hid (fun h=>half_more hG2 HL2.out HGY.out h)
          have HVB2:Hid (v0≤4294967295):=Lib.hid (by have:=HV0.out; unfold w32 at this; omega)
          have HY0B:Hid (y0≤4294967295):=Lib.hid (by have:=HGY.out.lo; unfold w32 at this; omega)
          clear hG2 hr2
          by_cases hA:4294967296≤q2
          · have ha1:decide ((4294967296:Int)≤(q2:Int))=true:=decide_eq_true (by omega)
            have MM:=Lib.hid (MORE2.out (.inl (by unfold w32; omega)))
            have HQM2:Hid (1≤q2):=Lib.hid (by omega)
            clear hA
            obtain ⟨qq2,hqq2⟩:∃ x,x=q2 - 1:=⟨_,rfl⟩
            obtain ⟨rr2,hrr2⟩:∃ x,x=r2+y1:=⟨_,rfl⟩
            have wq1:IntKind.u64.wrap ((q2:Int) - 1)=(qq2:Int):=by have:=MM.out.1; have:=HLE2.out; rw [IntKind.wrap_u64]; omega
            have wr1:IntKind.u64.wrap ((r2:Int)+(y1:Int))=(rr2:Int):=by have:=HRB2.out; have:=HYB1.out; rw [IntKind.wrap_u64]; omega
            rw [← hqq2,← hrr2] at MM
            have QQ2:=Lib.hid hqq2
            by_cases hB:4294967296≤rr2
            · have hb1:decide ((4294967296:Int)≤(rr2:Int))=true:=decide_eq_true (by omega)
              have QD2:Hid (qq2=hT w32 R1 v0 / hY w32 y1 y0):=Lib.hid (half_break MM.out.2 HGY.out (by have:=HLE2.out; unfold w32; omega) (by unfold w32; omega))
              clear hqq2 hrr2 hB
              obtain ⟨R0,hR0⟩:∃ x,x=hT w32 R1 v0 % hY w32 y1 y0:=⟨_,rfl⟩
              have hre0:R0+qq2*hY w32 y1 y0=hT w32 R1 v0:=by rw [hR0,QD2.out]; exact half_rest
              have hlt0:R0<hY w32 y1 y0:=by rw [hR0]; exact Nat.mod_lt _ HGY.out.posY
              rw [HYE.out] at hre0 hlt0
              have hq1b:=HHL1.out
              rw [← QDD.out] at hq1b
              have hq2b:=HL2.out
              rw [← QD2.out] at hq2b
              have HQ:=halves_quo (W:=w32) (un32:=u) (v1:=v1) (v0:=v0) (by have:=HGY.out.posY; rw [HYE.out] at this; exact this) RE1.out hre0 hlt0
              rw [w32_sq,HTR.out,HSL.out,Hd.out.1] at HQ
              have hrem:R0 / 2 ^ sh=(hi*B64+lo) % y:=by rw [← HQ.2]; exact Hd.out.2
              have EREM:=Lib.hid hrem
              have hquo:=HQ.1
              have hzr:(R0:Int) / 2 ^ sh=((R0 / 2 ^ sh:Nat):Int):=shr_u64 R0 sh
              rw [hrem] at hzr
              have wb1:IntKind.u64.wrap ((qd:Int)*4294967296)=((qd*4294967296:Nat):Int):=by
                rw [IntKind.wrap_u64]; unfold w32 at hq1b; omega
              have wb2:IntKind.u64.wrap (((qd*4294967296:Nat):Int)+(qq2:Int))=(((hi*B64+lo) / y:Nat):Int):=by
                rw [hquo,IntKind.wrap_u64]; unfold w32 at *; omega
              have hw:=rest_wraps (u:=R1) (v:=v0) (q:=qq2) (Y:=Y) (R:=R0) hre0 (Nat.lt_trans hlt0 HYLT.out)
              obtain ⟨c1,c2,c3,x1,x2,x3,x4⟩:=hw
              obtain ⟨quo,hquo2⟩:∃ x,x=(hi*B64+lo) / y:=⟨_,rfl⟩
              obtain ⟨rem,hrem2⟩:∃ x,x=(hi*B64+lo) % y:=⟨_,rfl⟩
              rw [← hquo2] at wb2
              rw [← hrem2] at hzr
              have EQU:=Lib.hid hquo2; have ERE:=Lib.hid hrem2
              clear hquo2 hrem2
              generalize qd*4294967296=qdw at *
              clear hR0 hre0 hlt0 hq1b hq2b HQ hrem hquo
              repeat (first | go_skip | go_guarded | go_step | go_upon | go_back)
              go_ret2
              exact ⟨by rw [← EQU.out,← ERE.out]; rfl,rfl⟩
            · have hb1:decide ((4294967296:Int)≤(rr2:Int))=false:=decide_eq_false (by omega)
              have HB2:=Lib.hid hB
              have HQ1:=Lib.hid MM.out.1
              clear hqq2 hrr2 hB
              repeat (first | go_skip | go_guarded | go_step | go_upon | go_back)
              go_round
              case rel=>exact ⟨qq2,rr2,rfl,rfl,MM.out.2,by have:=HB2.out; unfold w32; omega⟩
              case measure=>have:=QQ2.out; have:=HQM2.out; simp [intOf]; omega
          · have ha1:decide ((4294967296:Int)≤(q2:Int))=false:=decide_eq_false (by omega)
            obtain ⟨pp,hpp⟩:∃ x,x=q2*y0:=⟨_,rfl⟩
            have hpm:q2*y0≤4294967295*4294967295:=Nat.mul_le_mul (by omega) HY0B.out
            have wp:IntKind.u64.wrap ((q2:Int)*(y0:Int))=(pp:Int):=by rw [hpp,← Int.natCast_mul]; exact wrap_u64 _ (by unfold B64; omega)
            obtain ⟨ra,hra⟩:∃ x,x=4294967296*r2:=⟨_,rfl⟩
            have wa:IntKind.u64.wrap (4294967296*(r2:Int))=(ra:Int):=by have:=HRB2.out; rw [IntKind.wrap_u64]; omega
            obtain ⟨rb,hrb⟩:∃ x,x=ra+v0:=⟨_,rfl⟩
            have wb:IntKind.u64.wrap ((ra:Int)+(v0:Int))=(rb:Int):=by have:=HRB2.out; have:=HVB2.out; rw [IntKind.wrap_u64]; omega
            by_cases hC:rb<pp
            · have hc1:decide (rb<pp)=true:=decide_eq_true hC
              have hc2:decide ((rb:Int)<(pp:Int))=true:=decide_eq_true (by omega)
              have MM:=Lib.hid (MORE2.out (.inr (by rw [← hpp]; unfold w32; omega)))
              have HQM2:=Lib.hid MM.out.1
              clear hA hpp hpm hra hrb
              obtain ⟨qq2,hqq2⟩:∃ x,x=q2 - 1:=⟨_,rfl⟩
              obtain ⟨rr2,hrr2⟩:∃ x,x=r2+y1:=⟨_,rfl⟩
              have wq1:IntKind.u64.wrap ((q2:Int) - 1)=(qq2:Int):=by have:=MM.out.1; have:=HLE2.out; rw [IntKind.wrap_u64]; omega
              have wr1:IntKind.u64.wrap ((r2:Int)+(y1:Int))=(rr2:Int):=by have:=HRB2.out; have:=HYB1.out; rw [IntKind.wrap_u64]; omega
              rw [← hqq2,← hrr2] at MM
              have QQ2:=Lib.hid hqq2
              by_cases hB:4294967296≤rr2
              · have hb1:decide ((4294967296:Int)≤(rr2:Int))=true:=decide_eq_true (by omega)
                have QD2:Hid (qq2=hT w32 R1 v0 / hY w32 y1 y0):=Lib.hid (half_break MM.out.2 HGY.out (by have:=HLE2.out; unfold w32; omega) (by unfold w32; omega))
                clear hqq2 hrr2 hB
                obtain ⟨R0,hR0⟩:∃ x,x=hT w32 R1 v0 % hY w32 y1 y0:=⟨_,rfl⟩
                have hre0:R0+qq2*hY w32 y1 y0=hT w32 R1 v0:=by rw [hR0,QD2.out]; exact half_rest
                have hlt0:R0<hY w32 y1 y0:=by rw [hR0]; exact Nat.mod_lt _ HGY.out.posY
                rw [HYE.out] at hre0 hlt0
                have hq1b:=HHL1.out
                rw [← QDD.out] at hq1b
                have hq2b:=HL2.out
                rw [← QD2.out] at hq2b
                have HQ:=halves_quo (W:=w32) (un32:=u) (v1:=v1) (v0:=v0) (by have:=HGY.out.posY; rw [HYE.out] at this; exact this) RE1.out hre0 hlt0
                rw [w32_sq,HTR.out,HSL.out,Hd.out.1] at HQ
                have hrem:R0 / 2 ^ sh=(hi*B64+lo) % y:=by rw [← HQ.2]; exact Hd.out.2
                have EREM:=Lib.hid hrem
                have hquo:=HQ.1
                have hzr:(R0:Int) / 2 ^ sh=((R0 / 2 ^ sh:Nat):Int):=shr_u64 R0 sh
                rw [hrem] at hzr
                have wb1:IntKind.u64.wrap ((qd:Int)*4294967296)=((qd*4294967296:Nat):Int):=by
                  rw [IntKind.wrap_u64]; unfold w32 at hq1b; omega
                have wb2:IntKind.u64.wrap (((qd*4294967296:Nat):Int)+(qq2:Int))=(((hi*B64+lo) / y:Nat):Int):=by
                  rw [hquo,IntKind.wrap_u64]; unfold w32 at *; omega
                have hw:=rest_wraps (u:=R1) (v:=v0) (q:=qq2) (Y:=Y) (R:=R0) hre0 (Nat.lt_trans hlt0 HYLT.out)
                obtain ⟨c1,c2,c3,x1,x2,x3,x4⟩:=hw
                obtain ⟨quo,hquo2⟩:∃ x,x=(hi*B64+lo) / y:=⟨_,rfl⟩
                obtain ⟨rem,hrem2⟩:∃ x,x=(hi*B64+lo) % y:=⟨_,rfl⟩
                rw [← hquo2] at wb2
                rw [← hrem2] at hzr
                have EQU:=Lib.hid hquo2; have ERE:=Lib.hid hrem2
                clear hquo2 hrem2
                generalize qd*4294967296=qdw at *
                clear hR0 hre0 hlt0 hq1b hq2b HQ hrem hquo
                repeat (first | go_skip | go_guarded | go_step | go_upon | go_back)
                go_ret2
                exact ⟨by rw [← EQU.out,← ERE.out]; rfl,rfl⟩
              · have hb1:decide ((4294967296:Int)≤(rr2:Int))=false:=decide_eq_false (by omega)
                have HB2:=Lib.hid hB
                have HQ1:=Lib.hid MM.out.1
                clear hqq2 hrr2 hB
                repeat (first | go_skip | go_guarded | go_step | go_upon | go_back)
                go_round
                case rel=>exact ⟨qq2,rr2,rfl,rfl,MM.out.2,by have:=HB2.out; unfold w32; omega⟩
                case measure=>have:=QQ2.out; have:=HQM2.out; simp [intOf]; omega
            · have hc1:decide (rb<pp)=false:=decide_eq_false hC
              have hc2:decide ((rb:Int)<(pp:Int))=false:=decide_eq_false (by omega)
              have QD2:Hid (q2=hT w32 R1 v0 / hY w32 y1 y0):=Lib.hid (half_stop G2.out HGY.out (by rw [← hpp]; unfold w32; omega))
              clear hA hpp hpm hra hrb
              obtain ⟨R0,hR0⟩:∃ x,x=hT w32 R1 v0 % hY w32 y1 y0:=⟨_,rfl⟩
              have hre0:R0+q2*hY w32 y1 y0=hT w32 R1 v0:=by rw [hR0,QD2.out]; exact half_rest
              have hlt0:R0<hY w32 y1 y0:=by rw [hR0]; exact Nat.mod_lt _ HGY.out.posY
              rw [HYE.out] at hre0 hlt0
              have hq1b:=HHL1.out
              rw [← QDD.out] at hq1b
              have hq2b:=HL2.out
              rw [← QD2.out] at hq2b
              have HQ:=halves_quo (W:=w32) (un32:=u) (v1:=v1) (v0:=v0) (by have:=HGY.out.posY; rw [HYE.out] at this; exact this) RE1.out hre0 hlt0
              rw [w32_sq,HTR.out,HSL.out,Hd.out.1] at HQ
              have hrem:R0 / 2 ^ sh=(hi*B64+lo) % y:=by rw [← HQ.2]; exact Hd.out.2
              have EREM:=Lib.hid hrem
              have hquo:=HQ.1
              have hzr:(R0:Int) / 2 ^ sh=((R0 / 2 ^ sh:Nat):Int):=shr_u64 R0 sh
              rw [hrem] at hzr
              have wb1:IntKind.u64.wrap ((qd:Int)*4294967296)=((qd*4294967296:Nat):Int):=by
                rw [IntKind.wrap_u64]; unfold w32 at hq1b; omega
              have wb2:IntKind.u64.wrap (((qd*4294967296:Nat):Int)+(q2:Int))=(((hi*B64+lo) / y:Nat):Int):=by
                rw [hquo,IntKind.wrap_u64]; unfold w32 at *; omega
              have hw:=rest_wraps (u:=R1) (v:=v0) (q:=q2) (Y:=Y) (R:=R0) hre0 (Nat.lt_trans hlt0 HYLT.out)
              obtain ⟨c1,c2,c3,x1,x2,x3,x4⟩:=hw
              obtain ⟨quo,hquo2⟩:∃ x,x=(hi*B64+lo) / y:=⟨_,rfl⟩
              obtain ⟨rem,hrem2⟩:∃ x,x=(hi*B64+lo) % y:=⟨_,rfl⟩
              rw [← hquo2] at wb2
              rw [← hrem2] at hzr
              have EQU:=Lib.hid hquo2; have ERE:=Lib.hid hrem2
              clear hquo2 hrem2
              generalize qd*4294967296=qdw at *
              clear hR0 hre0 hlt0 hq1b hq2b HQ hrem hquo
              repeat (first | go_skip | go_guarded | go_step | go_upon | go_back)
              go_ret2
              exact ⟨by rw [← EQU.out,← ERE.out]; rfl,rfl⟩
      · have hb1:decide ((4294967296:Int)≤(rr1:Int))=false:=decide_eq_false (by omega)
        have HB1:=Lib.hid hB
        have HQ1:=Lib.hid MM.out.1
        clear hqq1 hrr1 hB
        repeat (first | go_skip | go_guarded | go_step | go_upon | go_back)
        go_round
        case rel=>exact ⟨qq1,rr1,rfl,rfl,MM.out.2,by have:=HB1.out; unfold w32; omega⟩
        case measure=>have:=QQ1.out; have:=HQM1.out; simp [intOf]; omega
    · have ha1:decide ((4294967296:Int)≤(q1:Int))=false:=decide_eq_false (by omega)
      obtain ⟨pp,hpp⟩:∃ x,x=q1*y0:=⟨_,rfl⟩
      have hpm:q1*y0≤4294967295*4294967295:=Nat.mul_le_mul (by omega) HY0B.out
      have wp:IntKind.u64.wrap ((q1:Int)*(y0:Int))=(pp:Int):=by rw [hpp,← Int.natCast_mul]; exact wrap_u64 _ (by unfold B64; omega)
      obtain ⟨ra,hra⟩:∃ x,x=4294967296*r1:=⟨_,rfl⟩
      have wa:IntKind.u64.wrap (4294967296*(r1:Int))=(ra:Int):=by have:=HRB1.out; rw [IntKind.wrap_u64]; omega
      obtain ⟨rb,hrb⟩:∃ x,x=ra+v1:=⟨_,rfl⟩
      have wb:IntKind.u64.wrap ((ra:Int)+(v1:Int))=(rb:Int):=by have:=HRB1.out; have:=HVB1.out; rw [IntKind.wrap_u64]; omega
      by_cases hC:rb<pp
      · have hc1:decide (rb<pp)=true:=decide_eq_true hC
        have hc2:decide ((rb:Int)<(pp:Int))=true:=decide_eq_true (by omega)
        have MM:=Lib.hid (MORE1.out (.inr (by rw [← hpp]; unfold w32; omega)))
        have HQM1:=Lib.hid MM.out.1
        clear hA hpp hpm hra hrb
        obtain ⟨qq1,hqq1⟩:∃ x,x=q1 - 1:=⟨_,rfl⟩
        obtain ⟨rr1,hrr1⟩:∃ x,x=r1+y1:=⟨_,rfl⟩
        have wq1:IntKind.u64.wrap ((q1:Int) - 1)=(qq1:Int):=by have:=MM.out.1; have:=HLE1.out; rw [IntKind.wrap_u64]; omega
        have wr1:IntKind.u64.wrap ((r1:Int)+(y1:Int))=(rr1:Int):=by have:=HRB1.out; have:=HYB1.out; rw [IntKind.wrap_u64]; omega
        rw [← hqq1,← hrr1] at MM
        have QQ1:=Lib.hid hqq1
        by_cases hB:4294967296≤rr1
        · have hb1:decide ((4294967296:Int)≤(rr1:Int))=true:=decide_eq_true (by omega)
          have QD1:Hid (qq1=hT w32 u v1 / hY w32 y1 y0):=Lib.hid (half_break MM.out.2 HGY.out (by have:=HLE1.out; unfold w32; omega) (by unfold w32; omega))
          clear hqq1 hrr1 hB
          have QDD:Hid (qq1=hT w32 u v1 / hY w32 y1 y0):=QD1
          obtain ⟨qd,hqd⟩:∃ x,x=qq1:=⟨_,rfl⟩
          rw [← hqd] at QDD
          subst hqd
          obtain ⟨R1,hR1⟩:∃ x,x=hT w32 u v1 % hY w32 y1 y0:=⟨_,rfl⟩
          have hre1:R1+qd*hY w32 y1 y0=hT w32 u v1:=by rw [hR1,QDD.out]; exact half_rest
          have hlt1:R1<hY w32 y1 y0:=by rw [hR1]; exact Nat.mod_lt _ HGY.out.posY
          have HS2:=Lib.hid (half_start hlt1 HV0.out HGY.out)
          have HL2:=Lib.hid (half_lt hlt1 HV0.out)
          rw [HYE.out] at hre1 hlt1
          have RE1:=Lib.hid hre1
          obtain ⟨a1,a2,a3,x1,x2,x3,x4⟩:=rest_wraps (u:=u) (v:=v1) (q:=qd) (Y:=Y) (R:=R1) hre1 (Nat.lt_trans hlt1 HYLT.out)
          have kq2:(R1:Int) / (y1:Int)=((R1 / y1:Nat):Int):=(Int.natCast_ediv R1 y1).symm
          have hmd:R1 % y1<y1:=Nat.mod_lt _ hy1p
          have hqe2:=HS2.out.eq
          have hR1b:R1<B64:=Nat.lt_trans hlt1 HYLT.out
          generalize R1 / y1=qs at *
          generalize R1 % y1=rs at *
          obtain ⟨qsy,hqsy⟩:∃ x,x=qs*y1:=⟨_,rfl⟩
          rw [← hqsy] at hqe2
          have hqw2:IntKind.u64.wrap ((qs:Int)*(y1:Int))=(qsy:Int):=by rw [hqsy,← Int.natCast_mul]; exact wrap_u64 _ (by rw [← hqsy]; omega)
          have hrw2:IntKind.u64.wrap ((R1:Int) - (qsy:Int))=(rs:Int):=by unfold B64 at hR1b; rw [IntKind.wrap_u64]; omega
          have hqsw:IntKind.u64.wrap (qs:Int)=(qs:Int):=by have:=HS2.out.le; unfold w32 at this; exact wrap_u64 _ (by unfold B64; omega)
          have HRS:Hid (rs<w32):=Lib.hid (by have:=HYB1.out; unfold w32; omega)
          clear hR1 hre1 hlt1 hmd hqe2 hR1b hqsy
          repeat (first | go_skip | go_guarded | go_step | go_upon | go_back)
          clear x1 x2 x3 x4 kq2 hqw2 hrw2 hqsw
          go_loop [18,16] (fun qv rv=>HalfO R1 v0 y1 y0 qv rv) (fun qv _=>(intOf qv).toNat)
          case atStart=>exact ⟨qs,rs,rfl,rfl,HS2.out,HRS.out⟩
          case round =>
            obtain ⟨q2,r2,rfl,rfl,hG2,hr2⟩:=hrel
            have G2:=Lib.hid hG2
            have HLE2:Hid (q2≤4294967297):=Lib.hid hG2.le
            have HRB2:Hid (r2≤4294967295):=Lib.hid (by unfold w32 at hr2; omega)
            have MORE2:=Lib.hid (fun h=>half_more hG2 HL2.out HGY.out h)
            have HVB2:Hid (v0≤4294967295):=Lib.hid (by have:=HV0.out; unfold w32 at this; omega)
            have HY0B:Hid (y0≤4294967295):=Lib.hid (by have:=HGY.out.lo; unfold w32 at this; omega)
            clear hG2 hr2
            by_cases hA:4294967296≤q2
            · have ha1:decide ((4294967296:Int)≤(q2:Int))=true:=decide_eq_true (by omega)
              have MM:=Lib.hid (MORE2.out (.inl (by unfold w32; omega)))
              have HQM2:Hid (1≤q2):=Lib.hid (by omega)
              clear hA
              obtain ⟨qq2,hqq2⟩:∃ x,x=q2 - 1:=⟨_,rfl⟩
              obtain ⟨rr2,hrr2⟩:∃ x,x=r2+y1:=⟨_,rfl⟩
              have wq1:IntKind.u64.wrap ((q2:Int) - 1)=(qq2:Int):=by have:=MM.out.1; have:=HLE2.out; rw [IntKind.wrap_u64]; omega
              have wr1:IntKind.u64.wrap ((r2:Int)+(y1:Int))=(rr2:Int):=by have:=HRB2.out; have:=HYB1.out; rw [IntKind.wrap_u64]; omega
              rw [← hqq2,← hrr2] at MM
              have QQ2:=Lib.hid hqq2
              by_cases hB:4294967296≤rr2
              · have hb1:decide ((4294967296:Int)≤(rr2:Int))=true:=decide_eq_true (by omega)
                have QD2:Hid (qq2=hT w32 R1 v0 / hY w32 y1 y0):=Lib.hid (half_break MM.out.2 HGY.out (by have:=HLE2.out; unfold w32; omega) (by unfold w32; omega))
                clear hqq2 hrr2 hB
                obtain ⟨R0,hR0⟩:∃ x,x=hT w32 R1 v0 % hY w32 y1 y0:=⟨_,rfl⟩
                have hre0:R0+qq2*hY w32 y1 y0=hT w32 R1 v0:=by rw [hR0,QD2.out]; exact half_rest
                have hlt0:R0<hY w32 y1 y0:=by rw [hR0]; exact Nat.mod_lt _ HGY.out.posY
                rw [HYE.out] at hre0 hlt0
                have hq1b:=HHL1.out
                rw [← QDD.out] at hq1b
                have hq2b:=HL2.out
                rw [← QD2.out] at hq2b
                have HQ:=halves_quo (W:=w32) (un32:=u) (v1:=v1) (v0:=v0) (by have:=HGY.out.posY; rw [HYE.out] at this; exact this) RE1.out hre0 hlt0
                rw [w32_sq,HTR.out,HSL.out,Hd.out.1] at HQ
                have hrem:R0 / 2 ^ sh=(hi*B64+lo) % y:=by rw [← HQ.2]; exact Hd.out.2
                have EREM:=Lib.hid hrem
                have hquo:=HQ.1
                have hzr:(R0:Int) / 2 ^ sh=((R0 / 2 ^ sh:Nat):Int):=shr_u64 R0 sh
                rw [hrem] at hzr
                have wb1:IntKind.u64.wrap ((qd:Int)*4294967296)=((qd*4294967296:Nat):Int):=by
                  rw [IntKind.wrap_u64]; unfold w32 at hq1b; omega
                have wb2:IntKind.u64.wrap (((qd*4294967296:Nat):Int)+(qq2:Int))=(((hi*B64+lo) / y:Nat):Int):=by
                  rw [hquo,IntKind.wrap_u64]; unfold w32 at *; omega
                have hw:=rest_wraps (u:=R1) (v:=v0) (q:=qq2) (Y:=Y) (R:=R0) hre0 (Nat.lt_trans hlt0 HYLT.out)
                obtain ⟨c1,c2,c3,x1,x2,x3,x4⟩:=hw
                obtain ⟨quo,hquo2⟩:∃ x,x=(hi*B64+lo) / y:=⟨_,rfl⟩
                obtain ⟨rem,hrem2⟩:∃ x,x=(hi*B64+lo) % y:=⟨_,rfl⟩
                rw [← hquo2] at wb2
                rw [← hrem2] at hzr
                have EQU:=Lib.hid hquo2; have ERE:=Lib.hid hrem2
                clear hquo2 hrem2
                generalize qd*4294967296=qdw at *
                clear hR0 hre0 hlt0 hq1b hq2b HQ hrem hquo
                repeat (first | go_skip | go_guarded | go_step | go_upon | go_back)
                go_ret2
                exact ⟨by rw [← EQU.out,← ERE.out]; rfl,rfl⟩
              · have hb1:decide ((4294967296:Int)≤(rr2:Int))=false:=decide_eq_false (by omega)
                have HB2:=Lib.hid hB
                have HQ1:=Lib.hid MM.out.1
                clear hqq2 hrr2 hB
                repeat (first | go_skip | go_guarded | go_step | go_upon | go_back)
                go_round
                case rel=>exact ⟨qq2,rr2,rfl,rfl,MM.out.2,by have:=HB2.out; unfold w32; omega⟩
                case measure=>have:=QQ2.out; have:=HQM2.out; simp [intOf]; omega
            · have ha1:decide ((4294967296:Int)≤(q2:Int))=false:=decide_eq_false (by omega)
              obtain ⟨pp,hpp⟩:∃ x,x=q2*y0:=⟨_,rfl⟩
              have hpm:q2*y0≤4294967295*4294967295:=Nat.mul_le_mul (by omega) HY0B.out
              have wp:IntKind.u64.wrap ((q2:Int)*(y0:Int))=(pp:Int):=by rw [hpp,← Int.natCast_mul]; exact wrap_u64 _ (by unfold B64; omega)
              obtain ⟨ra,hra⟩:∃ x,x=4294967296*r2:=⟨_,rfl⟩
              have wa:IntKind.u64.wrap (4294967296*(r2:Int))=(ra:Int):=by have:=HRB2.out; rw [IntKind.wrap_u64]; omega
              obtain ⟨rb,hrb⟩:∃ x,x=ra+v0:=⟨_,rfl⟩
              have wb:IntKind.u64.wrap ((ra:Int)+(v0:Int))=(rb:Int):=by have:=HRB2.out; have:=HVB2.out; rw [IntKind.wrap_u64]; omega
              by_cases hC:rb<pp
              · have hc1:decide (rb<pp)=true:=decide_eq_true hC
                have hc2:decide ((rb:Int)<(pp:Int))=true:=decide_eq_true (by omega)
                have MM:=Lib.hid (MORE2.out (.inr (by rw [← hpp]; unfold w32; omega)))
                have HQM2:=Lib.hid MM.out.1
                clear hA hpp hpm hra hrb
                obtain ⟨qq2,hqq2⟩:∃ x,x=q2 - 1:=⟨_,rfl⟩
                obtain ⟨rr2,hrr2⟩:∃ x,x=r2+y1:=⟨_,rfl⟩
                have wq1:IntKind.u64.wrap ((q2:Int) - 1)=(qq2:Int):=by have:=MM.out.1; have:=HLE2.out; rw [IntKind.wrap_u64]; omega
                have wr1:IntKind.u64.wrap ((r2:Int)+(y1:Int))=(rr2:Int):=by have:=HRB2.out; have:=HYB1.out; rw [IntKind.wrap_u64]; omega
                rw [← hqq2,← hrr2] at MM
                have QQ2:=Lib.hid hqq2
                by_cases hB:4294967296≤rr2
                · have hb1:decide ((4294967296:Int)≤(rr2:Int))=true:=decide_eq_true (by omega)
                  have QD2:Hid (qq2=hT w32 R1 v0 / hY w32 y1 y0):=Lib.hid (half_break MM.out.2 HGY.out (by have:=HLE2.out; unfold w32; omega) (by unfold w32; omega))
                  clear hqq2 hrr2 hB
                  obtain ⟨R0,hR0⟩:∃ x,x=hT w32 R1 v0 % hY w32 y1 y0:=⟨_,rfl⟩
                  have hre0:R0+qq2*hY w32 y1 y0=hT w32 R1 v0:=by rw [hR0,QD2.out]; exact half_rest
                  have hlt0:R0<hY w32 y1 y0:=by rw [hR0]; exact Nat.mod_lt _ HGY.out.posY
                  rw [HYE.out] at hre0 hlt0
                  have hq1b:=HHL1.out
                  rw [← QDD.out] at hq1b
                  have hq2b:=HL2.out
                  rw [← QD2.out] at hq2b
                  have HQ:=halves_quo (W:=w32) (un32:=u) (v1:=v1) (v0:=v0) (by have:=HGY.out.posY; rw [HYE.out] at this; exact this) RE1.out hre0 hlt0
                  rw [w32_sq,HTR.out,HSL.out,Hd.out.1] at HQ
                  have hrem:R0 / 2 ^ sh=(hi*B64+lo) % y:=by rw [← HQ.2]; exact Hd.out.2
                  have EREM:=Lib.hid hrem
                  have hquo:=HQ.1
                  have hzr:(R0:Int) / 2 ^ sh=((R0 / 2 ^ sh:Nat):Int):=shr_u64 R0 sh
                  rw [hrem] at hzr
                  have wb1:IntKind.u64.wrap ((qd:Int)*4294967296)=((qd*4294967296:Nat):Int):=by
                    rw [IntKind.wrap_u64]; unfold w32 at hq1b; omega
                  have wb2:IntKind.u64.wrap (((qd*4294967296:Nat):Int)+(qq2:Int))=(((hi*B64+lo) / y:Nat):Int):=by
                    rw [hquo,IntKind.wrap_u64]; unfold w32 at *; omega
                  have hw:=rest_wraps (u:=R1) (v:=v0) (q:=qq2) (Y:=Y) (R:=R0) hre0 (Nat.lt_trans hlt0 HYLT.out)
                  obtain ⟨c1,c2,c3,x1,x2,x3,x4⟩:=hw
                  obtain ⟨quo,hquo2⟩:∃ x,x=(hi*B64+lo) / y:=⟨_,rfl⟩
                  obtain ⟨rem,hrem2⟩:∃ x,x=(hi*B64+lo) % y:=⟨_,rfl⟩
                  rw [← hquo2] at wb2
                  rw [← hrem2] at hzr
                  have EQU:=Lib.hid hquo2; have ERE:=Lib.hid hrem2
                  clear hquo2 hrem2
                  generalize qd*4294967296=qdw at *
                  clear hR0 hre0 hlt0 hq1b hq2b HQ hrem hquo
                  repeat (first | go_skip | go_guarded | go_step | go_upon | go_back)
                  go_ret2
                  exact ⟨by rw [← EQU.out,← ERE.out]; rfl,rfl⟩
                · have hb1:decide ((4294967296:Int)≤(rr2:Int))=false:=decide_eq_false (by omega)
                  have HB2:=Lib.hid hB
                  have HQ1:=Lib.hid MM.out.1
                  clear hqq2 hrr2 hB
                  repeat (first | go_skip | go_guarded | go_step | go_upon | go_back)
                  go_round
                  case rel=>exact ⟨qq2,rr2,rfl,rfl,MM.out.2,by have:=HB2.out; unfold w32; omega⟩
                  case measure=>have:=QQ2.out; have:=HQM2.out; simp [intOf]; omega
              · have hc1:decide (rb<pp)=false:=decide_eq_false hC
                have hc2:decide ((rb:Int)<(pp:Int))=false:=decide_eq_false (by omega)
                have QD2:Hid (q2=hT w32 R1 v0 / hY w32 y1 y0):=Lib.hid (half_stop G2.out HGY.out (by rw [← hpp]; unfold w32; omega))
                clear hA hpp hpm hra hrb
                obtain ⟨R0,hR0⟩:∃ x,x=hT w32 R1 v0 % hY w32 y1 y0:=⟨_,rfl⟩
                have hre0:R0+q2*hY w32 y1 y0=hT w32 R1 v0:=by rw [hR0,QD2.out]; exact half_rest
                have hlt0:R0<hY w32 y1 y0:=by rw [hR0]; exact Nat.mod_lt _ HGY.out.posY
                rw [HYE.out] at hre0 hlt0
                have hq1b:=HHL1.out
                rw [← QDD.out] at hq1b
                have hq2b:=HL2.out
                rw [← QD2.out] at hq2b
                have HQ:=halves_quo (W:=w32) (un32:=u) (v1:=v1) (v0:=v0) (by have:=HGY.out.posY; rw [HYE.out] at this; exact this) RE1.out hre0 hlt0
                rw [w32_sq,HTR.out,HSL.out,Hd.out.1] at HQ
                have hrem:R0 / 2 ^ sh=(hi*B64+lo) % y:=by rw [← HQ.2]; exact Hd.out.2
                have EREM:=Lib.hid hrem
                have hquo:=HQ.1
                have hzr:(R0:Int) / 2 ^ sh=((R0 / 2 ^ sh:Nat):Int):=shr_u64 R0 sh
                rw [hrem] at hzr
                have wb1:IntKind.u64.wrap ((qd:Int)*4294967296)=((qd*4294967296:Nat):Int):=by
                  rw [IntKind.wrap_u64]; unfold w32 at hq1b; omega
                have wb2:IntKind.u64.wrap (((qd*4294967296:Nat):Int)+(q2:Int))=(((hi*B64+lo) / y:Nat):Int):=by
                  rw [hquo,IntKind.wrap_u64]; unfold w32 at *; omega
                have hw:=rest_wraps (u:=R1) (v:=v0) (q:=q2) (Y:=Y) (R:=R0) hre0 (Nat.lt_trans hlt0 HYLT.out)
                obtain ⟨c1,c2,c3,x1,x2,x3,x4⟩:=hw
                obtain ⟨quo,hquo2⟩:∃ x,x=(hi*B64+lo) / y:=⟨_,rfl⟩
                obtain ⟨rem,hrem2⟩:∃ x,x=(hi*B64+lo) % y:=⟨_,rfl⟩
                rw [← hquo2] at wb2
                rw [← hrem2] at hzr
                have EQU:=Lib.hid hquo2; have ERE:=Lib.hid hrem2
                clear hquo2 hrem2
                generalize qd*4294967296=qdw at *
                clear hR0 hre0 hlt0 hq1b hq2b HQ hrem hquo
                repeat (first | go_skip | go_guarded | go_step | go_upon | go_back)
                go_ret2
                exact ⟨by rw [← EQU.out,← ERE.out]; rfl,rfl⟩
        · have hb1:decide ((4294967296:Int)≤(rr1:Int))=false:=decide_eq_false (by omega)
          have HB1:=Lib.hid hB
          have HQ1:=Lib.hid MM.out.1
          clear hqq1 hrr1 hB
          repeat (first | go_skip | go_guarded | go_step | go_upon | go_back)
          go_round
          case rel=>exact ⟨qq1,rr1,rfl,rfl,MM.out.2,by have:=HB1.out; unfold w32; omega⟩
          case measure=>have:=QQ1.out; have:=HQM1.out; simp [intOf]; omega
      · have hc1:decide (rb<pp)=false:=decide_eq_false hC
        have hc2:decide ((rb:Int)<(pp:Int))=false:=decide_eq_false (by omega)
        have QD1:Hid (q1=hT w32 u v1 / hY w32 y1 y0):=Lib.hid (half_stop G1.out HGY.out (by rw [← hpp]; unfold w32; omega))
        clear hA hpp hpm hra hrb
        have QDD:Hid (q1=hT w32 u v1 / hY w32 y1 y0):=QD1
        obtain ⟨qd,hqd⟩:∃ x,x=q1:=⟨_,rfl⟩
        rw [← hqd] at QDD
        subst hqd
        obtain ⟨R1,hR1⟩:∃ x,x=hT w32 u v1 % hY w32 y1 y0:=⟨_,rfl⟩
        have hre1:R1+qd*hY w32 y1 y0=hT w32 u v1:=by rw [hR1,QDD.out]; exact half_rest
        have hlt1:R1<hY w32 y1 y0:=by rw [hR1]; exact Nat.mod_lt _ HGY.out.posY
        have HS2:=Lib.hid (half_start hlt1 HV0.out HGY.out)
        have HL2:=Lib.hid (half_lt hlt1 HV0.out)
        rw [HYE.out] at hre1 hlt1
        have RE1:=Lib.hid hre1
        obtain ⟨a1,a2,a3,x1,x2,x3,x4⟩:=rest_wraps (u:=u) (v:=v1) (q:=qd) (Y:=Y) (R:=R1) hre1 (Nat.lt_trans hlt1 HYLT.out)
        have kq2:(R1:Int) / (y1:Int)=((R1 / y1:Nat):Int):=(Int.natCast_ediv R1 y1).symm
        have hmd:R1 % y1<y1:=Nat.mod_lt _ hy1p
        have hqe2:=HS2.out.eq
        have hR1b:R1<B64:=Nat.lt_trans hlt1 HYLT.out
        generalize R1 / y1=qs at *
        generalize R1 % y1=rs at *
        obtain ⟨qsy,hqsy⟩:∃ x,x=qs*y1:=⟨_,rfl⟩
        rw [← hqsy] at hqe2
        have hqw2:IntKind.u64.wrap ((qs:Int)*(y1:Int))=(qsy:Int):=by rw [hqsy,← Int.natCast_mul]; exact wrap_u64 _ (by rw [← hqsy]; omega)
        have hrw2:IntKind.u64.wrap ((R1:Int) - (qsy:Int))=(rs:Int):=by unfold B64 at hR1b; rw [IntKind.wrap_u64]; omega
        have hqsw:IntKind.u64.wrap (qs:Int)=(qs:Int):=by have:=HS2.out.le; unfold w32 at this; exact wrap_u64 _ (by unfold B64; omega)
        have HRS:Hid (rs<w32):=Lib.hid (by have:=HYB1.out; unfold w32; omega)
        clear hR1 hre1 hlt1 hmd hqe2 hR1b hqsy
        repeat (first | go_skip | go_guarded | go_step | go_upon | go_back)
        clear x1 x2 x3 x4 kq2 hqw2 hrw2 hqsw
        go_loop [18,16] (fun qv rv=>HalfO R1 v0 y1 y0 qv rv) (fun qv _=>(intOf qv).toNat)
        case atStart=>exact ⟨qs,rs,rfl,rfl,HS2.out,HRS.out⟩
        case round =>
          obtain ⟨q2,r2,rfl,rfl,hG2,hr2⟩:=hrel
          have G2:=Lib.hid hG2
          have HLE2:Hid (q2≤4294967297):=Lib.hid hG2.le
          have HRB2:Hid (r2≤4294967295):=Lib.hid (by unfold w32 at hr2; omega)
          have MORE2:=Lib.hid (fun h=>half_more hG2 HL2.out HGY.out h)
          have HVB2:Hid (v0≤4294967295):=Lib.hid (by have:=HV0.out; unfold w32 at this; omega)
          have HY0B:Hid (y0≤4294967295):=Lib.hid (by have:=HGY.out.lo; unfold w32 at this; omega)
          clear hG2 hr2
          by_cases hA:4294967296≤q2
          · have ha1:decide ((4294967296:Int)≤(q2:Int))=true:=decide_eq_true (by omega)
            have MM:=Lib.hid (MORE2.out (.inl (by unfold w32; omega)))
            have HQM2:Hid (1≤q2):=Lib.hid (by omega)
            clear hA
            obtain ⟨qq2,hqq2⟩:∃ x,x=q2 - 1:=⟨_,rfl⟩
            obtain ⟨rr2,hrr2⟩:∃ x,x=r2+y1:=⟨_,rfl⟩
            have wq1:IntKind.u64.wrap ((q2:Int) - 1)=(qq2:Int):=by have:=MM.out.1; have:=HLE2.out; rw [IntKind.wrap_u64]; omega
            have wr1:IntKind.u64.wrap ((r2:Int)+(y1:Int))=(rr2:Int):=by have:=HRB2.out; have:=HYB1.out; rw [IntKind.wrap_u64]; omega
            rw [← hqq2,← hrr2] at MM
            have QQ2:=Lib.hid hqq2
            by_cases hB:4294967296≤rr2
            · have hb1:decide ((4294967296:Int)≤(rr2:Int))=true:=decide_eq_true (by omega)
              have QD2:Hid (qq2=hT w32 R1 v0 / hY w32 y1 y0):=Lib.hid (half_break MM.out.2 HGY.out (by have:=HLE2.out; unfold w32; omega) (by unfold w32; omega))
              clear hqq2 hrr2 hB
              obtain ⟨R0,hR0⟩:∃ x,x=hT w32 R1 v0 % hY w32 y1 y0:=⟨_,rfl⟩
              have hre0:R0+qq2*hY w32 y1 y0=hT w32 R1 v0:=by rw [hR0,QD2.out]; exact half_rest
              have hlt0:R0<hY w32 y1 y0:=by rw [hR0]; exact Nat.mod_lt _ HGY.out.posY
              rw [HYE.out] at hre0 hlt0
              have hq1b:=HHL1.out
              rw [← QDD.out] at hq1b
              have hq2b:=HL2.out
              rw [← QD2.out] at hq2b
              have HQ:=halves_quo (W:=w32) (un32:=u) (v1:=v1) (v0:=v0) (by have:=HGY.out.posY; rw [HYE.out] at this; exact this) RE1.out hre0 hlt0
              rw [w32_sq,HTR.out,HSL.out,Hd.out.1] at HQ
              have hrem:R0 / 2 ^ sh=(hi*B64+lo) % y:=by rw [← HQ.2]; exact Hd.out.2
              have EREM:=Lib.hid hrem
              have hquo:=HQ.1
              have hzr:(R0:Int) / 2 ^ sh=((R0 / 2 ^ sh:Nat):Int):=shr_u64 R0 sh
              rw [hrem] at hzr
              have wb1:IntKind.u64.wrap ((qd:Int)*4294967296)=((qd*4294967296:Nat):Int):=by
                rw [IntKind.wrap_u64]; unfold w32 at hq1b; omega
              have wb2:IntKind.u64.wrap (((qd*4294967296:Nat):Int)+(qq2:Int))=(((hi*B64+lo) / y:Nat):Int):=by
                rw [hquo,IntKind.wrap_u64]; unfold w32 at *; omega
              have hw:=rest_wraps (u:=R1) (v:=v0) (q:=qq2) (Y:=Y) (R:=R0) hre0 (Nat.lt_trans hlt0 HYLT.out)
              obtain ⟨c1,c2,c3,x1,x2,x3,x4⟩:=hw
              obtain ⟨quo,hquo2⟩:∃ x,x=(hi*B64+lo) / y:=⟨_,rfl⟩
              obtain ⟨rem,hrem2⟩:∃ x,x=(hi*B64+lo) % y:=⟨_,rfl⟩
              rw [← hquo2] at wb2
              rw [← hrem2] at hzr
              have EQU:=Lib.hid hquo2; have ERE:=Lib.hid hrem2
              clear hquo2 hrem2
              generalize qd*4294967296=qdw at *
              clear hR0 hre0 hlt0 hq1b hq2b HQ hrem hquo
              repeat (first | go_skip | go_guarded | go_step | go_upon | go_back)
              go_ret2
              exact ⟨by rw [← EQU.out,← ERE.out]; rfl,rfl⟩
            · have hb1:decide ((4294967296:Int)≤(rr2:Int))=false:=decide_eq_false (by omega)
              have HB2:=Lib.hid hB
              have HQ1:=Lib.hid MM.out.1
              clear hqq2 hrr2 hB
              repeat (first | go_skip | go_guarded | go_step | go_upon | go_back)
              go_round
              case rel=>exact ⟨qq2,rr2,rfl,rfl,MM.out.2,by have:=HB2.out; unfold w32; omega⟩
              case measure=>have:=QQ2.out; have:=HQM2.out; simp [intOf]; omega
          · have ha1:decide ((4294967296:Int)≤(q2:Int))=false:=decide_eq_false (by omega)
            obtain ⟨pp,hpp⟩:∃ x,x=q2*y0:=⟨_,rfl⟩
            have hpm:q2*y0≤4294967295*4294967295:=Nat.mul_le_mul (by omega) HY0B.out
            have wp:IntKind.u64.wrap ((q2:Int)*(y0:Int))=(pp:Int):=by rw [hpp,← Int.natCast_mul]; exact wrap_u64 _ (by unfold B64; omega)
            obtain ⟨ra,hra⟩:∃ x,x=4294967296*r2:=⟨_,rfl⟩
            have wa:IntKind.u64.wrap (4294967296*(r2:Int))=(ra:Int):=by have:=HRB2.out; rw [IntKind.wrap_u64]; omega
            obtain ⟨rb,hrb⟩:∃ x,x=ra+v0:=⟨_,rfl⟩
            have wb:IntKind.u64.wrap ((ra:Int)+(v0:Int))=(rb:Int):=by have:=HRB2.out; have:=HVB2.out; rw [IntKind.wrap_u64]; omega
            by_cases hC:rb<pp
            · have hc1:decide (rb<pp)=true:=decide_eq_true hC
              have hc2:decide ((rb:Int)<(pp:Int))=true:=decide_eq_true (by omega)
              have MM:=Lib.hid (MORE2.out (.inr (by rw [← hpp]; unfold w32; omega)))
              have HQM2:=Lib.hid MM.out.1
              clear hA hpp hpm hra hrb
              obtain ⟨qq2,hqq2⟩:∃ x,x=q2 - 1:=⟨_,rfl⟩
              obtain ⟨rr2,hrr2⟩:∃ x,x=r2+y1:=⟨_,rfl⟩
              have wq1:IntKind.u64.wrap ((q2:Int) - 1)=(qq2:Int):=by have:=MM.out.1; have:=HLE2.out; rw [IntKind.wrap_u64]; omega
              have wr1:IntKind.u64.wrap ((r2:Int)+(y1:Int))=(rr2:Int):=by have:=HRB2.out; have:=HYB1.out; rw [IntKind.wrap_u64]; omega
              rw [← hqq2,← hrr2] at MM
              have QQ2:=Lib.hid hqq2
              by_cases hB:4294967296≤rr2
              · have hb1:decide ((4294967296:Int)≤(rr2:Int))=true:=decide_eq_true (by omega)
                have QD2:Hid (qq2=hT w32 R1 v0 / hY w32 y1 y0):=Lib.hid (half_break MM.out.2 HGY.out (by have:=HLE2.out; unfold w32; omega) (by unfold w32; omega))
                clear hqq2 hrr2 hB
                obtain ⟨R0,hR0⟩:∃ x,x=hT w32 R1 v0 % hY w32 y1 y0:=⟨_,rfl⟩
                have hre0:R0+qq2*hY w32 y1 y0=hT w32 R1 v0:=by rw [hR0,QD2.out]; exact half_rest
                have hlt0:R0<hY w32 y1 y0:=by rw [hR0]; exact Nat.mod_lt _ HGY.out.posY
                rw [HYE.out] at hre0 hlt0
                have hq1b:=HHL1.out
                rw [← QDD.out] at hq1b
                have hq2b:=HL2.out
                rw [← QD2.out] at hq2b
                have HQ:=halves_quo (W:=w32) (un32:=u) (v1:=v1) (v0:=v0) (by have:=HGY.out.posY; rw [HYE.out] at this; exact this) RE1.out hre0 hlt0
                rw [w32_sq,HTR.out,HSL.out,Hd.out.1] at HQ
                have hrem:R0 / 2 ^ sh=(hi*B64+lo) % y:=by rw [← HQ.2]; exact Hd.out.2
                have EREM:=Lib.hid hrem
                have hquo:=HQ.1
                have hzr:(R0:Int) / 2 ^ sh=((R0 / 2 ^ sh:Nat):Int):=shr_u64 R0 sh
                rw [hrem] at hzr
                have wb1:IntKind.u64.wrap ((qd:Int)*4294967296)=((qd*4294967296:Nat):Int):=by
                  rw [IntKind.wrap_u64]; unfold w32 at hq1b; omega
                have wb2:IntKind.u64.wrap (((qd*4294967296:Nat):Int)+(qq2:Int))=(((hi*B64+lo) / y:Nat):Int):=by
                  rw [hquo,IntKind.wrap_u64]; unfold w32 at *; omega
                have hw:=rest_wraps (u:=R1) (v:=v0) (q:=qq2) (Y:=Y) (R:=R0) hre0 (Nat.lt_trans hlt0 HYLT.out)
                obtain ⟨c1,c2,c3,x1,x2,x3,x4⟩:=hw
                obtain ⟨quo,hquo2⟩:∃ x,x=(hi*B64+lo) / y:=⟨_,rfl⟩
                obtain ⟨rem,hrem2⟩:∃ x,x=(hi*B64+lo) % y:=⟨_,rfl⟩
                rw [← hquo2] at wb2
                rw [← hrem2] at hzr
                have EQU:=Lib.hid hquo2; have ERE:=Lib.hid hrem2
                clear hquo2 hrem2
                generalize qd*4294967296=qdw at *
                clear hR0 hre0 hlt0 hq1b hq2b HQ hrem hquo
                repeat (first | go_skip | go_guarded | go_step | go_upon | go_back)
                go_ret2
                exact ⟨by rw [← EQU.out,← ERE.out]; rfl,rfl⟩
              · have hb1:decide ((4294967296:Int)≤(rr2:Int))=false:=decide_eq_false (by omega)
                have HB2:=Lib.hid hB
                have HQ1:=Lib.hid MM.out.1
                clear hqq2 hrr2 hB
                repeat (first | go_skip | go_guarded | go_step | go_upon | go_back)
                go_round
                case rel=>exact ⟨qq2,rr2,rfl,rfl,MM.out.2,by have:=HB2.out; unfold w32; omega⟩
                case measure=>have:=QQ2.out; have:=HQM2.out; simp [intOf]; omega
            · have hc1:decide (rb<pp)=false:=decide_eq_false hC
              have hc2:decide ((rb:Int)<(pp:Int))=false:=decide_eq_false (by omega)
              have QD2:Hid (q2=hT w32 R1 v0 / hY w32 y1 y0):=Lib.hid (half_stop G2.out HGY.out (by rw [← hpp]; unfold w32; omega))
              clear hA hpp hpm hra hrb
              obtain ⟨R0,hR0⟩:∃ x,x=hT w32 R1 v0 % hY w32 y1 y0:=⟨_,rfl⟩
              have hre0:R0+q2*hY w32 y1 y0=hT w32 R1 v0:=by rw [hR0,QD2.out]; exact half_rest
              have hlt0:R0<hY w32 y1 y0:=by rw [hR0]; exact Nat.mod_lt _ HGY.out.posY
              rw [HYE.out] at hre0 hlt0
              have hq1b:=HHL1.out
              rw [← QDD.out] at hq1b
              have hq2b:=HL2.out
              rw [← QD2.out] at hq2b
              have HQ:=halves_quo (W:=w32) (un32:=u) (v1:=v1) (v0:=v0) (by have:=HGY.out.posY; rw [HYE.out] at this; exact this) RE1.out hre0 hlt0
              rw [w32_sq,HTR.out,HSL.out,Hd.out.1] at HQ
              have hrem:R0 / 2 ^ sh=(hi*B64+lo) % y:=by rw [← HQ.2]; exact Hd.out.2
              have EREM:=Lib.hid hrem
              have hquo:=HQ.1
              have hzr:(R0:Int) / 2 ^ sh=((R0 / 2 ^ sh:Nat):Int):=shr_u64 R0 sh
              rw [hrem] at hzr
              have wb1:IntKind.u64.wrap ((qd:Int)*4294967296)=((qd*4294967296:Nat):Int):=by
                rw [IntKind.wrap_u64]; unfold w32 at hq1b; omega
              have wb2:IntKind.u64.wrap (((qd*4294967296:Nat):Int)+(q2:Int))=(((hi*B64+lo) / y:Nat):Int):=by
                rw [hquo,IntKind.wrap_u64]; unfold w32 at *; omega
              have hw:=rest_wraps (u:=R1) (v:=v0) (q:=q2) (Y:=Y) (R:=R0) hre0 (Nat.lt_trans hlt0 HYLT.out)
              obtain ⟨c1,c2,c3,x1,x2,x3,x4⟩:=hw
              obtain ⟨quo,hquo2⟩:∃ x,x=(hi*B64+lo) / y:=⟨_,rfl⟩
              obtain ⟨rem,hrem2⟩:∃ x,x=(hi*B64+lo) % y:=⟨_,rfl⟩
              rw [← hquo2] at wb2
              rw [← hrem2] at hzr
              have EQU:=Lib.hid hquo2; have ERE:=Lib.hid hrem2
              clear hquo2 hrem2
              generalize qd*4294967296=qdw at *
              clear hR0 hre0 hlt0 hq1b hq2b HQ hrem hquo
              repeat (first | go_skip | go_guarded | go_step | go_upon | go_back)
              go_ret2
              exact ⟨by rw [← EQU.out,← ERE.out]; rfl,rfl⟩
theorem div64_drawn (hi lo y:Nat) (hh:hi<y) (hl:lo<B64) (hy:y<B64) (w:World) :
    Calls Tryz.prog 190 #[.int .u64 ((hi:Nat):Int),.int .u64 ((lo:Nat):Int),.int .u64 ((y:Nat):Int)] w fun e w' =>
      e=.returned (.tuple #[.int .u64 (((hi*B64+lo) / y:Nat):Int),.int .u64 (((hi*B64+lo) % y:Nat):Int)])∧Drawn w w':=by
  by_cases h0:hi=0
  · subst h0
    have h:=div64_zero lo y hl hy (by omega) w
    rw [Nat.zero_mul,Nat.zero_add]
    exact h
  · have hb:bl y≤64:=bl_le hy
    exact (div64_main hi lo y (bl y) (64 - bl y) (64 - (64 - bl y)) hh (by omega) hl hy rfl (by omega) (by omega) w).mono fun e w' ⟨h1,h2⟩=>⟨h1,by rw [← h2]; exact ⟨0,rfl⟩⟩
theorem div64_any (hi lo y:Nat) (hh:hi<y) (hl:lo<B64) (hy:y<B64) (w:World) :
    Calls Tryz.prog 190 #[.int .u64 ((hi:Nat):Int),.int .u64 ((lo:Nat):Int),.int .u64 ((y:Nat):Int)] w fun e w' =>
      e=.returned (.tuple #[.int .u64 (((hi*B64+lo) / y:Nat):Int),.int .u64 (((hi*B64+lo) % y:Nat):Int)])∧Below w.heap.size w w' :=
  (div64_drawn hi lo y hh hl hy w).mono fun _ _ ⟨h1,h2⟩=>⟨h1,h2.below⟩
end Go.Proofs.YtacbkpenohcgjaaGreat
namespace Go.Proofs.YtacbkpenohcgjaaGreat
open Go.RowKit Mth
def dgQ (r x d:Nat):Nat:=(r*B64+x) / d
def dgR (r x d:Nat):Nat:=(r*B64+x) % d
theorem dgQ_lt {r x d:Nat} (hr:r<d) (hx:x<B64):dgQ r x d<B64:=by
  unfold dgQ
  rw [Nat.div_lt_iff_lt_mul (by omega)]
  have:(r+1)*B64≤d*B64:=Nat.mul_le_mul_right _ hr
  rw [Nat.add_mul,Nat.one_mul] at this
  rw [Nat.mul_comm B64]
  omega
theorem dgR_lt {r x d:Nat} (hr:r<d):dgR r x d<d:=Nat.mod_lt _ (by omega)
theorem dg_eq (r x d:Nat):dgQ r x d*d+dgR r x d=r*B64+x:=by
  unfold dgQ dgR
  rw [Nat.mul_comm]; exact Nat.div_add_mod _ _
structure DbT (R R':List Nat) (n d k r:Nat):Prop where
  len:R'.length=R.length
  rest:∀ j,j<k∨n≤j→R'.getD j 0=R.getD j 0
  lim:Lim B64 R'
  rlt:r<d
  eq:val B64 ((R.take n).drop k)=val B64 ((R'.take n).drop k)*d+r
theorem dbT_zero {R:List Nat} {n d:Nat} (h:Lim B64 R) (hn:n≤R.length) (hd:0<d):DbT R R n d n 0:=by
  refine ⟨rfl,fun _ _=>rfl,h,hd, ?_⟩
  rw [List.drop_of_length_le (by rw [List.length_take]; omega)]
  simp [val]
theorem dbT_step {R R':List Nat} {n d k r:Nat} (h:DbT R R' n d (k+1) r) (hk:k<n) (hn:n≤R.length) :
    DbT R (R'.set k (dgQ r (R'.getD k 0) d)) n d k (dgR r (R'.getD k 0) d):=by
  have hl:=h.len
  have hr:=h.rlt
  have e0:=h.rest k (by omega)
  refine ⟨by rw [List.length_set,hl],fun j hj=>by rw [getD_set' _ _ _ _ (by omega),if_neg (by omega)]; exact h.rest j (by omega),lim_set h.lim (dgQ_lt hr (h.lim k)) _,dgR_lt hr, ?_⟩
  have e1:=val_drop B64 (R.take n) k (by rw [List.length_take]; omega)
  have e2:=val_drop B64 ((R'.set k (dgQ r (R'.getD k 0) d)).take n) k (by rw [List.length_take,List.length_set]; omega)
  have e3:((R'.set k (dgQ r (R'.getD k 0) d)).take n).getD k 0=dgQ r (R'.getD k 0) d:=by
    rw [getD_take,if_pos hk,getD_set' _ _ _ _ (by omega),if_pos rfl]
  have e4:((R'.set k (dgQ r (R'.getD k 0) d)).take n).drop (k+1)=(R'.take n).drop (k+1):=by
    apply list_congr
    · simp
    · intro j hj
      simp only [List.length_drop,List.length_take,List.length_set] at hj
      rw [getD_drop,getD_drop,getD_take,getD_take]
      split
      · rw [getD_set' _ _ _ _ (by omega),if_neg (by omega)]
      · rfl
  have e5:(R.take n).getD k 0=R'.getD k 0:=by rw [getD_take,if_pos hk,e0]
  rw [e1,e2,e3,e4,e5,h.eq]
  have e6:=dg_eq r (R'.getD k 0) d
  generalize R'.getD k 0=x at *
  generalize val B64 ((R'.take n).drop (k+1))=Q at *
  rw [Nat.add_mul,Nat.mul_add,← Nat.mul_assoc]
  have e7:B64*r=r*B64:=Nat.mul_comm _ _
  omega
theorem dbT_end {R R':List Nat} {n d r:Nat} (h:DbT R R' n d 0 r):val B64 (R'.take n)=val B64 (R.take n) / d∧r=val B64 (R.take n) % d:=by
  have e:=h.eq
  simp only [List.drop_zero] at e
  have hr:=h.rlt
  rw [e]
  have e1:val B64 (R'.take n)*d+r=r+d*val B64 (R'.take n):=by rw [Nat.mul_comm]; omega
  rw [e1,Nat.add_mul_div_left _ _ (by omega),Nat.div_eq_of_lt hr,Nat.add_mul_mod_self_left,Nat.mod_eq_of_lt hr]
  exact ⟨by omega,rfl⟩
def DbO (w wr:World) (g:Nat) (R:List Nat) (n d:Nat) (r i:Value):Prop:=∃ (k rr:Nat) (R':List Nat),k≤n∧i=.int .i64 ((k:Int) - 1)∧r=.int .u64 (rr:Int)∧DbT R R' n d k rr∧Row wr 37 .u64 g R'∧w.grownBy wr (some g)
theorem divideByLimb_any (g n cap d:Nat) (R:List Nat) (w:World) (hR:Row w 37 .u64 g R) (lR:Lim B64 R) (hn:n≤R.length) (_hcap:n≤cap) (_hm:cap≤maxLen) (hd:0<d) (hdb:d<B64) (hRl:R.length≤16777217) :
    Calls Tryz.prog 185 #[.slice (some ⟨g,0,none⟩) n cap,.int .u64 ((d:Nat):Int)] w fun e w'=>∃ r R',e=.returned (.int .u64 ((r:Nat):Int))∧Row w' 37 .u64 g R'∧w.grownBy w' (some g)∧DbT R R' n d 0 r:=by
  have HR:=Lib.hid hR; have LR:=Lib.hid lR; have HD:=Lib.hid hd; have HDB:=Lib.hid hdb
  unfold maxLen at _hm
  clear hR lR hdb
  go_enter Tryz.func185,Tryz.ntmps185
  go_wp2
  go_loopw [5,6] (fun r i wr=>DbO w wr g R n d r i) (fun _ i _=>(intOf i+1).toNat)
  case atStart=>exact ⟨n,0,R,Nat.le_refl _,rfl,rfl,dbT_zero LR.out hn HD.out,HR.out,World.grownBy.refl _ _⟩
  case round =>
    obtain ⟨k0,r,R',hk,rfl,rfl,hT,hrow,hgr⟩:=hrel
    have HT:=Lib.hid hT; have HROW:=Lib.hid hrow; have HG:=Lib.hid hgr
    by_cases hlt:0<k0
    · obtain ⟨k,rfl⟩:∃ k,k0=k+1:=⟨k0 - 1,by omega⟩
      have hkn:k<n:=by omega
      have hcr:wr.cell? ⟨g,k,none⟩=some (.int .u64 ((R'.getD k 0:Nat):Int)):=hrow.cell (by rw [hT.len]; omega)
      have HST:=Lib.hid (dbT_step hT hkn hn)
      have hxb:=hT.lim k
      have hrl:=hT.rlt
      have DV:=fun w=>div64_any r (R'.getD k 0) d hrl hxb HDB.out w
      have hlen:k<R'.length:=by rw [hT.len]; omega
      have HLEN:=Lib.hid hlen
      generalize hx:R'.getD k 0=x at *
      have he:((k+1:Nat):Int) - 1=(k:Int):=by omega
      clear hT hrow hgr hxb hrl hx hlen
      rw [he]
      have hk16:k≤16777217:=by omega
      go_wp2_with fail
      refine (DV _).mono ?_
      rintro e w3 ⟨rfl,hb3⟩
      have ROW3:=HROW.out.below hb3
      have hcr3:w3.cell? ⟨g,k,none⟩=some (.int .u64 ((R'.getD k 0:Nat):Int)):=ROW3.cell HLEN.out
      have hfr3:w3.frozen? ⟨g,k,none⟩=false:=ROW3.free _
      generalize R'.getD k 0=x2 at hcr3
      have R3:=Lib.hid ROW3; have HG3:=Lib.hid (grown_trans' HG.out (grown_of_below hb3 (some g)))
      clear ROW3 hb3
      go_wp2
      go_roundw
      case rel =>
        have hset:=R3.out.set k (dgQ r x d)
        exact ⟨k,dgR r x d,_,by omega,by go_num,rfl,HST.out,hset.1,grown_trans' HG3.out hset.2⟩
      case measure=>simp [intOf]
    · obtain rfl:k0=0:=by omega
      clear hT hrow hgr
      go_wp2
      go_ret
      exact ⟨_,_,rfl,HROW.out,HG.out,HT.out⟩
end Go.Proofs.YtacbkpenohcgjaaGreat
