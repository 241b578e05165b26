import Derived.Test.YtacbkpenohcgjaaGreatVN1
import Derived.Test.YtacbkpenohcgjaaGreatVRF
import Derived.Test.YtacbkpenohcgjaaGreatVZB5
import Derived.Test.YtacbkpenohcgjaaGreatVFA
import Derived.Laws.BitsAllLaws
import Derived.StillTailTactics
import Derived.Deep.RegionHeld3
set_option linter.unusedVariables false
set_option linter.unusedSimpArgs false
set_option maxHeartbeats 8000000
set_option maxRecDepth 100000
namespace Go.Proofs.YtacbkpenohcgjaaGreat
open Go.RowKit Mth
def vecN (wd:Nat) (z:Int):Nat:=(z % ((2 ^ wd:Nat):Int)).toNat
theorem two_pos (n:Nat):0<2 ^ n:=Nat.pow_pos (by omega)
theorem vec_lt (wd:Nat) (z:Int):vecN wd z<2 ^ wd:=by
  unfold vecN
  have h:=two_pos wd
  have h1:=Int.emod_nonneg z (b:=((2 ^ wd:Nat):Int)) (by omega)
  have h2:=Int.emod_lt_of_pos z (b:=((2 ^ wd:Nat):Int)) (by omega)
  omega
theorem vec_cast (wd:Nat) (z:Int):((vecN wd z:Nat):Int)=z % ((2 ^ wd:Nat):Int):=by
  unfold vecN
  have h:=two_pos wd
  have h1:=Int.emod_nonneg z (b:=((2 ^ wd:Nat):Int)) (by omega)
  omega
theorem vec_nat (wd n:Nat):vecN wd (n:Int)=n % 2 ^ wd:=by
  unfold vecN
  rw [← Int.natCast_emod]
  exact Int.toNat_natCast _
theorem vec_same {wd:Nat} {x y:Int} (h:x % ((2 ^ wd:Nat):Int)=y % ((2 ^ wd:Nat):Int)):vecN wd x=vecN wd y:=by unfold vecN; rw [h]
theorem vec_of {wd n:Nat} {z:Int} (hn:n<2 ^ wd) (h:(n:Int) % ((2 ^ wd:Nat):Int)=z % ((2 ^ wd:Nat):Int)):n=vecN wd z:=by
  have:=vec_same h
  rw [vec_nat,Nat.mod_eq_of_lt hn] at this
  exact this
def lbs (wd:Nat):Nat:=(wd+63) / 64
theorem b64_two (n:Nat):B64 ^ n=2 ^ (64*n):=by
  unfold B64
  rw [show (18446744073709551616:Nat)=2 ^ 64 by rfl,← Nat.pow_mul]
structure NgI (xs ys:List Nat) (k c:Nat):Prop where
  len:ys.length=xs.length
  lim:Lim B64 ys
  car:c≤1
  sum:val B64 (ys.take k)+val B64 (xs.take k)+c*B64 ^ k=B64 ^ k
  rest:∀ j,k≤j→ys.getD j 0=xs.getD j 0
def ngY (x c:Nat):Nat:=if x=0∧c=1 then 0 else B64 - 1 - x+c
def ngC (x c:Nat):Nat:=if ngY x c=0 then c else 0
theorem ngY_lt {x c:Nat} (hx:x<B64) (hc:c≤1):ngY x c<B64:=by unfold ngY; split<;>omega
theorem take_set_ge {xs:List Nat} {k x:Nat}:(xs.set k x).take k=xs.take k:=by
  rw [List.take_set]
  exact List.set_eq_of_length_le (by rw [List.length_take]; omega)
theorem ng_step {xs ys:List Nat} {k c:Nat} (lx:Lim B64 xs) (h:NgI xs ys k c) (hk:k<xs.length):NgI xs (ys.set k (ngY (xs.getD k 0) c)) (k+1) (ngC (xs.getD k 0) c):=by
  have hx:xs.getD k 0<B64:=lx k
  have hky:k<ys.length:=by rw [h.len]; exact hk
  generalize hxe:xs.getD k 0=x at *
  refine ⟨by rw [List.length_set]; exact h.len,lim_set h.lim (ngY_lt hx h.car) _,by unfold ngC; split; exact h.car; omega, ?_,fun j hj=>?_⟩
  · rw [val_take_succ _ _ _ (by rw [List.length_set]; exact hky),val_take_succ _ _ _ hk,take_set_ge,getD_set _ _ _ _ hky,if_pos rfl,hxe,Nat.pow_succ]
    have hs:=h.sum
    have hc:=h.car
    generalize val B64 (ys.take k)=Y at *
    generalize val B64 (xs.take k)=X at *
    generalize B64 ^ k=P at *
    unfold ngC ngY
    by_cases hx0:x=0
    · subst hx0
      rcases (show c=0∨c=1 by omega) with rfl | rfl
      · rw [if_neg (by omega),if_neg (by have:=B64_pos; omega)]
        have:P*(B64 - 1 - 0+0)+P=P*B64:=by
          rw [← Nat.mul_succ]; congr 1
        omega
      · rw [if_pos ⟨rfl,rfl⟩,if_pos rfl]
        omega
    · rw [if_neg (by omega)]
      rcases (show c=0∨c=1 by omega) with rfl | rfl
      · have hsum:P*(B64 - 1 - x+0)+P*x+P=P*B64:=by
          rw [← Nat.mul_add,← Nat.mul_succ]; congr 1; omega
        split<;>omega
      · have hsum:P*(B64 - 1 - x+1)+P*x=P*B64:=by
          rw [← Nat.mul_add]; congr 1; omega
        rw [if_neg (by omega)]
        omega
  · rw [getD_set _ _ _ _ hky,if_neg (by omega)]
    exact h.rest j (by omega)
theorem ng_end {xs ys:List Nat} {c:Nat} (h:NgI xs ys xs.length c) (lx:Lim B64 xs):val B64 ys=(B64 ^ xs.length - val B64 xs) % B64 ^ xs.length:=by
  have hs:=h.sum
  have hc:=h.car
  rw [List.take_length,show ys.take xs.length=ys by rw [← h.len,List.take_length]] at hs
  have h1:=val_lt lx
  have h2:=val_lt h.lim
  rw [h.len] at h2
  generalize val B64 ys=Y at *
  generalize val B64 xs=X at *
  generalize B64 ^ xs.length=P at *
  rcases (show c=0∨c=1 by omega) with rfl | rfl
  · rcases Nat.eq_zero_or_pos X with h0 | h0
    · omega
    · rw [Nat.mod_eq_of_lt (by omega)]; omega
  · have:Y=0∧X=0:=by omega
    rw [this.1,this.2,Nat.sub_zero,Nat.mod_self]
theorem ng_start (xs:List Nat) (lx:Lim B64 xs):NgI xs xs 0 1:=⟨rfl,lx,Nat.le_refl _,by simp [val],fun _ _=>rfl⟩
end Go.Proofs.YtacbkpenohcgjaaGreat
namespace Go.Proofs.YtacbkpenohcgjaaGreat
open Go.RowKit Mth
theorem not_u64 (x:Nat) (hx:x<18446744073709551616):bits BinOp.xor IntKind.u64 (if IntKind.u64.signed=true then -1 else IntKind.u64.max) (x:Int)=18446744073709551615 - (x:Int):=by
  have e:(if IntKind.u64.signed=true then -1 else IntKind.u64.max)=((18446744073709551615:Nat):Int):=by decide
  rw [e,u64_xor_nat _ _ (by omega) hx]
  have h:(18446744073709551615:Nat) ^^^ x=18446744073709551615 - x:=by
    have h1:=BitVec.toNat_xor (BitVec.allOnes 64) (BitVec.ofNat 64 x)
    rw [BitVec.allOnes_xor,BitVec.toNat_not,BitVec.toNat_ofNat,BitVec.toNat_allOnes,Nat.mod_eq_of_lt (by omega),show (2:Nat) ^ 64 - 1=18446744073709551615 from rfl] at h1
    omega
  rw [h]
  omega
theorem grown_set1 {w wr:World} {g:Nat} (h:w.grownBy wr (some g)) (k:Nat) (v:Value):w.grownBy (wr.setCell ⟨g,k,none⟩ v) (some g) :=
  ⟨h.os,h.tape,h.output,by simpa using h.size,fun i hi hn=>by rw [Below.heap_setCell _ _ _ _ (fun e=>hn (by rw [e]))]; exact h.block i hi hn⟩
def NegO (w wr:World) (g:Nat) (xs:List Nat) (cv iv:Value):Prop:=∃ (k c:Nat) (ys:List Nat),k≤xs.length∧cv=.int .u64 (c:Int)∧iv=.int .i64 (k:Int)∧NgI xs ys k c∧Row wr 37 .u64 g ys∧w.grownBy wr (some g)
theorem negate_any (g:Nat) (xs:List Nat) (w:World) (hR:Row w 37 .u64 g xs) (lx:Lim B64 xs) (hl:xs.length≤16777216) :
    Calls Tryz.prog 29 #[.slice (some ⟨g,0,none⟩) xs.length xs.length] w fun e w'=>e=.returned (.tuple #[])∧∃ ys,ys.length=xs.length∧Lim B64 ys∧val B64 ys=(B64 ^ xs.length - val B64 xs) % B64 ^ xs.length∧Row w' 37 .u64 g ys∧w.grownBy w' (some g):=by
  have ST:Hid (NegO w w g xs (.int .u64 ((1:Nat):Int)) (.int .i64 ((0:Nat):Int))):=Lib.hid ⟨0,1,xs,Nat.zero_le _,rfl,rfl,ng_start xs lx,hR,⟨rfl,rfl,rfl,Nat.le_refl _,fun _ _ _=>rfl⟩⟩
  have LX:=Lib.hid lx
  clear hR lx
  go_enter Tryz.func29,Tryz.ntmps29
  go_wp2_with fail
  go_loopw [2,7] (fun c i wr=>NegO w wr g xs c i) (fun _ i _=>xs.length - (intOf i).toNat)
  case atStart=>exact ST.out
  case round =>
    obtain ⟨k,c,ys,hk,rfl,rfl,hN,hR,hG⟩:=hrel
    have hyl:=hN.len
    have HG:=Lib.hid hG; have HN:=Lib.hid hN; have HR:=Lib.hid hR
    by_cases hlt:k<xs.length
    · have c0:=hR.cell (j:=k) (by omega)
      have f0:=hR.free k
      have NS:=Lib.hid (ng_step LX.out hN hlt)
      have hx:xs.getD k 0<B64:=LX.out k
      rw [hN.rest k (Nat.le_refl _)] at c0
      have hc:=hN.car
      have EY:Hid (((ngY (xs.getD k 0) c:Nat):Int)=IntKind.u64.wrap ((18446744073709551615 - (xs.getD k 0:Int))+(c:Int))):=Lib.hid (by
        unfold ngY
        unfold B64 at hx ⊢
        rw [IntKind.wrap_u64]
        split<;>omega)
      generalize xs.getD k 0=x at *
      have hy:=ngY_lt hx hc
      unfold B64 at hx hy
      have hw:IntKind.u64.wrap (bits BinOp.xor IntKind.u64 (if IntKind.u64.signed=true then -1 else IntKind.u64.max) (x:Int)+(c:Int))=((ngY x c:Nat):Int):=by
        rw [not_u64 x hx,EY.out]
      have HCO:Hid (((ngC x c:Nat):Int)=if ((ngY x c:Nat):Int)=0 then (c:Int) else 0):=Lib.hid (by
        unfold ngC
        split
        · rw [if_pos (by omega)]
        · rw [if_neg (by omega)]; rfl)
      have HRS:=Lib.hid (HR.out.set k (ngY x c))
      generalize ngY x c=y at *
      generalize ngC x c=c' at *
      clear hN hG hR hyl EY
      have HGS:=Lib.hid (grown_set1 HG.out k (.int .u64 (y:Int)))
      by_cases hy0:y=0
      · subst hy0
        obtain rfl:c'=c:=by have:=HCO.out; simp at this; omega
        go_wp2_with fail
        go_roundw
        case rel=>exact ⟨k+1,c',_,hlt,rfl,rfl,NS.out,HRS.out.1,HGS.out⟩
        case measure=>simp [intOf]; omega
      · have d1:(((y:Nat):Int) != 0)=true:=bne_iff_ne.2 (by omega)
        obtain rfl:c'=0:=by have:=HCO.out; rw [if_neg (by omega)] at this; omega
        clear hy0
        go_wp2_with fail
        go_roundw
        case rel=>exact ⟨k+1,0,_,hlt,rfl,rfl,NS.out,HRS.out.1,HGS.out⟩
        case measure=>simp [intOf]; omega
    · obtain rfl:k=xs.length:=by omega
      go_wp2
      go_end0
      exact ⟨rfl,ys,hyl,hN.lim,ng_end hN LX.out,hR,hG⟩
end Go.Proofs.YtacbkpenohcgjaaGreat
namespace Go.Proofs.YtacbkpenohcgjaaGreat
open Go.RowKit Mth
theorem grown_drw {w wr:World} {g:Nat} (h:w.grownBy wr (some g)):w.grownBy wr.drew (some g):=⟨h.os,h.tape,h.output,h.size,h.block⟩
theorem mask_u64 (s:Nat) (hs:s≤63) (x:Nat) (hx:x<18446744073709551616):bits BinOp.and IntKind.u64 (x:Int) (((18446744073709551615 / 2 ^ s:Nat)):Int)=((x % 2 ^ (64 - s):Nat):Int):=by
  have h1:18446744073709551615 / 2 ^ s=2 ^ (64 - s) - 1:=by
    have e:(2:Nat) ^ 64=2 ^ s*2 ^ (64 - s):=by rw [← Nat.pow_add]; congr 1; omega
    have e2:(18446744073709551615:Nat)=2 ^ s*2 ^ (64 - s) - 1:=by rw [← e]
    rw [e2]
    have hp:=two_pos s
    have hq:=two_pos (64 - s)
    generalize 2 ^ s=p at *
    generalize 2 ^ (64 - s)=q at *
    have:p*q - 1=(p - 1)+p*(q - 1):=by
      rw [Nat.mul_sub]; have:=Nat.le_mul_of_pos_right p hq; omega
    rw [this,Nat.add_mul_div_left _ _ hp,Nat.div_eq_of_lt (by omega)]
    omega
  rw [h1,u64_and_nat x _ hx (by have:2 ^ (64 - s)≤2 ^ 64:=Nat.pow_le_pow_right (by omega) (by omega); have e:(2:Nat) ^ 64=18446744073709551616:=rfl; omega),Nat.and_two_pow_sub_one_eq_mod]
def cutL (wd:Nat) (xs:List Nat):List Nat:=xs.set (xs.length - 1) (xs.getD (xs.length - 1) 0 % 2 ^ (64 - (xs.length*64 - wd)))
theorem cutL_val {wd:Nat} {xs:List Nat} (lx:Lim B64 xs) (hp:0<xs.length) (h1:xs.length*64 - wd≤63) (h2:wd≤xs.length*64):val B64 (cutL wd xs)=val B64 xs % 2 ^ wd:=by
  unfold cutL
  obtain ⟨n,hn⟩:∃ n,xs.length=n+1:=⟨xs.length - 1,by omega⟩
  rw [hn] at h1 h2 ⊢
  have hs:64 - ((n+1)*64 - wd)=wd - 64*n:=by omega
  rw [hs,show n+1 - 1=n by omega]
  have e1:val B64 (xs.set n (xs.getD n 0 % 2 ^ (wd - 64*n)))=val B64 (xs.take n)+B64 ^ n*(xs.getD n 0 % 2 ^ (wd - 64*n)):=by
    have:=val_take_succ B64 (xs.set n (xs.getD n 0 % 2 ^ (wd - 64*n))) n (by rw [List.length_set]; omega)
    rw [List.take_of_length_le (by rw [List.length_set]; omega),take_set_ge,getD_set _ _ _ _ (by omega),if_pos rfl] at this
    exact this
  have e2:val B64 xs=val B64 (xs.take n)+B64 ^ n*xs.getD n 0:=by
    have:=val_take_succ B64 xs n (by omega)
    rwa [List.take_of_length_le (by omega)] at this
  have h3:=val_take_lt (by have:=B64_pos; omega) lx n (by omega)
  rw [e1,e2,b64_two,show 2 ^ wd=2 ^ (64*n)*2 ^ (wd - 64*n) by rw [← Nat.pow_add]; congr 1; omega]
  rw [b64_two] at h3
  have hp1:=two_pos (64*n)
  generalize 2 ^ (64*n)=P at *
  generalize 2 ^ (wd - 64*n)=Q at *
  generalize xs.getD n 0=x at *
  generalize val B64 (xs.take n)=r at *
  rw [Nat.mod_mul,Nat.add_mul_mod_self_left,Nat.add_mul_div_left _ _ hp1,Nat.mod_eq_of_lt h3,Nat.div_eq_of_lt h3,Nat.zero_add]
theorem cutL_lim {wd:Nat} {xs:List Nat} (lx:Lim B64 xs):Lim B64 (cutL wd xs):=lim_set lx (Nat.lt_of_le_of_lt (Nat.mod_le _ _) (lx _)) _
theorem cutL_len {wd:Nat} {xs:List Nat}:(cutL wd xs).length=xs.length:=List.length_set
theorem cutv_any (g wd:Nat) (xs:List Nat) (w:World) (base:Nat) (hb:base≤g) (hR:Row w 37 .u64 g xs) (lx:Lim B64 xs) (hp:0<xs.length) (hl:xs.length≤16777216) (h1:xs.length*64 - wd≤63) (h2:wd≤xs.length*64) :
    Calls Tryz.prog 30 #[.slice (some ⟨g,0,none⟩) xs.length xs.length,.int .i64 (wd:Int)] w fun e w'=>∃ v',e=.returned v'∧Ow w' base v' (val B64 xs % 2 ^ wd)∧w.grownBy w' (some g):=by
  obtain ⟨n,hn⟩:∃ n,xs.length=n+1:=⟨xs.length - 1,by omega⟩
  have c0:=hR.cell (j:=n) (by omega)
  have f0:=hR.free n
  have HR:=Lib.hid hR
  have LX:=Lib.hid lx
  obtain ⟨s,hs⟩:∃ s,xs.length*64 - wd=s:=⟨_,rfl⟩
  have hx:=lx n
  have e1:((n+1:Nat):Int)*64 - (wd:Int)=(s:Int):=by omega
  have hm:=mask_u64 s (by omega) (xs.getD n 0) (by unfold B64 at hx; exact hx)
  have HS:Hid (cutL wd xs=xs.set n (xs.getD n 0 % 2 ^ (64 - s))):=Lib.hid (by unfold cutL; rw [hs,hn]; rfl)
  have HV:=Lib.hid (cutL_val lx hp h1 h2)
  have HY:=Lib.hid (cutL_lim (wd:=wd) lx)
  have HYL:Hid ((cutL wd xs).length=n+1):=Lib.hid (by rw [cutL_len,hn])
  rw [Int.natCast_ediv] at hm
  have hq:(((2 ^ s:Nat):Int))=2 ^ s:=by simp
  rw [hq] at hm
  generalize xs.getD n 0=x at *
  change bits BinOp.and IntKind.u64 (x:Int) ((18446744073709551615:Int) / 2 ^ s)=_ at hm
  generalize x % 2 ^ (64 - s)=y at *
  rw [hn]
  have hn24:n≤16777216:=by omega
  have k1:(0:Int)≤(n:Int):=by omega
  have k2:(n:Int)<(n:Int)+1:=by omega
  have k3:IntKind.i64.wrap (n:Int)=(n:Int):=by rw [IntKind.wrap_i64]; omega
  have k4:IntKind.i64.wrap (((n:Int)+1)*64)=((n:Int)+1)*64:=by rw [IntKind.wrap_i64]; omega
  have k5:((n:Int)+1)*64 - (wd:Int)=(s:Int):=by omega
  have k6:IntKind.i64.wrap (s:Int)=(s:Int):=by rw [IntKind.wrap_i64]; omega
  have k7:(0:Int)≤(s:Int):=by omega
  clear hR lx e1
  go_enter Tryz.func30,Tryz.ntmps30
  go_wp2_with fail
  go_still_tail 14,(by kernel_rfl)
  change wpList _ _ _ _ _ w.drew
  have HR2:Hid (Row ((w.setCell ⟨g,n,none⟩ (.int .u64 (y:Int))).drew) 37 .u64 g (cutL wd xs)∧w.grownBy ((w.setCell ⟨g,n,none⟩ (.int .u64 (y:Int))).drew) (some g)):=Lib.hid (by
    rw [HS.out]
    exact ⟨(HR.out.set n y).1,grown_drw (grown_set1 (grown_of_below (Below.refl w.heap.size w) _) _ _)⟩)
  generalize cutL wd xs=ys at *
  clear HS LX HR
  go_wp2_with fail
  try rw [hm]
  obtain ⟨W,eW⟩:∃ W,(w.setCell ⟨g,n,none⟩ (.int .u64 (y:Int))).drew=W:=⟨_,rfl⟩
  rw [eW] at HR2 ⊢
  clear eW c0 f0 hm
  have HROW:=Lib.hid HR2.out.1
  have HGR:=Lib.hid HR2.out.2
  go_loopw [5] (fun v wr=>∃ k:Nat,k≤n+1∧v=.int .i64 (k:Int)∧wr=W∧∀ j,k≤j→ys.getD j 0=0) (fun v _=>(intOf v).toNat)
  case atStart=>exact ⟨n+1,Nat.le_refl _,rfl,rfl,fun j hj=>by rw [List.getD_eq_getElem?_getD,List.getElem?_eq_none (by rw [HYL.out]; exact hj)]; rfl⟩
  case round =>
    obtain ⟨k,hk,rfl,rfl,hz⟩:=hrel
    have HZ:=Lib.hid hz
    clear hz
    rcases Nat.eq_zero_or_pos k with rfl | hkp
    · go_wp2
      go_ret
      refine ⟨_,rfl, ?_,HGR.out⟩
      have h0:val B64 ys=0:=val_zero (fun j=>HZ.out j (Nat.zero_le _))
      rw [← HV.out,h0]
      exact ow_nil _ _
    · obtain ⟨q,rfl⟩:∃ q,k=q+1:=⟨k - 1,by omega⟩
      have c1:=HROW.out.cell (j:=q) (by rw [HYL.out]; omega)
      have e2:((q+1:Nat):Int) - 1=(q:Int):=by omega
      by_cases hy0:ys.getD q 0=0
      · have HY0:=Lib.hid hy0
        rw [hy0] at c1
        clear hy0
        go_wp2_with fail
        go_roundw
        case rel=>exact ⟨q,by omega,by go_num,(by first | trivial | rfl),fun j hj=>by
          rcases Nat.lt_or_ge q j with h | h
          · exact HZ.out j h
          · obtain rfl:j=q:=by omega
            exact HY0.out⟩
        case measure=>(simp [intOf]; try omega)
      · have HY0:=Lib.hid hy0
        obtain ⟨z,hz⟩:∃ z,ys.getD q 0=z:=⟨_,rfl⟩
        rw [hz] at c1
        have hz0:z≠0:=by rw [← hz]; exact hy0
        have HZ0:=Lib.hid hz
        have d1:((z:Int) == 0)=false:=beq_eq_false_iff_ne.2 (by omega)
        clear hy0 hz
        go_wp2
        go_ret
        have hy0:ys.getD q 0≠0:=HY0.out
        have ht:tlen ys=q+1:=tlen_eq HZ.out (.inr hy0)
        have hl:(trimL ys).length=q+1:=by rw [length_trimL,ht]
        refine ⟨_,rfl, ?_,HGR.out⟩
        rw [← HV.out,← val_trimL,← hl]
        exact row_ow HROW.out hb (by unfold trimL; rw [List.length_take]; congr 1; have:=HYL.out; omega) (by rw [hl,HYL.out]; omega) (by rw [hl]; omega) (by unfold maxLen; omega) (by rw [hl]; omega) (lim_trimL HY.out) (top_trimL ys)
end Go.Proofs.YtacbkpenohcgjaaGreat
namespace Go.Proofs.YtacbkpenohcgjaaGreat
open Go.RowKit Mth
theorem lbs_bounds {wd:Nat} (h1:1≤wd) (h2:wd≤4096):0<lbs wd∧lbs wd≤64∧lbs wd*64 - wd≤63∧wd≤lbs wd*64:=by unfold lbs; omega
theorem limbsOf_any (wd:Nat) (h2:wd≤4096) (w:World):Calls Tryz.prog 28 #[.int .i64 (wd:Int)] w fun e w'=>e=.returned (.int .i64 (lbs wd:Int))∧w'=w:=by
  have e1:((wd:Int)+64 - 1)=((wd+63:Nat):Int):=by omega
  have e2:((wd+63:Nat):Int) / 64=(lbs wd:Int):=by unfold lbs; omega
  go_enter Tryz.func28,Tryz.ntmps28
  go_wp2
  go_ret
  refine ⟨?_,rfl⟩
  refine ret_int ?_
  unfold lbs
  omega
def cpL (n:Nat) (xs:List Nat):List Nat:=xs.take n++List.replicate (n - xs.length) 0
theorem cpL_len (n:Nat) (xs:List Nat):(cpL n xs).length=n:=by unfold cpL; rw [List.length_append,List.length_take,List.length_replicate]; omega
theorem val_reps (n:Nat):val B64 (List.replicate n 0)=0:=val_zero (getD_replicate n)
theorem cpL_val {n:Nat} {xs:List Nat} (lx:Lim B64 xs):val B64 (cpL n xs)=val B64 xs % B64 ^ n:=by
  unfold cpL
  rw [val_append,val_reps,Nat.mul_zero,Nat.add_zero]
  by_cases h:n≤xs.length
  · have h1:=val_split B64 xs n h
    have h2:=val_take_lt (by have:=B64_pos; omega) lx n h
    rw [h1,Nat.add_mul_mod_self_left,Nat.mod_eq_of_lt h2]
  · rw [List.take_of_length_le (by omega)]
    have h1:=val_lt lx
    have h2:B64 ^ xs.length≤B64 ^ n:=pow_mono' (by omega)
    rw [Nat.mod_eq_of_lt (by omega)]
theorem cpL_lim {n:Nat} {xs:List Nat} (lx:Lim B64 xs):Lim B64 (cpL n xs):=by
  unfold cpL
  exact lim_append (lim_take (by have:=B64_pos; omega) lx n) (fun j=>by rw [getD_replicate]; have:=B64_pos; omega)
theorem copy_min {w w0:World} {ops:Array Oper} {rest:List Oper} {o:Oper} {a:Act} {Q:Exit→Act→World→Prop} (hgd:o.guard=none) (d s:Operand)
    (ho:o.op=.call { callee:=.builtin .copy,args:=#[d,s],argTypes:=#[26,26] }) (g n c:Nat) (v:Value) (xs:List Nat)
    (hd:a.eval d=.slice (some ⟨g,0,none⟩) n c) (hs:a.eval s=v) (hrow:Row w 37 .u64 g (List.replicate n 0)) (hsl:Sl w .u64 v xs)
    (hb:Below w0.heap.size w0 w) (hg:w0.heap.size≤g)
    (h:∀ m w',Row w' 37 .u64 g (cpL n xs)→Below w0.heap.size w0 w'→wpList Tryz.prog ops Q rest (a.put o.dst (goInt m)) w') :
    wpList Tryz.prog ops Q (o :: rest) a w:=by
  obtain ⟨ao,cap,rfl,h1,h2,h3,h4,h5⟩:=hsl
  have hlen:(cellsOf .u64 (xs.take n)).length=Nat.min xs.length n:=by rw [length_cellsOf,List.length_take]; exact Nat.min_comm _ _
  refine wpList_copy_splice hgd d s 26 26 ho 37 Tryz.underlying26 (by kernel_rfl) _ _ _ _ _ _ hd hs g 0 (cellsOf .u64 (List.replicate n 0)) 37 hrow (cellsOf .u64 (xs.take n)) hlen ?_
    (by rw [hlen,length_cellsOf,List.length_replicate]; have:Nat.min xs.length n≤n:=Nat.min_le_right _ _; omega) (cells_one _ _) w0.heap.size w0 hb hg ?_
  · intro hp
    rw [hlen] at hp
    have hm:Nat.min xs.length n≤xs.length:=Nat.min_le_left _ _
    obtain ⟨b,off,rfl,hlt,hc⟩:=h5 (by omega)
    refine ⟨rfl,_,rfl,fun j u hj=>?_⟩
    have hjl:j<(xs.take n).length:=by have:=(List.getElem?_eq_some_iff.1 hj).1; rwa [length_cellsOf] at this
    rw [cellsOf_get _ _ _ hjl,getD_take] at hj
    rw [List.length_take] at hjl
    rw [if_pos (by omega)] at hj
    rw [Addr.add_lit,hc j (by omega),hj]
  · intro w' hh hb'
    have e:splice (cellsOf .u64 (List.replicate n 0)) 0 (cellsOf .u64 (xs.take n))=cellsOf .u64 (cpL n xs):=by
      simp only [splice,List.take_zero,List.nil_append,Nat.zero_add]
      unfold cpL
      rw [cellsOf_append,length_cellsOf]
      congr 1
      unfold cellsOf
      rw [← List.map_drop,List.drop_replicate,List.length_take]
      congr 2
      omega
    have h':=hh.out
    rw [e] at h'
    exact h _ w' h' hb'
theorem vec_pos {wd n X:Nat} (h:wd≤64*n):X % B64 ^ n % 2 ^ wd=vecN wd (X:Int):=by
  rw [vec_nat,b64_two,Nat.mod_mod_of_dvd _ (Nat.pow_dvd_pow 2 h)]
theorem vec_neg {wd n X:Nat} (h:wd≤64*n):(B64 ^ n - X % B64 ^ n) % B64 ^ n % 2 ^ wd=vecN wd (-(X:Int)):=by
  rw [b64_two,Nat.mod_mod_of_dvd _ (Nat.pow_dvd_pow 2 h)]
  obtain ⟨c,hc⟩:=Nat.pow_dvd_pow 2 h
  have hp:=two_pos (64*n)
  generalize 2 ^ (64*n)=N at *
  have hq:=two_pos wd
  refine vec_of (Nat.mod_lt _ hq) ?_
  generalize 2 ^ wd=Q at *
  have hlt:X % N<N:=Nat.mod_lt _ hp
  have hx:=Nat.mod_add_div X N
  rw [Int.natCast_emod,Int.emod_emod_of_dvd _ (Int.dvd_refl _),Int.emod_eq_emod_iff_emod_sub_eq_zero]
  have e:((N - X % N:Nat):Int) - -(X:Int)=(Q:Int)*((c*(1+X / N):Nat):Int):=by
    have e1:N - X % N+X=N*(1+X / N):=by rw [Nat.mul_add,Nat.mul_one]; omega
    have e2:N*(1+X / N)=Q*(c*(1+X / N)):=by rw [hc,Nat.mul_assoc]
    rw [← Int.natCast_mul,← e2,← e1]
    omega
  rw [e]
  exact Int.mul_emod_right _ _
end Go.Proofs.YtacbkpenohcgjaaGreat
namespace Go.Proofs.YtacbkpenohcgjaaGreat
open Go.RowKit Mth
theorem results_bt {fn:Func} {tmps:Array Value} {w:World} {g:Nat} {x0 x1:Value} {t:Nat} (h:fn.results=#[.cell t 28]) (h1:tmps.getD t undef=.pointer (some ⟨g,0,none⟩)) (hb:w.heap[g]?=some (.cells #[x0,x1] 28 (0,0))) :
    (results fn tmps).run Tryz.prog w=.ok (.agg #[x0,x1]) w:=by
  obtain ⟨c0,c1,_⟩:=blk2 hb
  rw [Array.getD_eq_getD_getElem?] at h1
  simp [results,h,h1,go_sem,c0,c1]
theorem set2_row {w:World} {g:Nat} {T:TypeId} {y0 y1:Value} (x0 x1:Value) (h:w.heap[g]?=some (.cells #[y0,y1] T (0,0))) :
    ((w.setCell ⟨g,0,none⟩ x0).setCell ⟨g,1,none⟩ x1).heap[g]?=some (.cells #[x0,x1] T (0,0)):=by
  refine hsc_row (cs:=#[x0,y1]) ?_ rfl
  exact hsc_row h rfl
theorem Ow.grown {w w':World} {base n g:Nat} {v:Value} (h:Ow w base v n) (hg:w.grownBy w' (some g)) (hb:g<base):Ow w' base v n:=by
  rcases h with h | ⟨b,cap,cur,xs,h1,h2,h3,h4⟩
  · exact .inl h
  · exact .inr ⟨b,cap,cur,xs,h1,(hg.block b (Array.getElem?_eq_some_iff.1 h2).1 (fun e=>by have:=Option.some.inj e; omega)).trans h2,h3,h4⟩
theorem blk_grown {w w':World} {b g:Nat} {o:Obj} (h:w.heap[b]?=some o) (hg:w.grownBy w' (some g)) (hb:b≠g):w'.heap[b]?=some o:=(hg.block b (Array.getElem?_eq_some_iff.1 h).1 (fun e=>hb (Option.some.inj e))).trans h
theorem vector_any (wd:Nat) (h1:1≤wd) (h2:wd≤4096) (va:Value) (z:Int) (w:World) (ha:IntV w va z) :
    Calls Tryz.prog 11 #[.int .i64 (wd:Int),va] w fun e w'=>∃ v',e=.returned (.agg #[.int .i64 (wd:Int),v'])∧Ow w' w.heap.size v' (vecN wd z)∧Below w.heap.size w w':=by
  obtain ⟨n,u,xs,rfl,hs,hl,hlen,hz⟩:=ha
  obtain ⟨b1,b2,b3,b4⟩:=lbs_bounds h1 h2
  have hLM:=limbsOf_any wd h2
  obtain ⟨W,eW,g1,g2,bel,hsz⟩:=alloc2 w (Obj.cells #[.bool n,u] 50) (Obj.cells #[.int .i64 0,.slice none 0 0] 28)
  have LM:=Lib.hid (hLM W)
  obtain ⟨ao,cap,hu⟩:=hs.shape
  have HSL:=Lib.hid (hs.below bel)
  have G1:=Lib.hid g1; have G2:=Lib.hid g2; have BL:=Lib.hid bel
  have HPOS:Hid (vecN wd z=if n then (B64 ^ lbs wd - val B64 xs % B64 ^ lbs wd) % B64 ^ lbs wd % 2 ^ wd else val B64 xs % B64 ^ lbs wd % 2 ^ wd):=Lib.hid (by
    rw [hz]
    cases n
    · exact (vec_pos (by omega)).symm
    · exact (vec_neg (by omega)).symm)
  have HLIM:=Lib.hid (cpL_lim (n:=lbs wd) hl)
  have HVAL:=Lib.hid (cpL_val (n:=lbs wd) hl)
  have HCL:=Lib.hid (cpL_len (lbs wd) xs)
  subst hu
  have NG:Hid (∀ w3,Row w3 37 .u64 W.heap.size (cpL (lbs wd) xs)→Calls Tryz.prog 29 #[.slice (some ⟨W.heap.size,0,none⟩) (lbs wd) (lbs wd)] w3 fun e w'=>e=.returned (.tuple #[])∧∃ ys,ys.length=lbs wd∧Lim B64 ys∧val B64 ys=(B64 ^ lbs wd - val B64 xs % B64 ^ lbs wd) % B64 ^ lbs wd∧Row w' 37 .u64 W.heap.size ys∧w3.grownBy w' (some W.heap.size)):=Lib.hid (fun w3 hr=>by
    have h:=negate_any W.heap.size (cpL (lbs wd) xs) w3 hr HLIM.out (by rw [HCL.out]; omega)
    rw [HCL.out,HVAL.out] at h
    exact h)
  have CT:Hid (∀ ys w3,ys.length=lbs wd→Lim B64 ys→Row w3 37 .u64 W.heap.size ys→Calls Tryz.prog 30 #[.slice (some ⟨W.heap.size,0,none⟩) (lbs wd) (lbs wd),.int .i64 (wd:Int)] w3 fun e w'=>∃ v',e=.returned v'∧Ow w' (w.heap.size+2) v' (val B64 ys % 2 ^ wd)∧w3.grownBy w' (some W.heap.size)):=Lib.hid (fun ys w3 hyl hyl2 hr=>by
    have h:=cutv_any W.heap.size wd ys w3 (w.heap.size+2) (by omega) hr hyl2 (by omega) (by omega) (by rw [hyl]; exact b3) (by rw [hyl]; exact b4)
    rw [hyl] at h
    exact h)
  have n1:(lbs wd:Int)≤64:=by omega
  have END:Hid (∀ v' w5 n,Ow w5 (w.heap.size+2) v' n→Below w.heap.size w w5→Ow ((w5.setCell ⟨w.heap.size+1,0,none⟩ (.int .i64 (wd:Int))).setCell ⟨w.heap.size+1,1,none⟩ v') w.heap.size v' n∧Below w.heap.size w ((w5.setCell ⟨w.heap.size+1,0,none⟩ (.int .i64 (wd:Int))).setCell ⟨w.heap.size+1,1,none⟩ v')):=Lib.hid (fun v' w5 n ho hb=>⟨((ho.far (by omega)).far (by omega)).mono (by omega),(hb.setCell (by show w.heap.size≤w.heap.size+1; omega) _).setCell (by show w.heap.size≤w.heap.size+1; omega) _⟩)
  clear hs hl g1 g2 hz hLM bel
  go_enter Tryz.func11,Tryz.ntmps11
  go_wp2_with fail
  try rw [eW]
  refine LM.out.mono ?_
  rintro e w0 ⟨rfl,hw0⟩
  obtain rfl:W=w0:=hw0.symm
  cases n
  · go_wp2_with (first | (refine make_nat rfl _ _ rfl _ _ (lbs wd) rfl rfl rfl rfl (by omega) ?_; intro w2 hr2 hb2; have HR2:=Lib.hid hr2; have HB2:=Lib.hid hb2; have HS2:=Lib.hid (HSL.out.below hb2); obtain ⟨c0,c1,f0,f1,_⟩:=blk2 ((hb2.block _ (by omega)).trans G1.out); clear hr2 hb2) | (refine copy_min (w0:=W) rfl _ _ rfl W.heap.size (lbs wd) (lbs wd) (.slice ao xs.length cap) xs rfl rfl HR2.out HS2.out HB2.out (Nat.le_refl _) ?_; intro mm w3 hr3 hb3; have HR3:=Lib.hid hr3; have HB3:=Lib.hid hb3; obtain ⟨d0,d1,f0',f1',_⟩:=blk2 ((hb3.block _ (by omega)).trans G1.out); clear hr3 hb3 c0 c1 f0 f1))
    refine (CT.out _ _ HCL.out HLIM.out HR3.out).mono ?_
    rintro e w5 ⟨v5,rfl,ho5,hg5⟩
    have B5:=Lib.hid (below_of_grown (below_of BL.out HB3.out) hg5 (by omega) (by have:=HB3.out.size; omega))
    have G5:=Lib.hid (blk_grown ((HB3.out.block _ (by omega)).trans G2.out) hg5 (by omega))
    have O5:=Lib.hid ho5
    obtain ⟨q0,q1,r0,r1,_⟩:=blk2 G5.out
    obtain ⟨va,vk,vc,rfl⟩:=ho5.shape
    rw [HVAL.out] at O5
    clear ho5 hg5
    go_wp2
    obtain ⟨e1,e2⟩:=END.out _ _ _ O5.out B5.out
    refine bodyPost_ret (results_bt rfl rfl (set2_row _ _ G5.out)) rfl ⟨_,rfl, ?_,e2⟩
    rw [HPOS.out]
    exact e1
  · go_wp2_with (first | (refine make_nat rfl _ _ rfl _ _ (lbs wd) rfl rfl rfl rfl (by omega) ?_; intro w2 hr2 hb2; have HR2:=Lib.hid hr2; have HB2:=Lib.hid hb2; have HS2:=Lib.hid (HSL.out.below hb2); obtain ⟨c0,c1,f0,f1,_⟩:=blk2 ((hb2.block _ (by omega)).trans G1.out); clear hr2 hb2) | (refine copy_min (w0:=W) rfl _ _ rfl W.heap.size (lbs wd) (lbs wd) (.slice ao xs.length cap) xs rfl rfl HR2.out HS2.out HB2.out (Nat.le_refl _) ?_; intro mm w3 hr3 hb3; have HR3:=Lib.hid hr3; have HB3:=Lib.hid hb3; obtain ⟨d0,d1,f0',f1',_⟩:=blk2 ((hb3.block _ (by omega)).trans G1.out); clear hr3 hb3 c0 c1 f0 f1))
    refine (NG.out _ HR3.out).mono ?_
    rintro e w4 ⟨rfl,ys,hyl,hyli,hyv,hyr,hg4⟩
    have B4:=Lib.hid (below_of_grown (below_of BL.out HB3.out) hg4 (by omega) (by have:=HB3.out.size; omega))
    have G4:=Lib.hid (blk_grown ((HB3.out.block _ (by omega)).trans G2.out) hg4 (by omega))
    have CT4:=Lib.hid (CT.out ys w4 hyl hyli hyr)
    have hz4:=hg4.size
    have hz3:=HB3.out.size
    rw [hyv] at CT4
    clear hyl hyli hyv hyr hg4
    go_wp2_with fail
    refine CT4.out.mono ?_
    rintro e w5 ⟨v5,rfl,ho5,hg5⟩
    have B5:=Lib.hid (below_of_grown B4.out hg5 (by omega) (by omega))
    have G5:=Lib.hid (blk_grown G4.out hg5 (by omega))
    have O5:=Lib.hid ho5
    obtain ⟨q0,q1,r0,r1,_⟩:=blk2 G5.out
    obtain ⟨va,vk,vc,rfl⟩:=ho5.shape
    clear ho5 hg5
    go_wp2
    obtain ⟨e1,e2⟩:=END.out _ _ _ O5.out B5.out
    refine bodyPost_ret (results_bt rfl rfl (set2_row _ _ G5.out)) rfl ⟨_,rfl, ?_,e2⟩
    rw [HPOS.out]
    exact e1
end Go.Proofs.YtacbkpenohcgjaaGreat
namespace Go.Proofs.YtacbkpenohcgjaaGreat
open Go.RowKit Mth
def isW (x:Int):Bool:=decide (1≤x)&&decide (x≤4096)
theorem isWidth_any (x:Int) (w:World):Calls Tryz.prog 27 #[.int .i64 x] w fun e w'=>e=.returned (.bool (isW x))∧w'=w:=by
  unfold isW
  by_cases h1:1≤x
  · have d1:decide (1≤x)=true:=decide_eq_true h1
    rw [d1]
    go_enter Tryz.func27,Tryz.ntmps27
    go_wp2
    go_ret
    exact ⟨rfl,rfl⟩
  · have d1:decide (1≤x)=false:=decide_eq_false h1
    rw [d1]
    go_enter Tryz.func27,Tryz.ntmps27
    go_wp2
    go_ret
    exact ⟨rfl,rfl⟩
def BvO (w:World) (base:Nat) (v:Value) (wd n:Nat):Prop:=∃ u,v=.agg #[.int .i64 (wd:Int),u]∧Ow w base u n
def BvE:Value:=.agg #[.int .i64 0,.slice none 0 0]
theorem results_bte {fn:Func} {tmps:Array Value} {w:World} {g:Nat} {x0 x1 x2:Value} {t s:Nat} (h:fn.results=#[.cell t 28,.tmp s]) (h1:tmps.getD t undef=.pointer (some ⟨g,0,none⟩)) (h2:tmps.getD s undef=x2) (hb:w.heap[g]?=some (.cells #[x0,x1] 28 (0,0))) :
    (results fn tmps).run Tryz.prog w=.ok (.tuple #[.agg #[x0,x1],x2]) w:=by
  obtain ⟨c0,c1,_⟩:=blk2 hb
  rw [Array.getD_eq_getD_getElem?] at h1 h2
  simp [results,h,h1,h2,go_sem,c0,c1]
theorem from_any (wd:Nat) (h1:1≤wd) (h2:wd≤4096) (va:Value) (z:Int) (w:World) (ha:IntV w va z):Calls Tryz.prog 96 #[.int .i64 (wd:Int),va] w fun e w'=>∃ v',e=.returned (.tuple #[v',.int .i64 0])∧BvO w' w.heap.size v' wd (vecN wd z)∧Below w.heap.size w w':=by
  have hI:=isWidth_any (wd:Int)
  have hx:isW (wd:Int)=true:=by unfold isW; simp; omega
  rw [hx] at hI
  have hV:=fun W (hW:Below w.heap.size w W)=>vector_any wd h1 h2 va z W (ha.below hW)
  obtain ⟨n,u,xs,rfl,hs,-⟩:=ha
  obtain ⟨ao,cap,rfl⟩:=hs.shape
  obtain ⟨W,eW,g1,g2,bel,hsz⟩:=alloc2 w (Obj.cells #[.bool n,.slice ao xs.length cap] 50) (Obj.cells #[.int .i64 0,.slice none 0 0] 28)
  have IW:=Lib.hid (hI W)
  have VV:=Lib.hid (hV W bel)
  have G2:=Lib.hid g2; have BL:=Lib.hid bel
  obtain ⟨c0,c1,f0,f1,_⟩:=blk2 g1
  have hz:W.heap.size=w.heap.size+2:=by rw [← eW]; simp
  clear hs hI g1 g2 bel hx hV
  go_enter Tryz.func96,Tryz.ntmps96
  go_wp2_with fail
  try rw [eW]
  refine IW.out.mono ?_
  rintro e w0 ⟨rfl,hw0⟩
  obtain rfl:W=w0:=hw0.symm
  go_wp2_with fail
  refine VV.out.mono ?_
  rintro e w2 ⟨v',rfl,ho,hb⟩
  have HO:=Lib.hid ho
  have B2:=Lib.hid (below_of BL.out hb)
  have G3:=Lib.hid (hb.block _ (by omega) |>.trans G2.out)
  obtain ⟨q0,q1,r0,r1,_⟩:=blk2 G3.out
  obtain ⟨va,vk,vc,rfl⟩:=ho.shape
  clear ho hb
  go_wp2
  exact bodyPost_ret (results_bte rfl rfl rfl (set2_row _ _ G3.out)) rfl ⟨_,rfl,⟨_,rfl,((HO.out.far (by omega)).far (by omega)).mono (by omega)⟩,(B2.out.setCell (by show w.heap.size≤w.heap.size+1; omega) _).setCell (by show w.heap.size≤w.heap.size+1; omega) _⟩
end Go.Proofs.YtacbkpenohcgjaaGreat
namespace Go.Proofs.YtacbkpenohcgjaaGreat
open Go.RowKit Mth
theorem alloc1n (w:World) (o:Obj):∃ W,w.alloc o=W∧W.heap[w.heap.size]?=some o∧Below w.heap.size w W∧w.heap.size<W.heap.size:=⟨_,rfl,heap_alloc_new w o,(Below.refl _ _).alloc (Nat.le_refl _) _,by simp⟩
def BvV (w:World) (v:Value) (wd n:Nat):Prop:=∃ u xs,v=.agg #[.int .i64 (wd:Int),u]∧Sl w .u64 u xs∧Lim B64 xs∧xs.length≤4000000∧val B64 xs=n
theorem BvV.below {w w':World} {v:Value} {wd n:Nat} (h:BvV w v wd n) (hb:Below w.heap.size w w'):BvV w' v wd n:=by
  obtain ⟨u,xs,h0,h1,h2⟩:=h; exact ⟨u,xs,h0,h1.below hb,h2⟩
theorem small_limbs {xs:List Nat} {n wd:Nat} (ht:Top xs) (hn:val B64 xs=n) (h:n<2 ^ wd) (h2:wd≤8192):xs.length≤4000000:=by
  rcases Nat.lt_or_ge 4000000 xs.length with hl | hl
  · have h1:=val_ge_top (B:=B64) ht (by omega)
    have h3:(2:Nat) ^ wd≤2 ^ (64*(xs.length - 1)):=Nat.pow_le_pow_right (by omega) (by omega)
    rw [← b64_two] at h3
    omega
  · exact hl
theorem BvO.v {w:World} {base wd n:Nat} {v:Value} (h:BvO w base v wd n) (hn:n<2 ^ wd) (h2:wd≤8192):BvV w v wd n:=by
  obtain ⟨u,rfl,h⟩:=h
  obtain ⟨xs,s,l,t,e⟩:=h.sl
  exact ⟨u,xs,rfl,s,l,small_limbs t e hn h2,e⟩
theorem intV_of {w:World} {u:Value} {xs:List Nat} {n:Nat} (h1:Sl w .u64 u xs) (h2:Lim B64 xs) (h3:xs.length≤4000000) (h4:val B64 xs=n):IntV w (.agg #[.bool false,u]) (n:Int):=⟨false,u,xs,rfl,h1,h2,h3,by rw [← h4]; rfl⟩
theorem results_it {fn:Func} {tmps:Array Value} {w:World} {g:Nat} {x0 x1:Value} {t:Nat} (h:fn.results=#[.cell t 50]) (h1:tmps.getD t undef=.pointer (some ⟨g,0,none⟩)) (hb:w.heap[g]?=some (.cells #[x0,x1] 50 (0,0))) :
    (results fn tmps).run Tryz.prog w=.ok (.agg #[x0,x1]) w:=by
  obtain ⟨c0,c1,_⟩:=blk2 hb
  rw [Array.getD_eq_getD_getElem?] at h1
  simp [results,h,h1,go_sem,c0,c1]
theorem unsigned_any (v:Value) (wd n:Nat) (w:World) (h:BvV w v wd n):Calls Tryz.prog 129 #[v] w fun e w'=>∃ v',e=.returned v'∧IntV w' v' (n:Int)∧Below w.heap.size w w':=by
  obtain ⟨u,xs,rfl,h1,h2,h3,h4⟩:=h
  have HI:=Lib.hid (intV_of h1 h2 h3 h4)
  obtain ⟨ao,cap,rfl⟩:=h1.shape
  obtain ⟨W,eW,g1,g2,bel,hsz⟩:=alloc2 w (Obj.cells #[.int .i64 (wd:Int),.slice ao xs.length cap] 28) (Obj.cells #[.bool false,.slice none 0 0] 50)
  have G2:=Lib.hid g2; have BL:=Lib.hid bel
  obtain ⟨c0,c1,f0,f1,_⟩:=blk2 g1
  obtain ⟨q0,q1,r0,r1,_⟩:=blk2 g2
  have BE:Hid (Below w.heap.size w ((W.setCell ⟨w.heap.size+1,0,none⟩ (.bool false)).setCell ⟨w.heap.size+1,1,none⟩ (.slice ao xs.length cap))):=Lib.hid ((bel.setCell (by show w.heap.size≤w.heap.size+1; omega) _).setCell (by show w.heap.size≤w.heap.size+1; omega) _)
  clear h1 h2 h3 h4 g1 g2 bel
  go_enter Tryz.func129,Tryz.ntmps129
  go_wp2_with fail
  try rw [eW]
  go_wp2
  exact bodyPost_ret (results_it rfl rfl (set2_row _ _ G2.out)) rfl ⟨_,rfl,HI.out.below BE.out,BE.out⟩
theorem of_any9 (wd n:Nat) (h1:1≤wd) (h2:wd≤4096) (hn:n<B64) (w:World):Calls Tryz.prog 50 #[.int .i64 (wd:Int),.int .u64 (n:Int)] w fun e w'=>∃ v',e=.returned (.tuple #[v',.int .i64 0])∧BvO w' (w.heap.size+1) v' wd (n % 2 ^ wd)∧Below w.heap.size w w':=by
  obtain ⟨W,eW,gW,bW,hWs⟩:=alloc1n w (Obj.cells #[.int .i64 0,.slice none 0 0] 28)
  have OF:=Lib.hid (of_any n hn W)
  have FR:Hid (∀ w1 va,IntV w1 va (n:Int)→Calls Tryz.prog 96 #[.int .i64 (wd:Int),va] w1 fun e w'=>∃ v',e=.returned (.tuple #[v',.int .i64 0])∧BvO w' w1.heap.size v' wd (vecN wd (n:Int))∧Below w1.heap.size w1 w'):=Lib.hid (fun w1 va ha=>from_any wd h1 h2 va n w1 ha)
  have GW:=Lib.hid gW; have BW:=Lib.hid bW
  clear gW bW
  have hw:W.heap.size=w.heap.size+1:=by rw [← eW]; simp
  go_enter Tryz.func50,Tryz.ntmps50
  go_wp2_with fail
  try rw [eW]
  refine OF.out.mono ?_
  rintro e w2 ⟨u,rfl,hb2,ys,s,l,t,ev⟩
  have hl:ys.length≤4000000:=small_limbs (wd:=64) t ev (by unfold B64 at hn; exact hn) (by omega)
  have FF:=Lib.hid (FR.out w2 _ (intV_of s l hl ev))
  have B2:=Lib.hid (below_of BW.out hb2)
  have G2:=Lib.hid ((hb2.block _ hWs).trans GW.out)
  obtain ⟨ao,cap,rfl⟩:=s.shape
  clear s l t ev hl
  have hz2:=hb2.size
  clear hb2
  go_wp2_with fail
  refine FF.out.mono ?_
  rintro e w3 ⟨v',rfl,⟨u',rfl,ho⟩,hb3⟩
  have B3:=Lib.hid (below_of B2.out hb3)
  have G3:=Lib.hid ((hb3.block _ (by omega)).trans G2.out)
  have HO:=Lib.hid ho
  obtain ⟨q0,q1,r0,r1,_⟩:=blk2 G3.out
  obtain ⟨va,vk,vc,rfl⟩:=ho.shape
  clear ho hb3
  go_wp2
  exact bodyPost_ret (results_bte rfl rfl rfl (set2_row _ _ G3.out)) rfl ⟨_,rfl,⟨_,rfl,by rw [← vec_nat]; exact ((HO.out.far (by omega)).far (by omega)).mono (by omega)⟩,(B3.out.setCell (Nat.le_refl _) _).setCell (Nat.le_refl _) _⟩
end Go.Proofs.YtacbkpenohcgjaaGreat
namespace Go.Proofs.YtacbkpenohcgjaaGreat
open Go.RowKit Mth
theorem right_no (x:Int) (hx:isW x=false) (u:Value) (xs:List Nat) (w:World) (hs:Sl w .u64 u xs):Calls Tryz.prog 52 #[.agg #[.int .i64 x,u]] w fun e w'=>e=.returned (.bool false)∧Below w.heap.size w w':=by
  obtain ⟨ao,cap,rfl⟩:=hs.shape
  have hI:=isWidth_any x
  rw [hx] at hI
  obtain ⟨W,eW,gW,bW,hWs⟩:=alloc1n w (Obj.cells #[.int .i64 x,.slice ao xs.length cap] 28)
  have IW:Hid (∀ n,Calls Tryz.prog 27 #[.int .i64 x] (W.drewN n) fun e w'=>e=.returned (.bool false)∧∃ m,w'=W.drewN m):=Lib.hid (fun n=>(hI (W.drewN n)).mono fun e w' h=>⟨h.1,n,h.2⟩)
  have BW:=Lib.hid bW
  obtain ⟨c0,c1,f0,f1,_⟩:=blk2 gW
  clear hs gW bW hI
  go_enter Tryz.func52,Tryz.ntmps52
  go_wp2_with fail
  try rw [eW]
  go_quiet (first | (go_at_call 27; exact IW.out _))
  go_wp2
  go_ret
  exact ⟨rfl,below_drewN BW.out _⟩
theorem right_yes (x:Int) (hx:isW x=true) (u:Value) (xs:List Nat) (w:World) (hs:Sl w .u64 u xs) (hl:Lim B64 xs):Calls Tryz.prog 52 #[.agg #[.int .i64 x,u]] w fun e w'=>e=.returned (.bool (decide ((bl (val B64 xs):Int)≤x)))∧Below w.heap.size w w':=by
  obtain ⟨ao,cap,rfl⟩:=hs.shape
  have hI:=isWidth_any x
  rw [hx] at hI
  obtain ⟨W,eW,gW,bW,hWs⟩:=alloc1n w (Obj.cells #[.int .i64 x,.slice ao xs.length cap] 28)
  have IW:Hid (∀ w1,Calls Tryz.prog 27 #[.int .i64 x] w1 fun e w'=>e=.returned (.bool true)∧w'=w1):=Lib.hid hI
  have LN:Hid (∀ w1,Below W.heap.size W w1→Calls Tryz.prog 99 #[.slice ao xs.length cap] w1 fun e w'=>e=.returned (.int .i64 ((bl (val B64 xs):Nat):Int))∧Below w1.heap.size w1 w'):=Lib.hid (fun w1 h1=>len_any _ xs w1 ((hs.below bW).below h1) hl)
  have BW:=Lib.hid bW
  have GW:=Lib.hid gW
  obtain ⟨c0,c1,f0,f1,_⟩:=blk2 gW
  generalize bl (val B64 xs)=k at *
  clear hs gW bW hI
  go_enter Tryz.func52,Tryz.ntmps52
  go_wp2_with fail
  try rw [eW]
  have B0:=Lib.hid (Below.refl W.heap.size W)
  go_region_with (first
    | (go_at_call 27; refine Calls.mono (IW.out _) ?_; rintro e w1 ⟨rfl,rfl⟩)
    | (go_at_call 99; refine Calls.mono (LN.out _ ?_) ?_; (first | exact B0.out | exact B0.out.drew | exact B0.out.drew.drew); rintro e w2 ⟨rfl,hb2⟩; have c0':=(hb2.cell (p:=⟨w.heap.size,0,none⟩) hWs).trans c0; have BB:=Lib.hid hb2; clear hb2))
  all_goals
    go_wp2
    go_ret
    first | exact ⟨rfl,below_of BW.out.drew BB.out⟩ | exact ⟨rfl,below_of BW.out BB.out⟩ | exact ⟨rfl,(below_of BW.out.drew BB.out).drew⟩ | exact ⟨rfl,(below_of BW.out BB.out).drew⟩
def rightF (x:Int) (n:Nat):Bool:=isW x&&decide ((bl n:Int)≤x)
theorem right_any (x:Int) (u:Value) (xs:List Nat) (w:World) (hs:Sl w .u64 u xs) (hl:Lim B64 xs):Calls Tryz.prog 52 #[.agg #[.int .i64 x,u]] w fun e w'=>e=.returned (.bool (rightF x (val B64 xs)))∧Below w.heap.size w w':=by
  unfold rightF
  cases hx:isW x
  · exact right_no x hx u xs w hs
  · exact right_yes x hx u xs w hs hl
theorem isW_nat {wd:Nat} (h1:1≤wd) (h2:wd≤4096):isW (wd:Int)=true:=by unfold isW; simp; omega
theorem right_fine {wd n:Nat} (h1:1≤wd) (h2:wd≤4096) (hn:n<2 ^ wd):rightF (wd:Int) n=true:=by
  unfold rightF
  rw [isW_nat h1 h2,Bool.true_and,decide_eq_true_eq]
  have:bl n≤wd:=bl_le hn
  omega
def sgV (wd n:Nat):Int:=if 2 ^ (wd - 1)≤n then (n:Int) - ((2 ^ wd:Nat):Int) else (n:Int)
theorem sgV_bit {wd n:Nat} (h1:1≤wd) (hn:n<2 ^ wd):bitI n ((wd:Int) - 1)=decide (2 ^ (wd - 1)≤n):=by
  unfold bitI bitN
  have e:((wd:Int) - 1).toNat=wd - 1:=by omega
  rw [decide_eq_true (show (0:Int)≤(wd:Int) - 1 by omega),Bool.true_and,e]
  have h2:2 ^ wd=2*2 ^ (wd - 1):=by
    obtain ⟨k,rfl⟩:∃ k,wd=k+1:=⟨wd - 1,by omega⟩
    rw [Nat.pow_succ,Nat.mul_comm]; rfl
  have hp:=two_pos (wd - 1)
  generalize 2 ^ (wd - 1)=P at *
  by_cases h:P≤n
  · have hq:n / P=1:=by
      rw [Nat.div_eq_of_lt_le]<;>omega
    rw [hq,decide_eq_true h]; rfl
  · rw [Nat.div_eq_of_lt (by omega),decide_eq_false h]; rfl
theorem two_big {wd:Nat} (h:wd≤4096):2 ^ wd<Big∧2 ^ wd*2 ^ wd<Big:=by
  unfold Big
  rw [b64_two,← Nat.pow_add]
  exact ⟨Nat.pow_lt_pow_right (by omega) (by unfold maxL; omega),Nat.pow_lt_pow_right (by omega) (by unfold maxL; omega)⟩
theorem power_any (wd:Nat) (h2:wd≤4096) (w:World):Calls Tryz.prog 127 #[.int .i64 (wd:Int)] w fun e w'=>∃ v',e=.returned v'∧IntV w' v' ((2 ^ wd:Nat):Int)∧Below w.heap.size w w':=by
  have HB:=two_big h2
  obtain ⟨W,eW,gW,bW,hWs⟩:=alloc1n w (Obj.cells #[.bool false,.slice none 0 0] 50)
  have OF:=Lib.hid (of_any 1 (by unfold B64; omega) W)
  have hw:W.heap.size=w.heap.size+1:=by rw [← eW]; simp
  have HE:Hid (shlN 1 (wd:Int)=2 ^ wd∧shlE 1 (wd:Int)=0):=Lib.hid (by
    have h1:¬ Big≤1:=by unfold Big; have:=Nat.pow_le_pow_right (show 0<B64 by unfold B64; omega) (show 1≤maxL by unfold maxL; omega); unfold B64 maxL at *; omega
    obtain ⟨a,b⟩:=shl_fine (n:=wd) h1
    rw [a,b,Nat.one_mul]
    exact ⟨if_neg (by omega),if_neg (by omega)⟩)
  have SH:Hid (∀ w1 v,Num w1 v 1→Calls Tryz.prog 155 #[v,.int .i64 (wd:Int)] w1 fun e w'=>∃ v',e=.returned (.tuple #[v',.int .i64 0])∧Num w' v' (2 ^ wd)∧Below w1.heap.size w1 w'):=Lib.hid (fun w1 v hv=>by
    obtain ⟨ys,s,l,t,ev⟩:=hv
    have h:=shl_any v ys (wd:Int) w1 s l ⟨by omega,by omega⟩
    rw [ev,HE.out.1,HE.out.2] at h
    exact h)
  have GW:=Lib.hid gW; have BW:=Lib.hid bW
  clear gW bW HB
  go_enter Tryz.func127,Tryz.ntmps127
  go_wp2_with fail
  try rw [eW]
  refine OF.out.mono ?_
  rintro e w2 ⟨u,rfl,hb2,hn2⟩
  have S2:=Lib.hid (SH.out w2 _ hn2)
  have B2:=Lib.hid (below_of BW.out hb2)
  have G2:=Lib.hid ((hb2.block _ hWs).trans GW.out)
  obtain ⟨ys,s,l,t,ev⟩:=hn2
  obtain ⟨ao,cap,rfl⟩:=s.shape
  have hz2:=hb2.size
  clear hb2 s l t ev
  go_wp2_with fail
  refine S2.out.mono ?_
  rintro e w3 ⟨u3,rfl,⟨xs,s,l,t,ev⟩,hb3⟩
  have hl:xs.length≤4000000:=small_limbs (wd:=wd+1) t ev (Nat.pow_lt_pow_right (by omega) (by omega)) (by omega)
  have B3:=Lib.hid (below_of B2.out hb3)
  have G3:=Lib.hid ((hb3.block _ (by omega)).trans G2.out)
  have HI:=Lib.hid (intV_of s l hl ev)
  obtain ⟨q0,q1,r0,r1,_⟩:=blk2 G3.out
  obtain ⟨ao3,cap3,rfl⟩:=s.shape
  have hz3:=hb3.size
  clear hb3 s l t ev hl
  go_wp2
  exact bodyPost_ret (results_it rfl rfl (set2_row _ _ G3.out)) rfl ⟨_,rfl,HI.out.far G3.out,(B3.out.setCell (Nat.le_refl _) _).setCell (Nat.le_refl _) _⟩
end Go.Proofs.YtacbkpenohcgjaaGreat
namespace Go.Proofs.YtacbkpenohcgjaaGreat
open Go.RowKit Mth
theorem signed_low (v:Value) (wd n:Nat) (h1:1≤wd) (h2:wd≤4096) (hn:n<2 ^ wd) (hb:¬ 2 ^ (wd - 1)≤n) (w:World) (h:BvV w v wd n):Calls Tryz.prog 130 #[v] w fun e w'=>∃ v',e=.returned v'∧IntV w' v' (sgV wd n)∧Below w.heap.size w w':=by
  have hsg:sgV wd n=(n:Int):=if_neg hb
  have hbit:=sgV_bit h1 hn
  rw [decide_eq_false hb] at hbit
  have hU:=fun w1 (hw:Below w.heap.size w w1)=>unsigned_any v wd n w1 (h.below hw)
  obtain ⟨u,xs,rfl,s1,s2,s3,s4⟩:=h
  obtain ⟨ao,cap,rfl⟩:=s1.shape
  obtain ⟨W,eW,g1,g2,bel,hsz⟩:=alloc2 w (Obj.cells #[.int .i64 (wd:Int),.slice ao xs.length cap] 28) (Obj.cells #[.bool false,.slice none 0 0] 50)
  have UN:=Lib.hid (hU W bel)
  have BT:Hid (∀ w1,Below w.heap.size w w1→Calls Tryz.prog 158 #[.slice ao xs.length cap,.int .i64 ((wd:Int) - 1)] w1 fun e w'=>e=.returned (.bool false)∧Below w1.heap.size w1 w'):=Lib.hid (fun w1 hw=>by
    have h:=bit_any (.slice ao xs.length cap) xs ((wd:Int) - 1) w1 (s1.below hw) s2 (by omega) (by omega)
    rw [s4,hbit] at h
    exact h)
  have G1:=Lib.hid g1; have G2:=Lib.hid g2; have BL:=Lib.hid bel
  obtain ⟨c0,c1,f0,f1,_⟩:=blk2 g1
  have e1:wrap64 ((wd:Int) - 1)=(wd:Int) - 1:=IntWalk.wrap64_in _ (by omega)
  rw [hsg]
  clear s1 s2 s3 s4 g1 g2 bel hU hbit hn hb hsg
  go_enter Tryz.func130,Tryz.ntmps130
  go_wp2_with fail
  try rw [eW]
  refine UN.out.mono ?_
  rintro e w2 ⟨v2,rfl,hi2,hb2⟩
  have hz2:=hb2.size
  obtain ⟨n2,a2,k2,k2',rfl⟩:=hi2.shape
  obtain ⟨W3,eW3,g3,b3,hW3⟩:=alloc1n w2 (Obj.cells #[.bool n2,.slice a2 k2 k2'] 50)
  have H3:=Lib.hid (hi2.below b3)
  have B3:=Lib.hid (below_of (below_of BL.out hb2) b3)
  have GA:=Lib.hid (b3.block _ (by omega) |>.trans (hb2.block _ (by omega) |>.trans G1.out))
  have GB:=Lib.hid (b3.block _ (by omega) |>.trans (hb2.block _ (by omega) |>.trans G2.out))
  have GC:=Lib.hid g3
  obtain ⟨p0,p1,-,-,-⟩:=blk2 GA.out
  have hw3:w2.heap.size<W3.heap.size:=hW3
  have hlt3:w.heap.size+1<W3.heap.size:=by omega
  clear hi2 hb2 b3 g3 c0 c1 f0 f1 hW3
  go_wp2_with fail
  try rw [eW3]
  refine (BT.out _ B3.out).mono ?_
  rintro e w4 ⟨rfl,hb4⟩
  have H4:=Lib.hid (H3.out.below hb4)
  have B4:=Lib.hid (below_of B3.out hb4)
  have GB4:=Lib.hid (hb4.block _ (by omega) |>.trans GB.out)
  have GC4:=Lib.hid (hb4.block _ (by omega) |>.trans GC.out)
  obtain ⟨q0,q1,r0,r1,_⟩:=blk2 GC4.out
  obtain ⟨u0,u1,v0,v1,_⟩:=blk2 GB4.out
  clear hb4
  go_wp2
  exact bodyPost_ret (results_it rfl rfl (set2_row _ _ GB4.out)) rfl ⟨_,rfl,H4.out.far GB4.out,(B4.out.setCell (by show w.heap.size≤w.heap.size+1; omega) _).setCell (by show w.heap.size≤w.heap.size+1; omega) _⟩
theorem signed_high (v:Value) (wd n:Nat) (h1:1≤wd) (h2:wd≤4096) (hn:n<2 ^ wd) (hb:2 ^ (wd - 1)≤n) (w:World) (h:BvV w v wd n):Calls Tryz.prog 130 #[v] w fun e w'=>∃ v',e=.returned v'∧IntV w' v' (sgV wd n)∧Below w.heap.size w w':=by
  have hsg:sgV wd n=(n:Int) - ((2 ^ wd:Nat):Int):=if_pos hb
  have hbig:=two_big h2
  have hbit:=sgV_bit h1 hn
  rw [decide_eq_true hb] at hbit
  have hU:=fun w1 (hw:Below w.heap.size w w1)=>unsigned_any v wd n w1 (h.below hw)
  obtain ⟨u,xs,rfl,s1,s2,s3,s4⟩:=h
  obtain ⟨ao,cap,rfl⟩:=s1.shape
  obtain ⟨W,eW,g1,g2,bel,hsz⟩:=alloc2 w (Obj.cells #[.int .i64 (wd:Int),.slice ao xs.length cap] 28) (Obj.cells #[.bool false,.slice none 0 0] 50)
  have UN:=Lib.hid (hU W bel)
  have BT:Hid (∀ w1,Below w.heap.size w w1→Calls Tryz.prog 158 #[.slice ao xs.length cap,.int .i64 ((wd:Int) - 1)] w1 fun e w'=>e=.returned (.bool true)∧Below w1.heap.size w1 w'):=Lib.hid (fun w1 hw=>by
    have h:=bit_any (.slice ao xs.length cap) xs ((wd:Int) - 1) w1 (s1.below hw) s2 (by omega) (by omega)
    rw [s4,hbit] at h
    exact h)
  have G1:=Lib.hid g1; have G2:=Lib.hid g2; have BL:=Lib.hid bel
  obtain ⟨c0,c1,f0,f1,_⟩:=blk2 g1
  have e1:wrap64 ((wd:Int) - 1)=(wd:Int) - 1:=IntWalk.wrap64_in _ (by omega)
  rw [hsg]
  have PW:=Lib.hid (fun w1=>power_any wd h2 w1)
  have SB:Hid (∀ va vb w1,IntV w1 va (n:Int)→IntV w1 vb ((2 ^ wd:Nat):Int)→Calls Tryz.prog 106 #[va,vb] w1 fun e w'=>Res1 w1 w' e ((n:Int) - ((2 ^ wd:Nat):Int))):=Lib.hid (fun va vb w1 ha hb=>subF va vb _ _ w1 ha hb (by omega))
  generalize ((2 ^ wd:Nat):Int)=P at *
  clear hbig s1 s2 s3 s4 g1 g2 bel hU hbit hn hb hsg
  go_enter Tryz.func130,Tryz.ntmps130
  go_wp2_with fail
  try rw [eW]
  refine UN.out.mono ?_
  rintro e w2 ⟨v2,rfl,hi2,hb2⟩
  have hz2:=hb2.size
  obtain ⟨n2,a2,k2,k2',rfl⟩:=hi2.shape
  obtain ⟨W3,eW3,g3,b3,hW3⟩:=alloc1n w2 (Obj.cells #[.bool n2,.slice a2 k2 k2'] 50)
  have H3:=Lib.hid (hi2.below b3)
  have B3:=Lib.hid (below_of (below_of BL.out hb2) b3)
  have GA:=Lib.hid (b3.block _ (by omega) |>.trans (hb2.block _ (by omega) |>.trans G1.out))
  have GB:=Lib.hid (b3.block _ (by omega) |>.trans (hb2.block _ (by omega) |>.trans G2.out))
  have GC:=Lib.hid g3
  obtain ⟨p0,p1,-,-,-⟩:=blk2 GA.out
  have hw3:w2.heap.size<W3.heap.size:=hW3
  have hlt3:w.heap.size+1<W3.heap.size:=by omega
  clear hi2 hb2 b3 g3 c0 c1 f0 f1 hW3
  go_wp2_with fail
  try rw [eW3]
  refine (BT.out _ B3.out).mono ?_
  rintro e w4 ⟨rfl,hb4⟩
  have H4:=Lib.hid (H3.out.below hb4)
  have B4:=Lib.hid (below_of B3.out hb4)
  have GA4:=Lib.hid (hb4.block _ (by omega) |>.trans GA.out)
  have GB4:=Lib.hid (hb4.block _ (by omega) |>.trans GB.out)
  have GC4:=Lib.hid (hb4.block _ (by omega) |>.trans GC.out)
  obtain ⟨q0,q1,r0,r1,_⟩:=blk2 GC4.out
  obtain ⟨m0,m1,-,-,_⟩:=blk2 GA4.out
  have hz4:=hb4.size
  clear hb4
  go_wp2_with fail
  go_region_with (first
    | (go_at_call 127; refine Calls.mono (PW.out _) ?_; rintro e w5 ⟨v5,rfl,hi5,hb5⟩; have hb5':Below w4.heap.size w4 w5:=⟨hb5.os,hb5.tape,hb5.output,hb5.size,hb5.block⟩; obtain ⟨n5,a5,k5,k5',rfl⟩:=hi5.shape; have H5:=Lib.hid hi5; have HA:=Lib.hid (H4.out.below hb5'); have B5:=Lib.hid (below_of B4.out hb5'); have GB5:=Lib.hid (hb5'.block _ (by omega) |>.trans GB4.out); have GC5:=Lib.hid (hb5'.block _ (by omega) |>.trans GC4.out); have hz5:=hb5'.size; obtain ⟨q0',q1',r0',r1',_⟩:=blk2 GC5.out; clear hi5 hb5 hb5')
    | (go_at_call 106; refine Calls.mono (SB.out _ _ _ ?_ ?_) ?_; (exact HA.out); (exact H5.out); rintro e w6 ⟨n6,a6,k6,k6',rfl,hr6,hb6⟩; have H6:=Lib.hid hr6.2; have B6:=Lib.hid (below_of B5.out hb6); have GB6:=Lib.hid (hb6.block _ (by omega) |>.trans GB5.out); have GC6:=Lib.hid (hb6.block _ (by omega) |>.trans GC5.out); have hz6:=hb6.size; obtain ⟨q0'',q1'',r0'',r1'',_⟩:=blk2 GC6.out; clear hr6 hb6))
  all_goals
    have hw2:w.heap.size+1≠w2.heap.size:=by omega
    have G7:=set2_row (.bool n6) (.slice a6 k6 k6') GC6.out
    have H7:=H6.out.far (y0:=.bool n6) (y1:=.slice a6 k6 k6') GC6.out
    have B7:=(B6.out.setCell (p:=⟨w2.heap.size,0,none⟩) (show w.heap.size≤w2.heap.size by omega) (.bool n6)).setCell (p:=⟨w2.heap.size,1,none⟩) (show w.heap.size≤w2.heap.size by omega) (.slice a6 k6 k6')
    have F7:=(Below.heap_setCell (w6.setCell ⟨w2.heap.size,0,none⟩ (.bool n6)) ⟨w2.heap.size,1,none⟩ (.slice a6 k6 k6') (w.heap.size+1) hw2).trans ((Below.heap_setCell w6 ⟨w2.heap.size,0,none⟩ (.bool n6) (w.heap.size+1) hw2).trans GB6.out)
    revert G7 H7 B7 F7
    generalize (w6.setCell ⟨w2.heap.size,0,none⟩ (.bool n6)).setCell ⟨w2.heap.size,1,none⟩ (.slice a6 k6 k6')=w7
    intro G7 H7 B7 F7
    obtain ⟨s0,s1,-,-,-⟩:=blk2 G7
    obtain ⟨u0,u1,v0,v1,_⟩:=blk2 F7
    have HH:=Lib.hid H7; have BB:=Lib.hid B7; have FF:=Lib.hid F7
    clear G7 H7 B7 F7
    go_wp2
    exact bodyPost_ret (results_it rfl rfl (set2_row _ _ FF.out)) rfl ⟨_,rfl,HH.out.far FF.out,(BB.out.setCell (by show w.heap.size≤w.heap.size+1; omega) _).setCell (by show w.heap.size≤w.heap.size+1; omega) _⟩
theorem signed_any (v:Value) (wd n:Nat) (h1:1≤wd) (h2:wd≤4096) (hn:n<2 ^ wd) (w:World) (h:BvV w v wd n):Calls Tryz.prog 130 #[v] w fun e w'=>∃ v',e=.returned v'∧IntV w' v' (sgV wd n)∧Below w.heap.size w w':=by
  by_cases hb:2 ^ (wd - 1)≤n
  · exact signed_high v wd n h1 h2 hn hb w h
  · exact signed_low v wd n h1 h2 hn hb w h
end Go.Proofs.YtacbkpenohcgjaaGreat
namespace Go.Proofs.YtacbkpenohcgjaaGreat
open Go.RowKit Mth
def BvL (w:World) (av:Value) (L:List (Nat × Nat)):Prop:=∃ ao cap,av=.slice ao L.length cap∧(L≠[]→∃ b off,ao=some ⟨b,off,none⟩∧b<w.heap.size∧∀ i p,L[i]?=some p→∃ u xs,w.cell? ⟨b,off+i*2,none⟩=some (.int .i64 (p.1:Int))∧w.cell? ⟨b,off+i*2+1,none⟩=some u∧Sl w .u64 u xs∧Lim B64 xs∧xs.length≤4000000∧val B64 xs=p.2)
theorem BvL.below {w w':World} {av:Value} {L:List (Nat × Nat)} (h:BvL w av L) (hb:Below w.heap.size w w'):BvL w' av L:=by
  obtain ⟨ao,cap,rfl,h⟩:=h
  refine ⟨ao,cap,rfl,fun hne=>?_⟩
  obtain ⟨b,off,rfl,hlt,h⟩:=h hne
  refine ⟨b,off,rfl,Nat.lt_of_lt_of_le hlt hb.size,fun i p hp=>?_⟩
  obtain ⟨u,xs,h1,h2,h3,h4⟩:=h i p hp
  exact ⟨u,xs,(hb.cell (p:=⟨b,off+i*2,none⟩) hlt).trans h1,(hb.cell (p:=⟨b,off+i*2+1,none⟩) hlt).trans h2,h3.below hb,h4⟩
theorem BvL.shape {w:World} {av:Value} {L:List (Nat × Nat)} (h:BvL w av L):∃ ao cap,av=.slice ao L.length cap:=by obtain ⟨ao,cap,h,-⟩:=h; exact ⟨ao,cap,h⟩
theorem first_any (pv av:Value) (L:List (Nat × Nat)) (wd n:Nat) (w:World) (hp:∃ po pn pc,pv=.slice po pn pc) (h:BvL w av L) (h0:L[0]?=some (wd,n)) :
    Calls Tryz.prog 25 #[.agg #[pv,av]] w fun e w'=>∃ v',e=.returned v'∧BvV w' v' wd n∧Below w.heap.size w w':=by
  obtain ⟨po,pn,pc,rfl⟩:=hp
  have hL:L.length=(L.length - 1)+1:=by
    have:=(List.getElem?_eq_some_iff.1 h0).1
    omega
  obtain ⟨ao,cap,rfl,h⟩:=h
  obtain ⟨b,off,rfl,hlt,h⟩:=h (fun e=>by rw [e] at h0; cases h0)
  obtain ⟨u,xs,h1,h2,h3,h4,h5,h6⟩:=h 0 _ h0
  rw [Nat.zero_mul,Nat.add_zero] at h1 h2
  have BV:Hid (BvV w (.agg #[.int .i64 (wd:Int),u]) wd n):=Lib.hid ⟨u,xs,rfl,h3,h4,h5,h6⟩
  obtain ⟨uo,uc,rfl⟩:=h3.shape
  obtain ⟨W,eW,g1,g2,bel,hsz⟩:=alloc2 w (Obj.cells #[.slice po pn pc,.slice (some ⟨b,off,none⟩) L.length cap] 46) (Obj.cells #[.int .i64 0,.slice none 0 0] 28)
  have k1:=(bel.cell (p:=⟨b,off,none⟩) hlt).trans h1
  have k2:=(bel.cell (p:=⟨b,off+1,none⟩) hlt).trans h2
  have G2:=Lib.hid g2; have BL:=Lib.hid bel
  obtain ⟨c0,c1,f0,f1,_⟩:=blk2 g1
  obtain ⟨q0,q1,r0,r1,_⟩:=blk2 g2
  have BE:Hid (Below w.heap.size w ((W.setCell ⟨w.heap.size+1,0,none⟩ (.int .i64 (wd:Int))).setCell ⟨w.heap.size+1,1,none⟩ (.slice uo xs.length uc))):=Lib.hid ((bel.setCell (by show w.heap.size≤w.heap.size+1; omega) _).setCell (by show w.heap.size≤w.heap.size+1; omega) _)
  have hl0:0<L.length:=by omega
  have e0:off+0*2=off:=by omega
  clear h1 h2 h3 h4 h5 h6 h g1 g2 bel hL h0
  generalize L.length=m at *
  go_enter Tryz.func25,Tryz.ntmps25
  go_wp2_with fail
  try rw [eW]
  go_wp2
  exact bodyPost_ret (results_bt rfl rfl (set2_row _ _ G2.out)) rfl ⟨_,rfl,BV.out.below BE.out,BE.out⟩
theorem last_any (pv av:Value) (L:List (Nat × Nat)) (k wd n:Nat) (w:World) (hp:∃ po pn pc,pv=.slice po pn pc) (h:BvL w av L) (hk:L.length=k+1) (hk2:k≤1048576) (h0:L[k]?=some (wd,n)) :
    Calls Tryz.prog 26 #[.agg #[pv,av]] w fun e w'=>∃ v',e=.returned v'∧BvV w' v' wd n∧Below w.heap.size w w':=by
  obtain ⟨po,pn,pc,rfl⟩:=hp
  obtain ⟨ao,cap,rfl,h⟩:=h
  obtain ⟨b,off,rfl,hlt,h⟩:=h (fun e=>by rw [e] at h0; cases h0)
  obtain ⟨u,xs,h1,h2,h3,h4,h5,h6⟩:=h k _ h0
  have BV:Hid (BvV w (.agg #[.int .i64 (wd:Int),u]) wd n):=Lib.hid ⟨u,xs,rfl,h3,h4,h5,h6⟩
  obtain ⟨uo,uc,rfl⟩:=h3.shape
  obtain ⟨W,eW,g1,g2,bel,hsz⟩:=alloc2 w (Obj.cells #[.slice po pn pc,.slice (some ⟨b,off,none⟩) L.length cap] 46) (Obj.cells #[.int .i64 0,.slice none 0 0] 28)
  have k1:=(bel.cell (p:=⟨b,off+k*2,none⟩) hlt).trans h1
  have k2:=(bel.cell (p:=⟨b,off+k*2+1,none⟩) hlt).trans h2
  have G2:=Lib.hid g2; have BL:=Lib.hid bel
  obtain ⟨c0,c1,f0,f1,_⟩:=blk2 g1
  obtain ⟨q0,q1,r0,r1,_⟩:=blk2 g2
  have BE:Hid (Below w.heap.size w ((W.setCell ⟨w.heap.size+1,0,none⟩ (.int .i64 (wd:Int))).setCell ⟨w.heap.size+1,1,none⟩ (.slice uo xs.length uc))):=Lib.hid ((bel.setCell (by show w.heap.size≤w.heap.size+1; omega) _).setCell (by show w.heap.size≤w.heap.size+1; omega) _)
  rw [hk] at eW g1 c1 ⊢
  have e1:wrap64 (((k+1:Nat):Int) - 1)=(k:Int):=by rw [show ((k+1:Nat):Int) - 1=(k:Int) by omega]; exact IntWalk.wrap64_in _ (by omega)
  have e2:((k+1:Nat):Int) - 1=(k:Int):=by omega
  clear h1 h2 h3 h4 h5 h6 h g1 g2 bel h0 hk
  go_enter Tryz.func26,Tryz.ntmps26
  go_wp2_with fail
  try rw [eW]
  go_wp2
  exact bodyPost_ret (results_bt rfl rfl (set2_row _ _ G2.out)) rfl ⟨_,rfl,BV.out.below BE.out,BE.out⟩
end Go.Proofs.YtacbkpenohcgjaaGreat
namespace Go.Proofs.YtacbkpenohcgjaaGreat
open Go.RowKit Mth
theorem op_u (pv av:Value) (L:List (Nat × Nat)) (wd n:Nat) (w:World) (hp:∃ po pn pc,pv=.slice po pn pc) (h:BvL w av L) (h0:L[0]?=some (wd,n)) :
    Calls Tryz.prog 85 #[.agg #[pv,av]] w fun e w'=>∃ v',e=.returned v'∧IntV w' v' (n:Int)∧Below w.heap.size w w':=by
  obtain ⟨po,pn,pc,rfl⟩:=hp
  obtain ⟨ao,cap,rfl⟩:=h.shape
  have FS:∀ w1,BvL w1 (.slice ao L.length cap) L→Calls Tryz.prog 25 #[.agg #[.slice po pn pc,.slice ao L.length cap]] w1 fun e w'=>∃ v',e=.returned v'∧BvV w' v' wd n∧Below w1.heap.size w1 w':=fun w1 hv=>first_any _ _ L wd n w1 ⟨_,_,_,rfl⟩ hv h0
  have NM:Hid (∀ v w1,BvV w1 v wd n→Calls Tryz.prog 129 #[v] w1 fun e w'=>∃ v',e=.returned v'∧IntV w' v' (n:Int)∧Below w1.heap.size w1 w'):=Lib.hid (fun v w1 h=>unsigned_any v wd n w1 h)
  obtain ⟨W,eW,g1,g2,bel,hsz⟩:=alloc2 w (Obj.cells #[.slice po pn pc,.slice ao L.length cap] 46) (Obj.cells #[.bool false,.slice none 0 0] 50)
  have FA:=Lib.hid (FS W (h.below bel))
  have G2:=Lib.hid g2; have BL:=Lib.hid bel
  obtain ⟨c0,c1,f0,f1,_⟩:=blk2 g1
  clear h g1 g2 bel FS h0
  generalize L.length=m at *
  go_enter Tryz.func85,Tryz.ntmps85
  go_wp2_with fail
  try rw [eW]
  refine FA.out.mono ?_
  rintro e w2 ⟨v2,rfl,hv2,hb2⟩
  have NN:=Lib.hid (NM.out v2 w2 hv2)
  have B2:=Lib.hid (below_of BL.out hb2)
  have G3:=Lib.hid (hb2.block _ hsz |>.trans G2.out)
  have hz2:=hb2.size
  obtain ⟨u2,xs2,rfl,s2,-⟩:=hv2
  obtain ⟨a2,k2,rfl⟩:=s2.shape
  clear hb2 s2
  go_wp2_with fail
  refine NN.out.mono ?_
  rintro e w3 ⟨v3,rfl,hi3,hb3⟩
  have H3:=Lib.hid hi3
  have B3:=Lib.hid (below_of B2.out hb3)
  have G4:=Lib.hid (hb3.block _ (by omega) |>.trans G3.out)
  obtain ⟨q0,q1,r0,r1,_⟩:=blk2 G4.out
  obtain ⟨n3,a3,k3,k3',rfl⟩:=hi3.shape
  clear hi3 hb3
  go_wp2
  exact bodyPost_ret (results_it rfl rfl (set2_row _ _ G4.out)) rfl ⟨_,rfl,H3.out.far G4.out,(B3.out.setCell (by show w.heap.size≤w.heap.size+1; omega) _).setCell (by show w.heap.size≤w.heap.size+1; omega) _⟩
theorem op_v (pv av:Value) (L:List (Nat × Nat)) (k wd n:Nat) (w:World) (hp:∃ po pn pc,pv=.slice po pn pc) (h:BvL w av L) (hk:L.length=k+1) (hk2:k≤1048576) (h0:L[k]?=some (wd,n)) :
    Calls Tryz.prog 116 #[.agg #[pv,av]] w fun e w'=>∃ v',e=.returned v'∧IntV w' v' (n:Int)∧Below w.heap.size w w':=by
  obtain ⟨po,pn,pc,rfl⟩:=hp
  obtain ⟨ao,cap,rfl⟩:=h.shape
  have FS:∀ w1,BvL w1 (.slice ao L.length cap) L→Calls Tryz.prog 26 #[.agg #[.slice po pn pc,.slice ao L.length cap]] w1 fun e w'=>∃ v',e=.returned v'∧BvV w' v' wd n∧Below w1.heap.size w1 w':=fun w1 hv=>last_any _ _ L k wd n w1 ⟨_,_,_,rfl⟩ hv hk hk2 h0
  have NM:Hid (∀ v w1,BvV w1 v wd n→Calls Tryz.prog 129 #[v] w1 fun e w'=>∃ v',e=.returned v'∧IntV w' v' (n:Int)∧Below w1.heap.size w1 w'):=Lib.hid (fun v w1 h=>unsigned_any v wd n w1 h)
  obtain ⟨W,eW,g1,g2,bel,hsz⟩:=alloc2 w (Obj.cells #[.slice po pn pc,.slice ao L.length cap] 46) (Obj.cells #[.bool false,.slice none 0 0] 50)
  have FA:=Lib.hid (FS W (h.below bel))
  have G2:=Lib.hid g2; have BL:=Lib.hid bel
  obtain ⟨c0,c1,f0,f1,_⟩:=blk2 g1
  clear h g1 g2 bel FS h0 hk hk2
  generalize L.length=m at *
  go_enter Tryz.func116,Tryz.ntmps116
  go_wp2_with fail
  try rw [eW]
  refine FA.out.mono ?_
  rintro e w2 ⟨v2,rfl,hv2,hb2⟩
  have NN:=Lib.hid (NM.out v2 w2 hv2)
  have B2:=Lib.hid (below_of BL.out hb2)
  have G3:=Lib.hid (hb2.block _ hsz |>.trans G2.out)
  have hz2:=hb2.size
  obtain ⟨u2,xs2,rfl,s2,-⟩:=hv2
  obtain ⟨a2,k2,rfl⟩:=s2.shape
  clear hb2 s2
  go_wp2_with fail
  refine NN.out.mono ?_
  rintro e w3 ⟨v3,rfl,hi3,hb3⟩
  have H3:=Lib.hid hi3
  have B3:=Lib.hid (below_of B2.out hb3)
  have G4:=Lib.hid (hb3.block _ (by omega) |>.trans G3.out)
  obtain ⟨q0,q1,r0,r1,_⟩:=blk2 G4.out
  obtain ⟨n3,a3,k3,k3',rfl⟩:=hi3.shape
  clear hi3 hb3
  go_wp2
  exact bodyPost_ret (results_it rfl rfl (set2_row _ _ G4.out)) rfl ⟨_,rfl,H3.out.far G4.out,(B3.out.setCell (by show w.heap.size≤w.heap.size+1; omega) _).setCell (by show w.heap.size≤w.heap.size+1; omega) _⟩
theorem op_s (pv av:Value) (L:List (Nat × Nat)) (wd n:Nat) (b1:1≤wd) (b2:wd≤4096) (b3:n<2 ^ wd) (w:World) (hp:∃ po pn pc,pv=.slice po pn pc) (h:BvL w av L) (h0:L[0]?=some (wd,n)) :
    Calls Tryz.prog 86 #[.agg #[pv,av]] w fun e w'=>∃ v',e=.returned v'∧IntV w' v' (sgV wd n)∧Below w.heap.size w w':=by
  obtain ⟨po,pn,pc,rfl⟩:=hp
  obtain ⟨ao,cap,rfl⟩:=h.shape
  have FS:∀ w1,BvL w1 (.slice ao L.length cap) L→Calls Tryz.prog 25 #[.agg #[.slice po pn pc,.slice ao L.length cap]] w1 fun e w'=>∃ v',e=.returned v'∧BvV w' v' wd n∧Below w1.heap.size w1 w':=fun w1 hv=>first_any _ _ L wd n w1 ⟨_,_,_,rfl⟩ hv h0
  have NM:Hid (∀ v w1,BvV w1 v wd n→Calls Tryz.prog 130 #[v] w1 fun e w'=>∃ v',e=.returned v'∧IntV w' v' (sgV wd n)∧Below w1.heap.size w1 w'):=Lib.hid (fun v w1 h=>signed_any v wd n b1 b2 b3 w1 h)
  obtain ⟨W,eW,g1,g2,bel,hsz⟩:=alloc2 w (Obj.cells #[.slice po pn pc,.slice ao L.length cap] 46) (Obj.cells #[.bool false,.slice none 0 0] 50)
  have FA:=Lib.hid (FS W (h.below bel))
  have G2:=Lib.hid g2; have BL:=Lib.hid bel
  obtain ⟨c0,c1,f0,f1,_⟩:=blk2 g1
  clear h g1 g2 bel FS h0
  generalize L.length=m at *
  go_enter Tryz.func86,Tryz.ntmps86
  go_wp2_with fail
  try rw [eW]
  refine FA.out.mono ?_
  rintro e w2 ⟨v2,rfl,hv2,hb2⟩
  have NN:=Lib.hid (NM.out v2 w2 hv2)
  have B2:=Lib.hid (below_of BL.out hb2)
  have G3:=Lib.hid (hb2.block _ hsz |>.trans G2.out)
  have hz2:=hb2.size
  obtain ⟨u2,xs2,rfl,s2,-⟩:=hv2
  obtain ⟨a2,k2,rfl⟩:=s2.shape
  clear hb2 s2
  go_wp2_with fail
  refine NN.out.mono ?_
  rintro e w3 ⟨v3,rfl,hi3,hb3⟩
  have H3:=Lib.hid hi3
  have B3:=Lib.hid (below_of B2.out hb3)
  have G4:=Lib.hid (hb3.block _ (by omega) |>.trans G3.out)
  obtain ⟨q0,q1,r0,r1,_⟩:=blk2 G4.out
  obtain ⟨n3,a3,k3,k3',rfl⟩:=hi3.shape
  clear hi3 hb3
  go_wp2
  exact bodyPost_ret (results_it rfl rfl (set2_row _ _ G4.out)) rfl ⟨_,rfl,H3.out.far G4.out,(B3.out.setCell (by show w.heap.size≤w.heap.size+1; omega) _).setCell (by show w.heap.size≤w.heap.size+1; omega) _⟩
theorem op_t (pv av:Value) (L:List (Nat × Nat)) (k wd n:Nat) (b1:1≤wd) (b2:wd≤4096) (b3:n<2 ^ wd) (w:World) (hp:∃ po pn pc,pv=.slice po pn pc) (h:BvL w av L) (hk:L.length=k+1) (hk2:k≤1048576) (h0:L[k]?=some (wd,n)) :
    Calls Tryz.prog 122 #[.agg #[pv,av]] w fun e w'=>∃ v',e=.returned v'∧IntV w' v' (sgV wd n)∧Below w.heap.size w w':=by
  obtain ⟨po,pn,pc,rfl⟩:=hp
  obtain ⟨ao,cap,rfl⟩:=h.shape
  have FS:∀ w1,BvL w1 (.slice ao L.length cap) L→Calls Tryz.prog 26 #[.agg #[.slice po pn pc,.slice ao L.length cap]] w1 fun e w'=>∃ v',e=.returned v'∧BvV w' v' wd n∧Below w1.heap.size w1 w':=fun w1 hv=>last_any _ _ L k wd n w1 ⟨_,_,_,rfl⟩ hv hk hk2 h0
  have NM:Hid (∀ v w1,BvV w1 v wd n→Calls Tryz.prog 130 #[v] w1 fun e w'=>∃ v',e=.returned v'∧IntV w' v' (sgV wd n)∧Below w1.heap.size w1 w'):=Lib.hid (fun v w1 h=>signed_any v wd n b1 b2 b3 w1 h)
  obtain ⟨W,eW,g1,g2,bel,hsz⟩:=alloc2 w (Obj.cells #[.slice po pn pc,.slice ao L.length cap] 46) (Obj.cells #[.bool false,.slice none 0 0] 50)
  have FA:=Lib.hid (FS W (h.below bel))
  have G2:=Lib.hid g2; have BL:=Lib.hid bel
  obtain ⟨c0,c1,f0,f1,_⟩:=blk2 g1
  clear h g1 g2 bel FS h0 hk hk2
  generalize L.length=m at *
  go_enter Tryz.func122,Tryz.ntmps122
  go_wp2_with fail
  try rw [eW]
  refine FA.out.mono ?_
  rintro e w2 ⟨v2,rfl,hv2,hb2⟩
  have NN:=Lib.hid (NM.out v2 w2 hv2)
  have B2:=Lib.hid (below_of BL.out hb2)
  have G3:=Lib.hid (hb2.block _ hsz |>.trans G2.out)
  have hz2:=hb2.size
  obtain ⟨u2,xs2,rfl,s2,-⟩:=hv2
  obtain ⟨a2,k2,rfl⟩:=s2.shape
  clear hb2 s2
  go_wp2_with fail
  refine NN.out.mono ?_
  rintro e w3 ⟨v3,rfl,hi3,hb3⟩
  have H3:=Lib.hid hi3
  have B3:=Lib.hid (below_of B2.out hb3)
  have G4:=Lib.hid (hb3.block _ (by omega) |>.trans G3.out)
  obtain ⟨q0,q1,r0,r1,_⟩:=blk2 G4.out
  obtain ⟨n3,a3,k3,k3',rfl⟩:=hi3.shape
  clear hi3 hb3
  go_wp2
  exact bodyPost_ret (results_it rfl rfl (set2_row _ _ G4.out)) rfl ⟨_,rfl,H3.out.far G4.out,(B3.out.setCell (by show w.heap.size≤w.heap.size+1; omega) _).setCell (by show w.heap.size≤w.heap.size+1; omega) _⟩
end Go.Proofs.YtacbkpenohcgjaaGreat
namespace Go.Proofs.YtacbkpenohcgjaaGreat
open Go.RowKit Mth
theorem vec_bounds {wd m n:Nat} (h2:wd≤4096) (hm:m<2 ^ wd) (hn:n<2 ^ wd):((m:Int)+n).natAbs<Big∧((m:Int) - n).natAbs<Big∧((m:Int)*n).natAbs<Big:=by
  obtain ⟨a,b⟩:=two_big h2
  have h1:2 ^ wd+2 ^ wd≤Big:=by
    have:2 ^ (wd+1)≤Big:=by
      unfold Big
      rw [b64_two]
      exact Nat.pow_le_pow_right (by omega) (by unfold maxL; omega)
    rw [Nat.pow_succ] at this
    omega
  have h3:m*n<Big:=Nat.lt_of_le_of_lt (Nat.mul_le_mul (Nat.le_of_lt hm) (Nat.le_of_lt hn)) b
  refine ⟨by omega,by omega, ?_⟩
  rw [Int.natAbs_mul,Int.natAbs_natCast,Int.natAbs_natCast]
  exact h3
theorem car {w w':World} {R:Nat} {o:Obj} (hb:Below w.heap.size w w') (h:w.heap[R]?=some o):w'.heap[R]?=some o:=(hb.block R (Array.getElem?_eq_some_iff.1 h).1).trans h
theorem blk_a {w w':World} {o:Obj} (hb:Below (w.alloc o).heap.size (w.alloc o) w'):w'.heap[w.heap.size]?=some o:=car hb (heap_alloc_new w o)
theorem blk_da {w w':World} {o:Obj} (hb:Below (w.drew.alloc o).heap.size (w.drew.alloc o) w'):w'.heap[w.heap.size]?=some o:=show w'.heap[w.drew.heap.size]?=some o from blk_a hb
theorem bel_a {w w':World} {o:Obj} (hb:Below (w.alloc o).heap.size (w.alloc o) w'):Below w.heap.size w w':=below_of ((Below.refl _ _).alloc (Nat.le_refl _) o) hb
theorem bel_d {w w':World} (hb:Below w.drew.heap.size w.drew w'):Below w.heap.size w w':=⟨hb.os,hb.tape,hb.output,hb.size,hb.block⟩
theorem bel_da {w w':World} {o:Obj} (hb:Below (w.drew.alloc o).heap.size (w.drew.alloc o) w'):Below w.heap.size w w':=bel_d (bel_a hb)
def zInt:Obj:=.cells #[.bool false,.slice none 0 0] 50
theorem two_set {w w4:World} {R:Nat} {x0:Bool} {ao:Option Addr} {p q:Nat} {v:Value} {z:Int} (hb:Below w.heap.size w w4) (hR:w.heap.size≤R) (h:w4.heap[R]?=some (.cells #[.bool x0,.slice ao p q] 50)) (hi:IntV w4 v z) (y0 y1:Value) :
    ∃ V,(w4.setCell ⟨R,0,none⟩ y0).setCell ⟨R,1,none⟩ y1=V∧V.heap[R]?=some (.cells #[y0,y1] 50)∧IntV V v z∧Below w.heap.size w V∧∀ (g:Nat) (o:Obj),g≠R→w4.heap[g]?=some o→V.heap[g]?=some o :=
  ⟨_,rfl,set2_row _ _ h,hi.far h,(hb.setCell (p:=⟨R,0,none⟩) hR _).setCell (p:=⟨R,1,none⟩) hR _,fun g o hg ho=>(Below.heap_setCell _ ⟨R,1,none⟩ y1 g hg).trans ((Below.heap_setCell w4 ⟨R,0,none⟩ y0 g hg).trans ho)⟩
theorem one_new {w w4:World} {v:Value} {z:Int} (hb:Below w.heap.size w w4) (hi:IntV w4 v z) (y0 y1:Value) :
    ∃ V,w4.alloc (.cells #[y0,y1] 50)=V∧V.heap[w4.heap.size]?=some (.cells #[y0,y1] 50)∧IntV V v z∧Below w.heap.size w V∧∀ (g:Nat) (o:Obj),w4.heap[g]?=some o→V.heap[g]?=some o :=
  have hb4:Below w4.heap.size w4 (w4.alloc (.cells #[y0,y1] 50)):=(Below.refl _ _).alloc (Nat.le_refl _) _
  ⟨_,rfl,heap_alloc_new _ _,hi.below hb4,below_of hb hb4,fun _ _ ho=>car hb4 ho⟩
end Go.Proofs.YtacbkpenohcgjaaGreat
namespace Go.Proofs.YtacbkpenohcgjaaGreat
open Go.RowKit Mth
def FineV (p:Nat × Nat):Prop:=1≤p.1∧p.1≤4096∧p.2<2 ^ p.1
theorem areRight_fine (av:Value) (L:List (Nat × Nat)) (w:World) (h:BvL w av L) (hf:∀ p∈L,FineV p) (hlen:L.length≤1048576) :
    Calls Tryz.prog 24 #[av] w fun e w'=>e=.returned (.bool true)∧Below w.heap.size w w':=by
  have HV:=Lib.hid h
  have HF:=Lib.hid hf
  obtain ⟨ao,cap,rfl⟩:=h.shape
  clear h hf
  go_enter Tryz.func24,Tryz.ntmps24
  go_wp2_with fail
  go_loopw [7] (fun i wr=>∃ k:Nat,k≤L.length∧i=.int .i64 (k:Int)∧Below w.heap.size w wr) (fun i _=>L.length - (intOf i).toNat)
  case atStart=>exact ⟨0,Nat.zero_le _,rfl,Below.refl _ _⟩
  case round =>
    obtain ⟨k,hk,rfl,hb⟩:=hrel
    by_cases hl:k<L.length
    · obtain ⟨ao',cap',e,hc⟩:=HV.out.below hb
      simp only [Value.slice.injEq] at e
      obtain ⟨rfl,-,rfl⟩:=e
      obtain ⟨b,off,rfl,hlt,hc⟩:=hc (fun e=>by rw [e] at hl; simp at hl)
      obtain ⟨u,xs,h1,h2,h3,h4,h5,h6⟩:=hc k L[k] (List.getElem?_eq_getElem hl)
      obtain ⟨f1,f2,f3⟩:=HF.out L[k] (List.getElem_mem hl)
      generalize L[k]=p at *
      obtain ⟨wd,n⟩:=p
      dsimp only at h1 h2 h6 f1 f2 f3
      obtain ⟨V,eV,gV,bV,hVs⟩:=alloc1n wr (Obj.cells #[.int .i64 (wd:Int),u] 28)
      have RT:=Lib.hid (right_any (wd:Int) u xs V (h3.below bV) h4)
      rw [h6,right_fine f1 f2 f3] at RT
      have BV:=Lib.hid (below_of hb bV)
      obtain ⟨uo,uc,rfl⟩:=h3.shape
      obtain ⟨c0,c1,r0,r1,_⟩:=blk2 gV
      clear hc h3 h4 h5 h6 f1 f2 f3 gV bV hb
      go_wp2_with fail
      try rw [eV]
      refine RT.out.mono ?_
      rintro e w2 ⟨rfl,hb2⟩
      have B2:=Lib.hid (below_of BV.out hb2)
      clear hb2
      go_wp2
      go_roundw
      case rel=>exact ⟨k+1,by omega,by go_num,B2.out⟩
      case measure=>(simp [intOf]; try omega)
    · obtain rfl:k=L.length:=by omega
      have HB:=Lib.hid hb
      clear hb
      go_wp2
      go_ret
      exact ⟨rfl,HB.out⟩
end Go.Proofs.YtacbkpenohcgjaaGreat
namespace Go.Proofs.YtacbkpenohcgjaaGreat
open Go.RowKit Mth
theorem field0_bits (x:Int) (ao:Option Addr) (k c:Nat) (W:World):Sem.run Tryz.prog (Instr.field 28 (.agg #[.int .i64 x,.slice ao k c]) 0) W=.ok (.int .i64 x) W:=by kernel_rfl
end Go.Proofs.YtacbkpenohcgjaaGreat
namespace Go.Proofs.YtacbkpenohcgjaaGreat
open Go.RowKit Mth
end Go.Proofs.YtacbkpenohcgjaaGreat
namespace Go.Proofs.YtacbkpenohcgjaaGreat
open Go.RowKit Mth
theorem nblk_new {w:World} {cs:Array Value} {T:TypeId} {g:Nat} (h:g=w.heap.size):(w.alloc (.cells cs T)).heap[g]?=some (.cells cs T (0,0)):=by subst h; exact heap_alloc_new w _
theorem nblk_lt {w:World} {o x:Obj} {g:Nat} (hg:g<w.heap.size) (h:w.heap[g]?=some x):(w.alloc o).heap[g]?=some x:=(((Below.refl _ _).alloc (Nat.le_refl _) o).block g hg).trans h
theorem nblk_own {w:World} {g:Nat} {x y:Value} {T:TypeId} (h:w.heap[g]?=some (.cells #[.bool false,.slice none 0 0] T (0,0))):((w.setCell ⟨g,0,none⟩ x).setCell ⟨g,1,none⟩ y).heap[g]?=some (.cells #[x,y] T (0,0)):=set2_row x y h
theorem nblk_two {w:World} {g R:Nat} {y0 y1:Value} {o:Obj} (hne:g≠R) (h:w.heap[g]?=some o):((w.setCell ⟨R,0,none⟩ y0).setCell ⟨R,1,none⟩ y1).heap[g]?=some o:=blk_far2 h hne
theorem nblk_drew {w:World} {g:Nat} {x:Obj} (h:w.heap[g]?=some x):w.drew.heap[g]?=some x:=h
theorem nblk_call {w w':World} {g:Nat} {x:Obj} (hb:Below w.heap.size w w') (h:w.heap[g]?=some x):w'.heap[g]?=some x:=car hb h
theorem intv_alloc {w:World} {v:Value} {z:Int} {o:Obj} (h:IntV w v z):IntV (w.alloc o) v z:=h.below ((Below.refl _ _).alloc (Nat.le_refl _) _)
theorem intv_drew {w:World} {v:Value} {z:Int} (h:IntV w v z):IntV w.drew v z:=h.below (Below.refl _ _).drew
theorem intv_call {w w':World} {v:Value} {z:Int} (hb:Below w.heap.size w w') (h:IntV w v z):IntV w' v z:=h.below hb
theorem intv_set {w:World} {v y0 y1:Value} {z:Int} {R:Nat} (h:IntV w v z) (hR:w.heap[R]?=some (.cells #[.bool false,.slice none 0 0] 50 (0,0))):IntV ((w.setCell ⟨R,0,none⟩ y0).setCell ⟨R,1,none⟩ y1) v z:=h.far hR
theorem bel_call {w0 w w':World} (hb:Below w.heap.size w w') (h:Below w0.heap.size w0 w):Below w0.heap.size w0 w':=below_of h hb
def BoxI (W wx:World) (z:Int) (s:Value):Prop:=∃ (g:Nat) (n:Bool) (a:Option Addr) (k c:Nat),s=.pointer (some ⟨g,0,none⟩)∧W.heap.size≤g∧wx.heap[g]?=some (.cells #[.bool n,.slice a k c] 50 (0,0))∧IntV wx (.agg #[.bool n,.slice a k c]) z∧Below W.heap.size W wx
theorem intv_box (z:Int) (w:World) {n:Bool} {a:Option Addr} {k c:Nat} (h:IntV w (.agg #[.bool n,.slice a k c]) z):∃ W,w.alloc (.cells #[.bool n,.slice a k c] 50)=W∧W.heap[w.heap.size]?=some (.cells #[.bool n,.slice a k c] 50)∧IntV W (.agg #[.bool n,.slice a k c]) z∧Below w.heap.size w W:=by
  obtain ⟨W,e,g,b,_⟩:=alloc1n w (.cells #[.bool n,.slice a k c] 50)
  exact ⟨W,e,g,h.below b,b⟩
theorem isZero_any (v:Value) (z:Int) (b:Bool) (hb:decide (z=0)=b) (w:World) (h:IntV w v z):Calls Tryz.prog 119 #[v] w fun e w'=>e=.returned (.bool b)∧Below w.heap.size w w':=by
  obtain ⟨n,a,k,c,rfl⟩:=h.shape
  obtain ⟨W,eW,gW,hW,bW⟩:=intv_box z w h
  have SG:=Lib.hid (signF _ z (zcmp z 0) W hW rfl)
  have BW:=Lib.hid bW
  obtain ⟨c0,c1,-,-,_⟩:=blk2 gW
  have d1:(zcmp z 0 == 0)=b:=by
    rw [← hb]
    unfold zcmp
    by_cases e:z=0
    · rw [if_neg (by omega),if_neg (by omega),decide_eq_true e]; rfl
    · rw [decide_eq_false e]
      by_cases e2:z<0
      · rw [if_pos e2]; rfl
      · rw [if_neg e2,if_pos (by omega)]; rfl
  generalize zcmp z 0=o at *
  clear h gW hW bW hb
  cases b
  all_goals
    go_enter Tryz.func119,Tryz.ntmps119
    go_wp2_with fail
    try rw [eW]
    refine SG.out.mono ?_
    rintro e w2 ⟨rfl,hb2⟩
    have B2:=Lib.hid (below_of BW.out hb2)
    clear hb2
    go_wp2
    go_ret
    exact ⟨rfl,B2.out⟩
end Go.Proofs.YtacbkpenohcgjaaGreat
