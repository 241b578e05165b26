import Derived.Test.YtacbkpenohcgjaaGreatVN2
import Derived.Test.YtacbkpenohcgjaaGreatVFA
import Derived.Test.YtacbkpenohcgjaaGreatVY2
import Derived.Test.YtacbkpenohcgjaaGreatVN4
import Derived.Test.YtacbkpenohcgjaaGreatVNC9
import Derived.IntWalk
set_option linter.unusedVariables false
set_option linter.unusedSimpArgs false
set_option maxHeartbeats 16000000
set_option maxRecDepth 100000
namespace Go.Proofs.YtacbkpenohcgjaaGreat
open Go.RowKit Mth
theorem bit_end9 (x r:Nat) (hx:x<B64):(bits BinOp.and IntKind.u64 ((x:Int) / 2 ^ r) 1 == 1)=decide (x / 2 ^ r % 2=1):=bit_end x r hx
theorem bitN_last {a:Nat} (h:0<bl a):bitN a (bl a - 1)=true:=by
  have h0:a≠0:=fun e=>by rw [e,bl_zero] at h; omega
  obtain ⟨m,e,h1,h2⟩:=bl_spec h0
  rw [show bl a - 1=m by omega]
  unfold bitN
  rw [Nat.pow_succ] at h2
  have h3:a / 2 ^ m=1:=Nat.div_eq_of_lt_le (by omega) (by omega)
  rw [h3]; rfl
theorem bitN_high {n i:Nat} (h:bl n≤i):bitN n i=false:=by
  unfold bitN
  rw [Nat.div_eq_of_lt (Nat.lt_of_lt_of_le (lt_bl n) (Nat.pow_le_pow_right (by omega) h))]
  rfl
theorem bitN_some {n wd:Nat} (h:wd<bl n):∃ j,wd≤j∧j<bl n∧bitN n j=true∧∀ i,wd≤i→i<j→bitN n i=false:=by
  have ht:bitN n (bl n - 1)=true:=bitN_last (by omega)
  have key:∀ d,∀ j,j+d=bl n - 1→wd≤j→∃ j',j≤j'∧j'<bl n∧bitN n j'=true∧∀ i,j≤i→i<j'→bitN n i=false:=by
    intro d
    induction d with
    | zero=>intro j hj _; exact ⟨j,Nat.le_refl _,by omega,by rw [show j=bl n - 1 by omega]; exact ht,fun i h1 h2=>absurd h2 (by omega)⟩
    | succ d ih =>
      intro j hj hw
      cases hb:bitN n j
      · obtain ⟨j',h1,h2,h3,h4⟩:=ih (j+1) (by omega) (by omega)
        refine ⟨j',by omega,h2,h3,fun i h5 h6=>?_⟩
        by_cases e:i=j
        · rw [e]; exact hb
        · exact h4 i (by omega) h6
      · exact ⟨j,Nat.le_refl _,by omega,hb,fun i h1 h2=>absurd h2 (by omega)⟩
  obtain ⟨j,h1,h2,h3,h4⟩:=key (bl n - 1 - wd) wd (by omega) (Nat.le_refl _)
  exact ⟨j,h1,h2,h3,h4⟩
theorem rright_no (x:Int) (hx:isW x=false) (u:Value) (xs:List Nat) (w:World) (hs:Sl w .u64 u xs):Calls Tryz.prog 32 #[.agg #[.int .i64 x,u]] w fun e w'=>e=.returned (.bool false)∧Below w.heap.size w w':=by
  obtain ⟨ao,cap,rfl⟩:=hs.shape
  obtain ⟨W,eW,gW,bW,hWs⟩:=alloc1n w (Obj.cells #[.int .i64 x,.slice ao xs.length cap] 28)
  have BW:=Lib.hid bW
  obtain ⟨c0,c1,f0,f1,_⟩:=blk2 gW
  have hc:x<1∨(1≤x∧4096<x):=by
    unfold isW at hx
    simp only [Bool.and_eq_false_iff,decide_eq_false_iff_not] at hx
    omega
  clear hs gW bW hx
  rcases hc with hc | ⟨hc,hc'⟩
  all_goals
    go_enter Tryz.func32,Tryz.ntmps32
    go_wp2_with fail
    try rw [eW]
    go_wp2
    go_ret
    exact ⟨rfl,BW.out⟩
theorem rright_loop (wd:Nat) (h1:1≤wd) (h2:wd≤4096) (u:Value) (xs:List Nat) (w:World) (hs:Sl w .u64 u xs) (hl:Lim B64 xs) (b:Bool) (j:Nat) (hj:wd≤j) (hb:(b=true∧64*xs.length≤j)∨(b=false∧j<64*xs.length∧bitN (val B64 xs) j=true)) (hz:∀ i,wd≤i→i<j→bitN (val B64 xs) i=false) :
    Calls Tryz.prog 32 #[.agg #[.int .i64 (wd:Int),u]] w fun e w'=>e=.returned (.bool b)∧Below w.heap.size w w':=by
  have hlen:=hs.len
  obtain ⟨ao,cap,rfl,k1,k2,k3,k4,k5⟩:=hs
  obtain ⟨W,eW,gW,bW,hWs⟩:=alloc1n w (Obj.cells #[.int .i64 (wd:Int),.slice ao xs.length cap] 28)
  have BW:=Lib.hid bW
  have K5:=Lib.hid k5
  have HL:=Lib.hid hl; have HZ:=Lib.hid hz; have HB:=Lib.hid hb
  obtain ⟨c0,c1,f0,f1,_⟩:=blk2 gW
  unfold maxLen at k2
  clear gW bW k4 k5 hl hz hb
  go_enter Tryz.func32,Tryz.ntmps32
  go_wp2_with fail
  try rw [eW]
  go_loop [3] (fun i=>∃ k:Nat,wd≤k∧k≤j∧(k=wd∨k≤64*xs.length)∧i=.int .i64 (k:Int)) (fun i=>64*xs.length - (intOf i).toNat)
  case atStart=>exact ⟨wd,Nat.le_refl _,hj,Or.inl rfl,rfl⟩
  case round =>
    obtain ⟨k,hk1,hk2,hk3,rfl⟩:=hrel
    obtain ⟨q,r,hqr,hr⟩:∃ q r,k=64*q+r∧r<64:=⟨k / 64,k % 64,by omega,by omega⟩
    have hq64:(k:Int) / 64=(q:Int):=by omega
    have hr64:(k:Int) % 64=(r:Int):=by omega
    have hqb:(q:Int)≤9223372036854775807:=by omega
    by_cases hlt:k<64*xs.length
    · have hql:q<xs.length:=by omega
      obtain ⟨bb,off,rfl,hbb,hc⟩:=K5.out (by omega)
      have hcq:=(BW.out.cell (p:=⟨bb,off+q,none⟩) hbb).trans (hc q hql)
      have hx:=HL.out q
      have hbit:bitN (val B64 xs) k=decide (xs.getD q 0 / 2 ^ r % 2=1):=by rw [hqr]; exact bit_limb HL.out hr hql
      have he:=bit_end9 (xs.getD q 0) r hx
      rw [← hbit] at he
      by_cases hkj:k<j
      · rw [HZ.out k hk1 hkj] at he
        generalize xs.getD q 0=xq at *
        have HX:=Lib.hid hx
        clear hc hx hbit hqr
        go_wp2_with fail
        go_round
        case rel=>exact ⟨k+1,by omega,by omega,Or.inr (by omega),by go_num⟩
        case measure=>(simp [intOf]; try omega)
      · obtain rfl:k=j:=by omega
        rcases HB.out with ⟨-,h⟩ | ⟨hbf,h,hbt⟩
        · omega
        · subst hbf
          rw [hbt] at he
          generalize xs.getD q 0=xq at *
          have HX:=Lib.hid hx
          clear hc hx hbit hqr hbt
          go_wp2
          go_ret
          exact ⟨rfl,BW.out⟩
    · rcases HB.out with ⟨hbt,h⟩ | ⟨hbf,h,hbt⟩
      · subst hbt
        have hlt':¬ (k:Int)<64*(xs.length:Int):=by omega
        go_wp2
        go_ret
        exact ⟨rfl,BW.out⟩
      · exfalso; omega
theorem rright_any (x:Int) (u:Value) (xs:List Nat) (w:World) (hs:Sl w .u64 u xs) (hl:Lim B64 xs):Calls Tryz.prog 32 #[.agg #[.int .i64 x,u]] w fun e w'=>e=.returned (.bool (rightF x (val B64 xs)))∧Below w.heap.size w w':=by
  unfold rightF
  cases hx:isW x
  · exact rright_no x hx u xs w hs
  · have h:1≤x∧x≤4096:=by unfold isW at hx; simpa using hx
    obtain ⟨wd,rfl⟩:=Int.eq_ofNat_of_zero_le (show 0≤x by omega)
    rw [Bool.true_and]
    by_cases hb:bl (val B64 xs)≤wd
    · rw [decide_eq_true (by omega)]
      exact rright_loop wd (by omega) (by omega) u xs w hs hl true (max wd (64*xs.length)) (by omega) (Or.inl ⟨rfl,by omega⟩) (fun i h1 _=>bitN_high (by omega))
    · obtain ⟨j,h1,h2,h3,h4⟩:=bitN_some (n:=val B64 xs) (wd:=wd) (by omega)
      have h5:j<64*xs.length:=by
        rcases Nat.lt_or_ge j (64*xs.length) with h | h
        · exact h
        · rw [bit_far hl h] at h3; cases h3
      rw [decide_eq_false (by omega)]
      exact rright_loop wd (by omega) (by omega) u xs w hs hl false j h1 (Or.inr ⟨rfl,h5,h3⟩) h4
end Go.Proofs.YtacbkpenohcgjaaGreat
namespace Go.Proofs.YtacbkpenohcgjaaGreat
open Go.RowKit Mth
theorem results_zt {fn:Func} {tmps:Array Value} {w:World} {g:Nat} {x0 x1:Value} {t:Nat} (h:fn.results=#[.cell t 61]) (h1:tmps.getD t undef=.pointer (some ⟨g,0,none⟩)) (hb:w.heap[g]?=some (.cells #[x0,x1] 61 (0,0))) :
    (results fn tmps).run Tryz.prog w=.ok (.agg #[x0,x1]) w:=by
  obtain ⟨c0,c1,_⟩:=blk2 hb
  rw [Array.getD_eq_getD_getElem?] at h1
  simp [results,h,h1,go_sem,c0,c1]
theorem rbit9_any (x:Int) (u:Value) (xs:List Nat) (n:Nat) (hn:n≤16777216) (w:World) (h:Sl w .u64 u xs) (hl:Lim B64 xs) :
    Calls Tryz.prog 16 #[.agg #[.int .i64 x,u],.int .i64 (n:Int)] w fun e w'=>e=.returned (.bool (bitN (val B64 xs) n))∧Below w.heap.size w w':=by
  have hlen:=h.len
  obtain ⟨q,r,hqr,hr⟩:∃ q r,n=64*q+r∧r<64:=⟨n / 64,n % 64,by omega,by omega⟩
  have hq64:(n:Int) / 64=(q:Int):=by omega
  have hr64:(n:Int) % 64=(r:Int):=by omega
  obtain ⟨ao,cap,rfl,k1,k2,k3,k4,k5⟩:=h
  obtain ⟨W,eW,gW,bW,hWs⟩:=alloc1n w (Obj.cells #[.int .i64 x,.slice ao xs.length cap] 28)
  have BW:=Lib.hid bW
  obtain ⟨c0,c1,f0,f1,_⟩:=blk2 gW
  have hqb:(q:Int)≤9223372036854775807:=by omega
  unfold maxLen at k2
  by_cases hfar:xs.length≤q
  · have E:Hid (bitN (val B64 xs) n=false):=Lib.hid (bit_far hl (by omega))
    have hd2:¬ (q:Int)<(xs.length:Int):=by omega
    clear k4 k5 hl hqr gW bW
    go_enter Tryz.func16,Tryz.ntmps16
    go_wp2_with fail
    try rw [eW]
    go_wp2
    go_ret
    exact ⟨by rw [E.out]; rfl,BW.out⟩
  · obtain ⟨b,off,rfl,hb,hc⟩:=k5 (by omega)
    have E:Hid (bitN (val B64 xs) n=decide (xs.getD q 0 / 2 ^ r % 2=1)):=Lib.hid (by rw [hqr,bit_limb hl hr (by omega)])
    have hcq:=(bW.cell (p:=⟨b,off+q,none⟩) hb).trans (hc q (by omega))
    have hx:=hl q
    generalize xs.getD q 0=xq at *
    have HX:=Lib.hid hx
    have hql:q<xs.length:=by omega
    clear k4 k5 hl hc hx hqr hfar gW bW
    go_enter Tryz.func16,Tryz.ntmps16
    go_wp2_with fail
    try rw [eW]
    go_wp2
    go_ret
    refine ⟨?_,BW.out⟩
    rw [E.out]
    exact ret_bool (bit_end9 xq r HX.out)
def ResZ9 (w w':World) (e:Ending) (z:Int):Prop:=∃ n a k c,e=.returned (.agg #[.bool n,.slice a k c])∧ZV w' (.agg #[.bool n,.slice a k c]) z∧Below w.heap.size w w'
theorem from9 (v:Value) (z:Int) (w:World) (h:IntV w v z):Calls Tryz.prog 89 #[v] w fun e w'=>ResZ9 w w' e z:=(from_any2 v z w h).mono fun e w' ⟨v',he,hz,hb⟩=>by
  obtain ⟨n,a,k,c,rfl⟩:=hz.shape
  exact ⟨n,a,k,c,he,hz,hb⟩
theorem rU_any (x:Int) (u:Value) (xs:List Nat) (w:World) (hs:Sl w .u64 u xs) (hl:Lim B64 xs) (h3:xs.length≤4000000) :
    Calls Tryz.prog 40 #[.agg #[.int .i64 x,u]] w fun e w'=>ResZ9 w w' e (val B64 xs:Nat):=by
  obtain ⟨ao,cap,rfl⟩:=hs.shape
  obtain ⟨W,eW,g1,g2,bel,hsz⟩:=alloc2 w (Obj.cells #[.int .i64 x,.slice ao xs.length cap] 28) (Obj.cells #[.bool false,.slice none 0 0] 61)
  have FR:=Lib.hid (from9 (.agg #[.bool false,.slice ao xs.length cap]) (val B64 xs:Nat) W (intV_of (hs.below bel) hl h3 rfl))
  have G2:=Lib.hid g2; have BL:=Lib.hid bel
  obtain ⟨c0,c1,f0,f1,_⟩:=blk2 g1
  clear hs hl g1 g2 bel
  go_enter Tryz.func40,Tryz.ntmps40
  go_wp2_with fail
  try rw [eW]
  refine FR.out.mono ?_
  rintro e w2 ⟨n,a,k,c,rfl,hz,hb⟩
  have GR:=Lib.hid (car hb G2.out)
  have B2:=Lib.hid (below_of BL.out hb)
  have HZ:=Lib.hid (hz.far (y0:=.bool n) (y1:=.slice a k c) GR.out)
  obtain ⟨q0,q1,r0,r1,_⟩:=blk2 GR.out
  clear hz hb
  go_wp2
  exact bodyPost_ret (results_zt rfl rfl (set2_row _ _ GR.out)) rfl ⟨_,_,_,_,rfl,HZ.out,(B2.out.setCell (by show w.heap.size≤w.heap.size+1; omega) _).setCell (by show w.heap.size≤w.heap.size+1; omega) _⟩
theorem power_limbs {q r wd:Nat} (h:wd=64*q+r):val B64 ((List.replicate (q+1) 0).set q (2 ^ r))=2 ^ wd:=by
  have h1:=val_set B64 (List.replicate (q+1) 0) q (by simp) (2 ^ r)
  have h2:(List.replicate (q+1) (0:Nat)).getD q 0=0:=getD_replicate _ _
  rw [h2,Nat.mul_zero,Nat.add_zero,val_reps,Nat.zero_add,b64_two,← Nat.pow_add] at h1
  rw [h1,h]
theorem rPower_any (wd:Nat) (h2:wd≤8192) (w:World):Calls Tryz.prog 38 #[.int .i64 (wd:Int)] w fun e w'=>ResZ9 w w' e ((2 ^ wd:Nat):Int):=by
  obtain ⟨q,r,hqr,hr⟩:∃ q r,wd=64*q+r∧r<64:=⟨wd / 64,wd % 64,by omega,by omega⟩
  have hq64:(wd:Int) / 64=(q:Int):=by omega
  have hr64:(wd:Int) % 64=(r:Int):=by omega
  obtain ⟨W,eW,gW,bW,hWs⟩:=alloc1n w (Obj.cells #[.bool false,.slice none 0 0] 61)
  have HV:=Lib.hid (power_limbs hqr)
  have hlt:2 ^ r<B64:=by
    unfold B64
    rw [show (18446744073709551616:Nat)=2 ^ 64 by rfl]
    exact Nat.pow_lt_pow_right (by omega) hr
  have hsh:IntKind.u64.wrap ((1:Int)*2 ^ r)=((2 ^ r:Nat):Int):=by
    have:=shl_u64 1 r
    rw [Nat.one_mul,Nat.mod_eq_of_lt hlt] at this
    exact this
  have hsh':IntKind.u64.wrap ((2:Int) ^ r)=((2 ^ r:Nat):Int):=by rw [Int.one_mul] at hsh; exact hsh
  have HL:Hid (Lim B64 ((List.replicate (q+1) 0).set q (2 ^ r))):=Lib.hid (lim_set (fun j=>by rw [getD_replicate]; have:=B64_pos; omega) hlt q)
  have GW:=Lib.hid gW; have BW:=Lib.hid bW
  have hqs:q≤128:=by omega
  clear gW bW hqr hlt
  generalize (2:Nat) ^ wd=P at *
  go_enter Tryz.func38,Tryz.ntmps38
  go_wp2_with (first | (refine make_nat rfl _ _ rfl _ _ (q+1) rfl rfl (by omega) (by omega) (by omega) ?_; intro w2 hr2 hb2; have HR2:=Lib.hid hr2; have HB2:=Lib.hid hb2; have c0:=hr2.cell (j:=q) (by simp); have f0:=hr2.free q; clear hr2 hb2))
  obtain ⟨V,eV⟩:∃ V,w2.setCell ⟨W.heap.size,q,none⟩ (Value.int IntKind.u64 (2 ^ r))=V:=⟨_,rfl⟩
  have hrow:Row V 37 .u64 W.heap.size ((List.replicate (q+1) 0).set q (2 ^ r)):=by
    have h:=(HR2.out.set q (2 ^ r)).1
    rw [show (((2 ^ r:Nat):Int))=(2:Int) ^ r by simp] at h
    rw [← eV]
    exact h
  have hbV:Below W.heap.size W V:=by rw [← eV]; exact HB2.out.setCell (Nat.le_refl _) _
  have hlen:((List.replicate (q+1) 0).set q (2 ^ r)).length=q+1:=by simp
  have hsl:=hrow.sl_all (by rw [hlen]; omega)
  rw [hlen] at hsl
  have FR:=Lib.hid (from9 _ _ V (intV_of hsl HL.out (by rw [hlen]; omega) HV.out))
  have BV:=Lib.hid (below_of BW.out hbV)
  have GV:=Lib.hid (car hbV GW.out)
  clear hrow hbV hlen hsl c0 f0
  try rw [eV]
  refine FR.out.mono ?_
  rintro e w3 ⟨n,a,k,c,rfl,hz,hb⟩
  have GR:=Lib.hid (car hb GV.out)
  have B3:=Lib.hid (below_of BV.out hb)
  have HZ:=Lib.hid (hz.far (y0:=.bool n) (y1:=.slice a k c) GR.out)
  obtain ⟨q0,q1,r0,r1,_⟩:=blk2 GR.out
  clear hz hb
  go_wp2
  exact bodyPost_ret (results_zt rfl rfl (set2_row _ _ GR.out)) rfl ⟨_,_,_,_,rfl,HZ.out,(B3.out.setCell (Nat.le_refl _) _).setCell (Nat.le_refl _) _⟩
end Go.Proofs.YtacbkpenohcgjaaGreat
namespace Go.Proofs.YtacbkpenohcgjaaGreat
open Go.RowKit Mth
theorem bit_sign {wd n:Nat} (h1:1≤wd) (hn:n<2 ^ wd):bitN n (wd - 1)=decide (2 ^ (wd - 1)≤n):=by
  have h:=sgV_bit h1 hn
  unfold bitI at h
  rw [decide_eq_true (by omega),Bool.true_and,show ((wd:Int) - 1).toNat=wd - 1 by omega] at h
  exact h
theorem vec_huge {wd n:Nat} (h2:wd≤4096) (hn:n<2 ^ wd):(n:Int).natAbs<HugeD:=Nat.lt_of_lt_of_le (show n<Big from Nat.lt_trans hn (two_big h2).1) (Nat.le_trans big_huge huge_d)
theorem two_huge {wd:Nat} (h2:wd≤4096):(-((2 ^ wd:Nat):Int)).natAbs<HugeD:=by
  rw [Int.natAbs_neg]
  exact Nat.lt_of_lt_of_le (two_big h2).1 (Nat.le_trans big_huge huge_d)
theorem zv_alloc {w:World} {v:Value} {z:Int} {o:Obj} (h:ZV w v z):ZV (w.alloc o) v z:=h.below ((Below.refl _ _).alloc (Nat.le_refl _) _)
theorem zv_drew {w:World} {v:Value} {z:Int} (h:ZV w v z):ZV w.drew v z:=h.below (Below.refl _ _).drew
theorem zv_call {w w':World} {v:Value} {z:Int} (hb:Below w.heap.size w w') (h:ZV w v z):ZV w' v z:=h.below hb
theorem zv_set {w:World} {v y0 y1:Value} {z:Int} {R:Nat} (h:ZV w v z) (hR:w.heap[R]?=some (.cells #[.bool false,.slice none 0 0] 61 (0,0))):ZV ((w.setCell ⟨R,0,none⟩ y0).setCell ⟨R,1,none⟩ y1) v z:=h.far hR
theorem minus9 (v:Value) (z:Int) (w:World) (h:ZV w v z):Calls Tryz.prog 42 #[v] w fun e w'=>ResZ9 w w' e (-z):=(minus_any2 v z w h).mono fun e w' ⟨v',he,hz,hb⟩=>by
  obtain ⟨n,a,k,c,rfl⟩:=hz.shape
  exact ⟨n,a,k,c,he,hz,hb⟩
theorem plus9 (va vb:Value) (x y:Int) (w:World) (ha:ZV w va x) (hb:ZV w vb y) (hx:x.natAbs<HugeD) (hy:y.natAbs<HugeD):Calls Tryz.prog 45 #[va,vb] w fun e w'=>ResZ9 w w' e (x+y):=(plus_any2 va vb x y w ha hb hx hy).mono fun e w' ⟨v',he,hz,hb⟩=>by
  obtain ⟨n,a,k,c,rfl⟩:=hz.shape
  exact ⟨n,a,k,c,he,hz,hb⟩
theorem rS_low (v:Value) (wd n:Nat) (h1:1≤wd) (h2:wd≤4096) (hn:n<2 ^ wd) (hlow:¬ 2 ^ (wd - 1)≤n) (w:World) (h:BvV w v wd n):Calls Tryz.prog 41 #[v] w fun e w'=>ResZ9 w w' e (n:Int):=by
  obtain ⟨u,xs,rfl,hs,hl,h3,hv⟩:=h
  have hn0:=hn
  rw [← hv] at hn0
  have hbit:=bit_sign h1 hn0
  rw [hv] at hbit
  obtain ⟨ao,cap,rfl⟩:=hs.shape
  obtain ⟨W,eW,g1,g2,bel,hsz⟩:=alloc2 w (Obj.cells #[.int .i64 (wd:Int),.slice ao xs.length cap] 28) (Obj.cells #[.bool false,.slice none 0 0] 61)
  have G1:=Lib.hid g1; have G2:=Lib.hid g2; have BL:=Lib.hid bel
  have hWs:w.heap.size+1<W.heap.size:=hsz
  have UU:Hid (∀ w1,Below W.heap.size W w1→Calls Tryz.prog 40 #[.agg #[.int .i64 (wd:Int),.slice ao xs.length cap]] w1 fun e w'=>ResZ9 w1 w' e (n:Int)):=Lib.hid (fun w1 hw=>by
    have h:=rU_any (wd:Int) _ xs w1 ((hs.below bel).below hw) hl h3
    rw [hv] at h
    exact h)
  have BT:Hid (Calls Tryz.prog 16 #[.agg #[.int .i64 (wd:Int),.slice ao xs.length cap],.int .i64 ((wd:Int) - 1)] W fun e w'=>e=.returned (.bool (decide (2 ^ (wd - 1)≤n)))∧Below W.heap.size W w'):=Lib.hid (by
    have h:=rbit9_any (wd:Int) _ xs (wd - 1) (by omega) W (hs.below bel) hl
    rw [hv,hbit,show ((wd - 1:Nat):Int)=(wd:Int) - 1 by omega] at h
    exact h)
  have e1:wrap64 ((wd:Int) - 1)=(wd:Int) - 1:=IntWalk.wrap64_in _ (by omega)
  obtain ⟨c0,c1,f0,f1,_⟩:=blk2 g1
  rw [decide_eq_false hlow] at BT
  clear hs hl h3 hv hn hn0 hbit g1 g2 bel hlow
  go_enter Tryz.func41,Tryz.ntmps41
  go_wp2_with fail
  try rw [eW]
  refine BT.out.mono ?_
  rintro e w2 ⟨rfl,hb2⟩
  have B2:=Lib.hid hb2
  have GA:=Lib.hid (car hb2 G1.out)
  obtain ⟨d0,d1,-,-,_⟩:=blk2 GA.out
  clear hb2 c0 c1 f0 f1
  go_wp2_with fail
  refine (UU.out _ B2.out).mono ?_
  rintro e w3 ⟨n3,a3,k3,c3,rfl,hz,hb⟩
  have GR:=Lib.hid (car hb (car B2.out G2.out))
  have B3:=Lib.hid (below_of BL.out (below_of B2.out hb))
  have HZ:=Lib.hid (hz.far (y0:=.bool n3) (y1:=.slice a3 k3 c3) GR.out)
  obtain ⟨q0,q1,r0,r1,_⟩:=blk2 GR.out
  clear hz hb
  go_wp2
  exact bodyPost_ret (results_zt rfl rfl (set2_row _ _ GR.out)) rfl ⟨_,_,_,_,rfl,HZ.out,(B3.out.setCell (by show w.heap.size≤w.heap.size+1; omega) _).setCell (by show w.heap.size≤w.heap.size+1; omega) _⟩
theorem rS_high (v:Value) (wd n:Nat) (h1:1≤wd) (h2:wd≤4096) (hn:n<2 ^ wd) (hhigh:2 ^ (wd - 1)≤n) (w:World) (h:BvV w v wd n):Calls Tryz.prog 41 #[v] w fun e w'=>ResZ9 w w' e ((n:Int)+-((2 ^ wd:Nat):Int)):=by
  obtain ⟨u,xs,rfl,hs,hl,h3,hv⟩:=h
  have hn0:=hn
  rw [← hv] at hn0
  have hbit:=bit_sign h1 hn0
  rw [hv] at hbit
  obtain ⟨ao,cap,rfl⟩:=hs.shape
  obtain ⟨W,eW,g1,g2,bel,hsz⟩:=alloc2 w (Obj.cells #[.int .i64 (wd:Int),.slice ao xs.length cap] 28) (Obj.cells #[.bool false,.slice none 0 0] 61)
  have G1:=Lib.hid g1; have G2:=Lib.hid g2; have BL:=Lib.hid bel
  have hWs:w.heap.size+1<W.heap.size:=hsz
  have UU:Hid (∀ w1,Below W.heap.size W w1→Calls Tryz.prog 40 #[.agg #[.int .i64 (wd:Int),.slice ao xs.length cap]] w1 fun e w'=>ResZ9 w1 w' e (n:Int)):=Lib.hid (fun w1 hw=>by
    have h:=rU_any (wd:Int) _ xs w1 ((hs.below bel).below hw) hl h3
    rw [hv] at h
    exact h)
  have BT:Hid (Calls Tryz.prog 16 #[.agg #[.int .i64 (wd:Int),.slice ao xs.length cap],.int .i64 ((wd:Int) - 1)] W fun e w'=>e=.returned (.bool (decide (2 ^ (wd - 1)≤n)))∧Below W.heap.size W w'):=Lib.hid (by
    have h:=rbit9_any (wd:Int) _ xs (wd - 1) (by omega) W (hs.below bel) hl
    rw [hv,hbit,show ((wd - 1:Nat):Int)=(wd:Int) - 1 by omega] at h
    exact h)
  have e1:wrap64 ((wd:Int) - 1)=(wd:Int) - 1:=IntWalk.wrap64_in _ (by omega)
  obtain ⟨c0,c1,f0,f1,_⟩:=blk2 g1
  rw [decide_eq_true hhigh] at BT
  have PP:Hid (∀ w1,Calls Tryz.prog 38 #[.int .i64 (wd:Int)] w1 fun e w'=>ResZ9 w1 w' e ((2 ^ wd:Nat):Int)):=Lib.hid (fun w1=>rPower_any wd (by omega) w1)
  have hb1:=vec_huge h2 hn; have hb2:=two_huge h2
  have MM:Hid (∀ v w1,ZV w1 v ((2 ^ wd:Nat):Int)→Calls Tryz.prog 42 #[v] w1 fun e w'=>ResZ9 w1 w' e (-((2 ^ wd:Nat):Int))):=Lib.hid (fun v w1 hz=>minus9 v _ w1 hz)
  have LL:Hid (∀ va vb w1,ZV w1 va (n:Int)→ZV w1 vb (-((2 ^ wd:Nat):Int))→Calls Tryz.prog 45 #[va,vb] w1 fun e w'=>ResZ9 w1 w' e ((n:Int)+-((2 ^ wd:Nat):Int))):=Lib.hid (fun va vb w1 hx hy=>plus9 va vb _ _ w1 hx hy hb1 hb2)
  generalize (n:Int)+-((2 ^ wd:Nat):Int)=z at *
  generalize -((2 ^ wd:Nat):Int)=y at *
  generalize ((2 ^ wd:Nat):Int)=p at *
  clear hs hl h3 hv hn hn0 hbit g1 g2 bel hhigh hb1 hb2
  go_enter Tryz.func41,Tryz.ntmps41
  go_wp2_with fail
  try rw [eW]
  refine BT.out.mono ?_
  rintro e X ⟨rfl,hb2⟩
  have BX:=Lib.hid hb2
  have GA:=Lib.hid (car hb2 G1.out)
  have GX2:=Lib.hid (car hb2 G2.out)
  have hWX:=hb2.size
  clear hb2 c0 c1 f0 f1
  go_upto_region 3 with fail
  have STAY:Hid (∀ w',Below X.heap.size X w'→w'.cell? ⟨w.heap.size,0,none⟩=some (.int .i64 (wd:Int))∧w'.cell? ⟨w.heap.size,1,none⟩=some (.slice ao xs.length cap)):=Lib.hid (fun w' hb=>by
    obtain ⟨e0,e1,-,-,_⟩:=blk2 (car hb GA.out)
    exact ⟨e0,e1⟩)
  have STAY2:Hid (∀ w' y0 y1,Below X.heap.size X w'→((w'.setCell ⟨w.heap.size+1,0,none⟩ y0).setCell ⟨w.heap.size+1,1,none⟩ y1).cell? ⟨w.heap.size,0,none⟩=some (.int .i64 (wd:Int))∧((w'.setCell ⟨w.heap.size+1,0,none⟩ y0).setCell ⟨w.heap.size+1,1,none⟩ y1).cell? ⟨w.heap.size,1,none⟩=some (.slice ao xs.length cap)):=Lib.hid (fun w' y0 y1 hb=>by
    obtain ⟨e0,e1,-,-,_⟩:=blk2 (blk_far2 (R:=w.heap.size+1) (y0:=y0) (y1:=y1) (car hb GA.out) (by omega))
    exact ⟨e0,e1⟩)
  have hk0:=Below.refl X.heap.size X
  go_region_held3 (fun w'=>w'.cell? ⟨w.heap.size,0,none⟩=some (.int .i64 (wd:Int))∧w'.cell? ⟨w.heap.size,1,none⟩=some (.slice ao xs.length cap))
    ((first | (refine STAY.out _ ?_; first | exact hk4 | exact hk4.drew | exact hk3 | exact hk3.drew | exact hk2 | exact hk2.drew | exact hk1 | exact hk1.drew | exact hk0 | exact hk0.drew) | exact STAY2.out _ _ _ hk4 | exact STAY2.out _ _ _ hk4.drew))
    (first
    | (have tk:=I3; go_at_call 45; (with_reducible refine Calls.mono (LL.out _ _ _ ?_ ?_) ?_); (first | exact I1.out | exact zv_drew I1.out); (first | exact I3.out | exact zv_drew I3.out); rintro e w4 ⟨n4,a4,k4,c4,rfl,hi4,hb4⟩; have hk4:Below X.heap.size X w4:=(by first | exact below_of hk3 hb4 | exact below_of hk3.drew hb4); have I4:=Lib.hid hi4; have GR:=Lib.hid (car hk4 GX2.out); obtain ⟨q0,q1,r0,r1,_⟩:=blk2 GR.out; have hz4:=hk4.size; clear hi4 hb4)
    | (have tk:=I2; go_at_call 42; (with_reducible refine Calls.mono (MM.out _ _ ?_) ?_); (first | exact I2.out | exact zv_drew I2.out); rintro e w3 ⟨n3,a3,k3,c3,rfl,hi3,hb3⟩; have hk3:Below X.heap.size X w3:=(by first | exact below_of hk2 hb3 | exact below_of hk2.drew hb3); have I3:=Lib.hid hi3; (first | (have I1':=Lib.hid (zv_call hb3 I1.out)) | (have I1':=Lib.hid (zv_call hb3 (zv_drew I1.out)))); clear I1; have I1:=I1'; clear I1' hi3 hb3)
    | (have tk:=I1; go_at_call 38; (with_reducible refine Calls.mono (PP.out _) ?_); rintro e w2 ⟨n2,a2,k2,c2,rfl,hi2,hb2⟩; have hk2:Below X.heap.size X w2:=(by first | exact below_of hk1 hb2 | exact below_of hk1.drew hb2); have I2:=Lib.hid hi2; (first | (have I1':=Lib.hid (zv_call hb2 I1.out)) | (have I1':=Lib.hid (zv_call hb2 (zv_drew I1.out)))); clear I1; have I1:=I1'; clear I1' hi2 hb2)
    | (go_at_call 40; (with_reducible refine Calls.mono (UU.out _ (below_of BX.out (by first | exact hk0 | exact hk0.drew))) ?_); rintro e w1 ⟨n1,a1,k1,c1,rfl,hi1,hb1⟩; have hk1:Below X.heap.size X w1:=(by first | exact below_of hk0 hb1 | exact below_of hk0.drew hb1); have I1:=Lib.hid hi1; clear hi1 hb1))
  all_goals
    go_wp2
    exact bodyPost_ret (results_zt rfl rfl (set2_row _ _ GR.out)) rfl ⟨_,_,_,_,rfl,I4.out.far GR.out,((below_of BL.out (below_of BX.out hk4)).setCell (by show w.heap.size≤w.heap.size+1; omega) _).setCell (by show w.heap.size≤w.heap.size+1; omega) _⟩
theorem rS_any (v:Value) (wd n:Nat) (h1:1≤wd) (h2:wd≤4096) (hn:n<2 ^ wd) (w:World) (h:BvV w v wd n):Calls Tryz.prog 41 #[v] w fun e w'=>ResZ9 w w' e (sgV wd n):=by
  unfold sgV
  by_cases hb:2 ^ (wd - 1)≤n
  · rw [if_pos hb,Int.sub_eq_add_neg]; exact rS_high v wd n h1 h2 hn hb w h
  · rw [if_neg hb]; exact rS_low v wd n h1 h2 hn hb w h
def BoxZ (W wx:World) (z:Int) (s:Value):Prop:=∃ (g:Nat) (n:Bool) (a:Option Addr) (k c:Nat),s=.pointer (some ⟨g,0,none⟩)∧W.heap.size≤g∧wx.heap[g]?=some (.cells #[.bool n,.slice a k c] 61 (0,0))∧ZV wx (.agg #[.bool n,.slice a k c]) z∧Below W.heap.size W wx
def SlN (w:World) (a:Option Addr) (k c n:Nat):Prop:=∃ xs,xs.length=k∧Sl w .u64 (.slice a k c) xs∧Lim B64 xs∧Top xs∧val B64 xs=n
theorem SlN.below {w w':World} {k c n:Nat} {a:Option Addr} (h:SlN w a k c n) (hb:Below w.heap.size w w'):SlN w' a k c n:=by
  obtain ⟨xs,h0,h1,h2⟩:=h; exact ⟨xs,h0,h1.below hb,h2⟩
theorem SlN.far {w:World} {k c n:Nat} {a:Option Addr} {y0 y1:Value} {R:Nat} {T:TypeId} {x:Int} {u:Value} (h:SlN w a k c n) (hR:w.heap[R]?=some (.cells #[.int .i64 x,u] T (0,0))) (hu:∀ z,u≠.int .u64 z):SlN ((w.setCell ⟨R,0,none⟩ y0).setCell ⟨R,1,none⟩ y1) a k c n:=by
  obtain ⟨xs,rfl,h1,h2⟩:=h
  have hne:∀ b off cap,(Value.slice a xs.length c)=.slice (some ⟨b,off,none⟩) xs.length cap→0<xs.length→b≠R:=fun b off cap e hp=>by rw [e] at h1; exact h1.neI hp hR hu
  exact ⟨xs,rfl,(h1.set_far hne).set_far hne,h2⟩
theorem BvK.n {w:World} {wd k c n:Nat} {a:Option Addr} (h:BvK w wd a k c n):SlN w a k c n:=by
  obtain ⟨xs,h0,h1,h2,h3,h4,-⟩:=h; exact ⟨xs,h0,h1,h2,h3,h4⟩
theorem slN_nil (w:World):SlN w none 0 0 0:=⟨[],rfl,sl_nil w _,lim_nil (by have:=B64_pos; omega),rfl,rfl⟩
theorem rE_vec (wd:Nat) (z:Int):rE z ((2 ^ wd:Nat):Int)=((vecN wd z:Nat):Int):=by
  have hp:=two_pos wd
  have h1:=e_again z ((2 ^ wd:Nat):Int)
  obtain ⟨h2,h3⟩:=rE_bounds (a:=z) (b:=((2 ^ wd:Nat):Int)) (by omega)
  rw [vec_cast]
  rw [Int.natAbs_natCast] at h3
  generalize rE z ((2 ^ wd:Nat):Int)=r at *
  generalize qE z ((2 ^ wd:Nat):Int)=q at *
  rw [← h1,Int.add_comm,Int.add_mul_emod_self_right,Int.emod_eq_of_lt h2 h3]
theorem IntK.slN {w:World} {v:Value} {n:Nat} (h:IntK w v (n:Int)):∃ a k c,v=.agg #[.bool false,.slice a k c]∧SlN w a k c n:=by
  obtain ⟨u,rfl,xs,s,l,t,e⟩:=h
  obtain ⟨a,c,rfl⟩:=s.shape
  refine ⟨a,xs.length,c, ?_,xs,rfl,s,l,t,by rw [e,Int.natAbs_natCast]⟩
  have:sgn (n:Int)=false:=by unfold sgn; exact decide_eq_false (by omega)
  rw [this]
theorem field1_int (b:Bool) (ao:Option Addr) (k c:Nat) (W:World):Sem.run Tryz.prog (Instr.field 50 (.agg #[.bool b,.slice ao k c]) 1) W=.ok (.slice ao k c) W:=by kernel_rfl
def ResV (w w':World) (e:Ending) (x:Int) (n:Nat):Prop:=∃ a k c,e=.returned (.agg #[.int .i64 x,.slice a k c])∧SlN w' a k c n∧Below w.heap.size w w'
theorem rMod_any (wd:Nat) (h2:wd≤4096) (v:Value) (z:Int) (w:World) (h:ZV w v z) (hz:z.natAbs<HugeD):Calls Tryz.prog 19 #[.int .i64 (wd:Int),v] w fun e w'=>ResV w w' e (wd:Int) (vecN wd z):=by
  obtain ⟨n0,a0,k0,c0,rfl⟩:=h.shape
  obtain ⟨X,eX,g1,g2,bel,hsz⟩:=alloc2 w (Obj.cells #[.bool n0,.slice a0 k0 c0] 61) (Obj.cells #[.int .i64 0,.slice none 0 0] 28)
  have G1:=Lib.hid g1; have G2:=Lib.hid g2; have BL:=Lib.hid bel
  have hWs:w.heap.size+1<X.heap.size:=hsz
  have HZ:=Lib.hid (h.below bel)
  have hp:=two_pos wd
  have PP:Hid (∀ w1,Below X.heap.size X w1→Calls Tryz.prog 38 #[.int .i64 (wd:Int)] w1 fun e w'=>ResZ9 w1 w' e ((2 ^ wd:Nat):Int)):=Lib.hid (fun w1 _=>rPower_any wd (by omega) w1)
  have EE:Hid (∀ vb w1,Below X.heap.size X w1→ZV w1 vb ((2 ^ wd:Nat):Int)→Calls Tryz.prog 37 #[.agg #[.bool n0,.slice a0 k0 c0],vb] w1 fun e w'=>∃ n a k c m b l d,e=.returned (.tuple #[.agg #[.bool n,.slice a k c],.agg #[.bool m,.slice b l d]])∧ZV w' (.agg #[.bool n,.slice a k c]) (qE z ((2 ^ wd:Nat):Int))∧ZV w' (.agg #[.bool m,.slice b l d]) ((vecN wd z:Nat):Int)∧Below w1.heap.size w1 w'):=Lib.hid (fun vb w1 hw hy=>(euclid_any _ vb z _ w1 (HZ.out.below hw) hy hz (by have:=two_huge h2; rw [Int.natAbs_neg] at this; exact this) (by omega)).mono fun e w' ⟨v1,v2,he,y1,y2,hb⟩=>by
    obtain ⟨n,a,k,c,rfl⟩:=y1.shape
    obtain ⟨m,b,l,d,rfl⟩:=y2.shape
    rw [rE_vec] at y2
    exact ⟨n,a,k,c,m,b,l,d,he,y1,y2,hb⟩)
  have TO:Hid (∀ v w1,ZV w1 v ((vecN wd z:Nat):Int)→Calls Tryz.prog 39 #[v] w1 fun e w'=>∃ a k c,e=.returned (.agg #[.bool false,.slice a k c])∧SlN w' a k c (vecN wd z)∧Below w1.heap.size w1 w'):=Lib.hid (fun v w1 hv=>(to_any2 v _ w1 hv).mono fun e w' ⟨v',he,hk,hb⟩=>by
    obtain ⟨a,k,c,rfl,hs⟩:=hk.slN
    exact ⟨a,k,c,he,hs,hb⟩)
  have hfl:=field1_int
  generalize vecN wd z=m at *
  generalize qE z ((2 ^ wd:Nat):Int)=zq at *
  generalize ((2 ^ wd:Nat):Int)=p at *
  have STAYq:Hid (∀ w',Below X.heap.size X w'→w'.cell? ⟨w.heap.size,0,none⟩=some (.bool n0)∧w'.cell? ⟨w.heap.size,1,none⟩=some (.slice a0 k0 c0)∧Below X.heap.size X w'∧X.heap.size≤w'.heap.size):=Lib.hid (fun w' hb=>by
    obtain ⟨e0,e1,-,-,-⟩:=blk2 (car hb G1.out)
    exact ⟨e0,e1,hb,hb.size⟩)
  have hBq:=(Below.refl X.heap.size X).drew
  clear h g1 g2 bel hz hp
  go_enter Tryz.func19,Tryz.ntmps19
  go_upto_region 1 with fail
  try rw [eX]
  go_cut [6] (fun sa wx=>BoxZ X wx (m:Int) sa)
  case first =>
    go_region_held3 (fun w'=>w'.cell? ⟨w.heap.size,0,none⟩=some (.bool n0)∧w'.cell? ⟨w.heap.size,1,none⟩=some (.slice a0 k0 c0)∧Below X.heap.size X w'∧X.heap.size≤w'.heap.size)
      (((try go_split_ands); refine STAYq.out _ ?_; repeat (first | (with_reducible assumption) | (with_reducible exact Below.refl _ _) | (with_reducible refine Below.drew ?_) | (with_reducible exact below_to (by with_reducible assumption) (by with_reducible assumption)) | ((with_reducible refine Below.alloc ?_ ?_ _); rotate_left; (focus (first | omega | (simp; done) | (simp; omega)))) | ((with_reducible refine Below.setCell ?_ ?_ _); rotate_left; (focus (first | omega | (simp; done) | (simp; omega)))))))
      (first
      | (have tk:=TKq_1; go_at_call 37; go_split_ands; (with_reducible refine Calls.mono (EE.out _ _ (by with_reducible assumption) ?_) ?_); (repeat (first | (with_reducible assumption) | (with_reducible refine zv_alloc ?_) | (with_reducible refine zv_drew ?_))); rintro e wq_2 ⟨n2,a2,k2,c2,m2,b2,l2,d2,rfl,zz1,zz2,hbq_2⟩; have hkq_2:=below_to hbq_2 (by with_reducible assumption); have hzq_2:=hkq_2.size; obtain ⟨hcq_2,hfq_2⟩:=bcell hbq_2; have hyq_2:=hbq_2.size; (try simp only [sz_alloc,sz_set,sz_drew] at hyq_2); (try (have hqq_2:X.heap.size<wq_2.heap.size:=by omega)); (try (have hrq_2:X.heap.size+1<wq_2.heap.size:=by omega)); (try (have hpq_2_1:wq_1.heap.size<wq_2.heap.size:=by omega)); (try (have hsq_2_1:wq_1.heap.size+1<wq_2.heap.size:=by omega)); have TKq_2:True:=trivial)
      | (go_at_call 38; go_split_ands; (with_reducible refine Calls.mono (PP.out _ (by with_reducible assumption)) ?_); rintro e wq_1 ⟨n1,a1,k1,c1,rfl,zi1,hbq_1⟩; have hkq_1:=below_to hbq_1 (by with_reducible assumption); have hzq_1:=hkq_1.size; obtain ⟨hcq_1,hfq_1⟩:=bcell hbq_1; have hyq_1:=hbq_1.size; (try simp only [sz_alloc,sz_set,sz_drew] at hyq_1); (try (have hqq_1:X.heap.size<wq_1.heap.size:=by omega)); (try (have hrq_1:X.heap.size+1<wq_1.heap.size:=by omega)); have TKq_1:True:=trivial))
    all_goals
      (go_wp2_with fail
       go_meet
       clear hcq_1 hfq_1 hcq_2 hfq_2
       refine ⟨_,m2,b2,l2,d2,rfl, ?_, ?_, ?_, ?_⟩)
    all_goals
      repeat (first | (with_reducible assumption) | ((with_reducible refine nblk_new ?_); (first | omega | (simp only [sz_alloc,sz_set,sz_drew]; omega) | (focus (simp only [sz_alloc,sz_set,sz_drew]; done)))) | ((with_reducible refine nblk_lt ?_ ?_); (first | omega | (simp only [sz_alloc,sz_set,sz_drew]; omega) | (focus (simp only [sz_alloc,sz_set,sz_drew]; done)))) | (with_reducible refine nblk_own ?_) | ((with_reducible refine nblk_two ?_ ?_); (first | omega | (simp only [sz_alloc,sz_set,sz_drew]; omega) | (focus (simp only [sz_alloc,sz_set,sz_drew]; done)))) | (with_reducible refine nblk_drew ?_) | (with_reducible refine nblk_call hbq_2 ?_) | (with_reducible refine nblk_call hbq_1 ?_) | (with_reducible refine zv_alloc ?_) | (with_reducible refine zv_drew ?_) | (with_reducible refine zv_set ?_ ?_) | (with_reducible refine zv_call hbq_2 ?_) | (with_reducible refine zv_call hbq_1 ?_) | (with_reducible exact Below.refl _ _) | (with_reducible refine Below.drew ?_) | ((with_reducible refine Below.alloc ?_ ?_ _); rotate_left; (focus (first | omega | (simp; done) | (simp; omega)))) | ((with_reducible refine Below.setCell ?_ ?_ _); rotate_left; (focus (first | omega | (simp; done) | (simp; omega)))) | (with_reducible refine bel_call hbq_2 ?_) | (with_reducible refine bel_call hbq_1 ?_) | (first | omega | (simp only [sz_alloc,sz_set,sz_drew]; omega) | (focus (simp only [sz_alloc,sz_set,sz_drew]; done))))
  case rest =>
    obtain ⟨g,ng,ag,kg,cg,rfl,hg,hG,hI,hb⟩:=hcut
    generalize wc=Y at *
    have TT:=Lib.hid (TO.out _ Y hI)
    have BY:=Lib.hid (below_of BL.out hb)
    have GY:=Lib.hid (car hb G2.out)
    obtain ⟨e0,e1,-,-,_⟩:=blk2 hG
    clear hG hI hb STAYq hBq
    go_wp2_with fail
    refine TT.out.mono ?_
    rintro e w3 ⟨a3,k3,c3,rfl,hs,hb⟩
    have B3:=Lib.hid (below_of BY.out hb)
    have GR:=Lib.hid (car hb GY.out)
    have HS:=Lib.hid hs
    obtain ⟨q0,q1,r0,r1,_⟩:=blk2 GR.out
    clear hs hb e0 e1
    go_wp2
    exact bodyPost_ret (results_bt rfl rfl (set2_row _ _ GR.out)) rfl ⟨_,_,_,rfl,HS.out.far GR.out (fun z e=>by cases e),(B3.out.setCell (by show w.heap.size≤w.heap.size+1; omega) _).setCell (by show w.heap.size≤w.heap.size+1; omega) _⟩
end Go.Proofs.YtacbkpenohcgjaaGreat
