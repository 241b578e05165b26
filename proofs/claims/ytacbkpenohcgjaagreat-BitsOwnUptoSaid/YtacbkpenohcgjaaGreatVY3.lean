import Derived.Test.YtacbkpenohcgjaaGreatVMA
import Derived.Test.YtacbkpenohcgjaaGreatVY2
set_option linter.unusedVariables false
set_option linter.unusedSimpArgs false
set_option maxHeartbeats 4000000
set_option maxRecDepth 100000
namespace Go.Proofs.YtacbkpenohcgjaaGreat.Mth
theorem getD_zero_of_lt {B:Nat} {xs:List Nat} {n j:Nat} (hB:0<B) (h:val B xs<B ^ n) (hj:n≤j):xs.getD j 0=0:=by
  rcases Nat.eq_zero_or_pos (xs.getD j 0) with h0 | h0
  · exact h0
  · have h1:=val_ge (B:=B) (xs:=xs) (n:=j) (by omega)
    have h2:B ^ n≤B ^ j:=Nat.pow_le_pow_right hB hj
    omega
theorem prodT_empty {R xs ys:List Nat} {i j:Nat} (hP:ProdT R xs ys i) (lx:Lim B16 xs) (ly:Lim B16 ys) (hi:i<xs.length) (hj:i+ys.length≤j):R.getD j 0=0:=by
  have h1:val B16 (xs.take i)<B16 ^ i:=val_take_lt (by unfold B16; omega) lx i (by omega)
  have h2:val B16 ys<B16 ^ ys.length:=val_lt ly
  refine getD_zero_of_lt (B:=B16) (n:=i+ys.length) (by unfold B16; omega) ?_ hj
  rw [hP.eq,Nat.pow_add]
  exact Nat.mul_lt_mul'' h1 h2
structure RowU (R R' ys:List Nat) (x i j c:Nat):Prop where
  row:RowT R R' ys x i j c
  far:∀ m,i+j≤m→R'.getD m 0=R.getD m 0
theorem rowU_zero {R:List Nat} (ys:List Nat) (x i:Nat) (h:Lim B16 R):RowU R R ys x i 0 0:=⟨rowT_zero ys x i h,fun _ _=>rfl⟩
theorem rowU_step {R R' ys:List Nat} {x i j c:Nat} (h:RowU R R' ys x i j c) (hx:x<B16) (ly:Lim B16 ys) (hij:i+j<R.length) :
    RowU R (R'.set (i+j) (mhS (R'.getD (i+j) 0) x (ys.getD j 0) c)) ys x i (j+1) (mhC (R'.getD (i+j) 0) x (ys.getD j 0) c):=by
  refine ⟨rowT_step h.row hx ly hij,fun m hm=>?_⟩
  rw [getD_set' _ _ _ _ (by rw [h.row.len]; exact hij),if_neg (by omega)]
  exact h.far m (by omega)
theorem rowU_end {R R' xs ys:List Nat} {i c:Nat} (hP:ProdT R xs ys i) (h:RowU R R' ys (xs.getD i 0) i ys.length c) (lx:Lim B16 xs) (ly:Lim B16 ys) (hi:i<xs.length):ProdT (R'.set (i+ys.length) c) xs ys (i+1):=by
  have hl:=h.row.len
  have hpl:=hP.len
  have h0:R'.getD (i+ys.length) 0=0:=by rw [h.far _ (Nat.le_refl _)]; exact prodT_empty hP lx ly hi (Nat.le_refl _)
  refine ⟨by rw [List.length_set,hl,hpl],lim_set h.row.lim h.row.clt _, ?_⟩
  have e1:=val_set B16 R' (i+ys.length) (by omega) c
  have e2:=h.row.eq
  rw [h0,Nat.mul_zero,Nat.add_zero] at e1
  rw [List.take_length,hP.eq] at e2
  rw [val_take_succ' B16 xs i,Nat.add_mul,Nat.mul_assoc,e1,e2]
structure TdT (xs os:List Nat) (n k c:Nat):Prop where
  len:os.length=k
  lim:Lim B16 os
  clt:c<B16
  eq:val B16 os+B16 ^ k*c=val B16 (xs.take k)*n
def tdS (x n c:Nat):Nat:=(c+x*n) % 65536
def tdC (x n c:Nat):Nat:=(c+x*n) / 65536
theorem td_le {x n c:Nat} (hx:x<B16) (hn:n<B16) (hc:c<B16):c+x*n≤4294967295:=by
  unfold B16 at *
  have:x*n≤65535*65535:=Nat.mul_le_mul (by omega) (by omega)
  omega
theorem tdT_zero (xs:List Nat) (n:Nat):TdT xs [] n 0 0:=⟨rfl,lim_nil (by unfold B16; omega),by unfold B16; omega,by simp [val]⟩
theorem tdT_step {xs os:List Nat} {n k c:Nat} (h:TdT xs os n k c) (lx:Lim B16 xs) (hn:n<B16):TdT xs (os++[tdS (xs.getD k 0) n c]) n (k+1) (tdC (xs.getD k 0) n c):=by
  have hx:=lx k
  have hc:=h.clt
  have hle:=td_le hx hn hc
  refine ⟨by rw [List.length_append,h.len]; rfl,lim_snoc h.lim (by unfold tdS B16; omega),by unfold tdC B16; omega, ?_⟩
  rw [val_snoc,h.len,val_take_succ' B16 xs k]
  have e:=h.eq
  generalize xs.getD k 0=x at *
  have e4:tdS x n c+B16*tdC x n c=c+x*n:=by unfold tdS tdC B16; omega
  have e5:B16 ^ k*tdS x n c+B16 ^ k*(B16*tdC x n c)=B16 ^ k*c+B16 ^ k*(x*n):=by rw [← Nat.mul_add,e4,Nat.mul_add]
  have e6:B16 ^ (k+1)*tdC x n c=B16 ^ k*(B16*tdC x n c):=by rw [Nat.pow_succ,Nat.mul_assoc]
  rw [e6,Nat.add_mul,Nat.mul_assoc]
  omega
theorem tdT_end {xs os:List Nat} {n c:Nat} (h:TdT xs os n xs.length c):val B16 (os++[c])=val B16 xs*n∧Lim B16 (os++[c]):=by
  have e:=h.eq
  rw [List.take_length] at e
  exact ⟨by rw [val_snoc,h.len]; exact e,lim_snoc h.lim h.clt⟩
theorem dig_start {A D:Nat} (h:A<D*65536):D*0≤A∧A<D*(65535+1):=⟨by omega,by omega⟩
theorem dig_end {A D q:Nat} (h1:D*q≤A) (h2:A<D*(q+1)):q=A / D∧A - D*q=A % D:=by
  have hD:0<D:=by
    rcases Nat.eq_zero_or_pos D with h | h
    · subst h; omega
    · exact h
  have e:q=A / D:=by
    refine (Nat.div_eq_of_lt_le ?_ ?_).symm
    · rw [Nat.mul_comm]; exact h1
    · rw [Nat.mul_comm]; exact h2
  subst e
  have:=Nat.div_add_mod A D
  exact ⟨rfl,by omega⟩
structure DvT (xs Q:List Nat) (D k r:Nat):Prop where
  len:Q.length=xs.length
  lim:Lim B16 Q
  eq:val B16 (xs.drop k)=val B16 (Q.drop k)*D+r
  lt:r<D
theorem dvT_zero {xs:List Nat} {D:Nat} (hD:0<D):DvT xs (List.replicate xs.length 0) D xs.length 0 :=
  ⟨by simp,fun j=>by rw [getD_replicate]; unfold B16; omega,by simp [val],hD⟩
theorem dvT_room {xs Q:List Nat} {D k r:Nat} (h:DvT xs Q D (k+1) r) (lx:Lim B16 xs):xs.getD k 0+B16*r<D*65536:=by
  have hx:=lx k
  have hr:=h.lt
  have h1:B16*(r+1)≤B16*D:=Nat.mul_le_mul_left _ hr
  unfold B16 at *
  omega
theorem dvT_step {xs Q:List Nat} {D k r:Nat} (h:DvT xs Q D (k+1) r) (lx:Lim B16 xs) (hk:k<xs.length) :
    DvT xs (Q.set k ((xs.getD k 0+B16*r) / D)) D k ((xs.getD k 0+B16*r) % D):=by
  have hroom:=dvT_room h lx
  have hD:0<D:=by have:=h.lt; omega
  have hql:=h.len
  have hq:(xs.getD k 0+B16*r) / D<B16:=by rw [Nat.div_lt_iff_lt_mul hD,Nat.mul_comm B16 D]; exact hroom
  refine ⟨by rw [List.length_set,hql],lim_set h.lim hq _, ?_,Nat.mod_lt _ hD⟩
  have e:=h.eq
  rw [val_drop B16 xs k hk,val_drop B16 (Q.set k _) k (by rw [List.length_set]; omega),getD_set' _ _ _ _ (by omega),if_pos rfl]
  have e2:(Q.set k ((xs.getD k 0+B16*r) / D)).drop (k+1)=Q.drop (k+1):=by
    rw [List.drop_set_of_lt (by omega)]
  rw [e2,e]
  generalize val B16 (Q.drop (k+1))=V at *
  generalize xs.getD k 0=x at *
  have e3:=Nat.div_add_mod (x+B16*r) D
  generalize (x+B16*r) / D=q at *
  generalize (x+B16*r) % D=m at *
  rw [Nat.add_mul,Nat.mul_add,← Nat.mul_assoc]
  rw [Nat.mul_comm D q] at e3
  omega
theorem dvT_end {xs Q:List Nat} {D r:Nat} (h:DvT xs Q D 0 r):val B16 Q=val B16 xs / D∧r=val B16 xs % D:=by
  have hD:0<D:=by have:=h.lt; omega
  have e:=h.eq
  have hlt:=h.lt
  simp only [List.drop_zero] at e
  rw [e]
  constructor
  · rw [Nat.mul_comm,Nat.mul_add_div hD,Nat.div_eq_of_lt hlt,Nat.add_zero]
  · rw [Nat.mul_comm,Nat.mul_add_mod,Nat.mod_eq_of_lt hlt]
end Go.Proofs.YtacbkpenohcgjaaGreat.Mth
namespace Go.Proofs.YtacbkpenohcgjaaGreat
open Go.RowKit Mth
theorem make_dig {w:World} {ops:Array Oper} {rest:List Oper} {o:Oper} {a:Act} {Q:Exit→Act→World→Prop}
    (hg:o.guard=none) (l c:Operand) (hop:o.op=Op.makeSlice 59 l c) (L C:Int) (n:Nat) (hl:a.eval l=.int .i64 L) (hc:a.eval c=.int .i64 C) (hL:L=(n:Int)) (hC:C=(n:Int))
    (hn:n≤16777217)
    (hK:∀ w',Row w' 104 .u16 w.heap.size (List.replicate n 0)→Below w.heap.size w w'→wpList Tryz.prog ops Q rest (a.put o.dst (.slice (some ⟨w.heap.size,0,none⟩) n n)) w') :
    wpList Tryz.prog ops Q (o :: rest) a w:=by
  obtain ⟨i0,hi,hz0,hz1,hz2⟩:=info_parts info_u16
  refine wpList_make_full w hg l c 59 hop w.heap.size 104 i0 _ 1 Tryz.underlying59 hi hz0 hz1 .i64 .i64 L C n hl hc hL hC (by rw [hz2]; omega) (by unfold maxLen; omega) (Nat.le_refl _) ?_
  intro w' hown hgrow
  rw [zeros_own] at hown
  exact hK w' (row_of_own hown).1 ((Below.refl _ _).grown hgrow (Nat.le_refl _) (fun k e=>by simp at e))
theorem grown_drawn {a w:World} {row:Option Nat} (h:a.grownBy w row) (n:Nat):a.grownBy (w.drewN n) row:=grown_trans' h ⟨rfl,rfl,rfl,Nat.le_refl _,fun _ _ _=>rfl⟩
theorem times_sg (x y:Int):sg (!(sgn x == sgn y)) (x.natAbs*y.natAbs)=x*y:=by
  have hx:=sg_sgn x
  have hy:=sg_sgn y
  generalize x.natAbs=m at *
  generalize y.natAbs=n at *
  generalize sgn x=b at *
  generalize sgn y=c at *
  subst hx hy
  cases b<;>cases c<;>simp [sg,Int.neg_mul,Int.mul_neg]
def TimO (w1 wr:World) (g:Nat) (xs ys:List Nat) (i:Value):Prop:=∃ (k:Nat) (R:List Nat),k≤xs.length∧i=.int .i64 k∧ProdT R xs ys k∧Row wr 104 .u16 g R∧w1.grownBy wr (some g)
def TimI (w1 wr:World) (g:Nat) (R ys:List Nat) (x i:Nat) (c j:Value):Prop:=∃ (k cc:Nat) (R':List Nat),j=.int .i64 k∧c=.int .u32 (cc:Int)∧k≤ys.length∧RowU R R' ys x i k cc∧Row wr 104 .u16 g R'∧w1.grownBy wr (some g)
theorem times_any2 (va vb:Value) (x y:Int) (w:World) (ha:ZV w va x) (hb:ZV w vb y) (p q:Nat) (hx:x.natAbs<B16 ^ p) (hy:y.natAbs<B16 ^ q) (hpq:p+q≤16777216) :
    Calls Tryz.prog 46 #[va,vb] w fun e w'=>∃ v',e=.returned v'∧ZV w' v' (x*y)∧Below w.heap.size w w':=by
  obtain ⟨n1,a1,k1,c1,rfl⟩:=ha.shape
  obtain ⟨n2,a2,k2,c2,rfl⟩:=hb.shape
  obtain ⟨rfl,xs,s1,l1,t1,e1,rfl⟩:=ha.parts
  obtain ⟨rfl,ys,s2,l2,t2,e2,rfl⟩:=hb.parts
  rw [← e1] at hx; rw [← e2] at hy
  have hxl:=length_of_val B16_pos t1 p hx
  have hyl:=length_of_val B16_pos t2 q hy
  have hlen:xs.length+ys.length≤16777216:=by omega
  have FIN:Hid (∀ R,ProdT R xs ys xs.length→sg (!(sgn x == sgn y)) (val B16 R)=x*y):=Lib.hid (fun R h=>by rw [prodT_end h,e1,e2]; exact times_sg x y)
  have hc1:c1≤9223372036854775807:=by obtain ⟨_,_,e,_,h,_⟩:=s1; simp only [Value.slice.injEq] at e; unfold maxLen at h; omega
  have hc2:c2≤9223372036854775807:=by obtain ⟨_,_,e,_,h,_⟩:=s2; simp only [Value.slice.injEq] at e; unfold maxLen at h; omega
  have S1:=Lib.hid s1; have S2:=Lib.hid s2; have L1:=Lib.hid l1; have L2:=Lib.hid l2
  clear ha hb s1 s2 l1 l2 t1 t2 hx hy e1 e2 hpq hxl hyl
  obtain ⟨L,hL⟩:∃ L,L=xs.length+ys.length:=⟨_,rfl⟩
  have HL:=Lib.hid hL
  have hxl2:xs.length≤16777216:=by omega
  have hyl2:ys.length≤16777216:=by omega
  rw [← hL] at hlen
  clear hL
  generalize sgn x=bx at *
  generalize sgn y=by' at *
  go_enter Tryz.func46,Tryz.ntmps46
  go_wp2_with (at_make; (obtain ⟨W,eW,h1,h2,h3,bel,hsz⟩:=alloc3 w (Obj.cells #[Value.bool bx,Value.slice a1 xs.length c1] 61) (Obj.cells #[Value.bool by',Value.slice a2 ys.length c2] 61) (Obj.cells #[Value.bool false,Value.slice none 0 0] 61)); rw [eW]; refine make_dig rfl _ _ rfl _ _ L rfl rfl (by have:=HL.out; omega) (by have:=HL.out; omega) (by omega) ?_; intro w1 hrow hb1; have H1:=Lib.hid h1; have H2:=Lib.hid h2; have H3:=Lib.hid h3; have HSZ:=Lib.hid hsz; have BEL:=Lib.hid bel; have HROW0:=Lib.hid hrow; have HB0:=Lib.hid hb1; clear eW bel h1 h2 h3 hsz hrow hb1)
  have bel:=BEL.out
  have hrow:=HROW0.out; have hb1:=HB0.out
  have XC0:Hid (∀ k,k<xs.length→∃ b off,a1=some ⟨b,off,none⟩∧b<W.heap.size∧W.cell? ⟨b,off+k,none⟩=some (.int .u16 ((xs.getD k 0:Nat):Int))):=Lib.hid (fun k h=>by
    obtain ⟨b,off,cap,e,_,_,hlt,hc⟩:=(S1.out.below bel).pos (by omega)
    simp only [Value.slice.injEq] at e
    exact ⟨b,off,e.1,hlt,hc k h⟩)
  have YC0:Hid (∀ k,k<ys.length→∃ b off,a2=some ⟨b,off,none⟩∧b<W.heap.size∧W.cell? ⟨b,off+k,none⟩=some (.int .u16 ((ys.getD k 0:Nat):Int))):=Lib.hid (fun k h=>by
    obtain ⟨b,off,cap,e,_,_,hlt,hc⟩:=(S2.out.below bel).pos (by omega)
    simp only [Value.slice.injEq] at e
    exact ⟨b,off,e.1,hlt,hc k h⟩)
  clear bel HROW0 HB0
  rw [HL.out] at hrow
  obtain ⟨g,hg⟩:∃ g,W.heap.size=g:=⟨_,rfl⟩
  rw [hg] at hrow hb1
  have HG:=Lib.hid hg
  have BOX:Hid (∀ wr,w1.grownBy wr (some g)→wr.heap[w.heap.size]?=some (.cells #[.bool bx,.slice a1 xs.length c1] 61 (0,0))∧wr.heap[w.heap.size+1]?=some (.cells #[.bool by',.slice a2 ys.length c2] 61 (0,0))∧wr.heap[w.heap.size+2]?=some (.cells #[.bool false,.slice none 0 0] 61 (0,0))∧Below w.heap.size w wr):=Lib.hid (fun wr h=>by
    have hs:=HSZ.out
    have hle:=hb1.size
    have hbw:Below w.heap.size w w1:=BEL.out.trans (hb1.mono (by omega))
    refine ⟨(h.block _ (by omega) (by simp; omega)).trans ((hb1.block _ (by omega)).trans H1.out),(h.block _ (by omega) (by simp; omega)).trans ((hb1.block _ (by omega)).trans H2.out),(h.block _ (by omega) (by simp; omega)).trans ((hb1.block _ (by omega)).trans H3.out),below_of_grown hbw h (by omega) (by omega)⟩)
  have XC:Hid (∀ wr,w1.grownBy wr (some g)→∀ k,k<xs.length→∃ b off,a1=some ⟨b,off,none⟩∧wr.cell? ⟨b,off+k,none⟩=some (.int .u16 ((xs.getD k 0:Nat):Int))):=Lib.hid (fun wr h k hk=>by
    obtain ⟨b,off,e,hlt,hc⟩:=XC0.out k hk
    exact ⟨b,off,e,h.cell ((hb1.cell (p:=⟨b,off+k,none⟩) (by show b<g; omega)).trans hc) (by simp; omega)⟩)
  have YC:Hid (∀ wr,w1.grownBy wr (some g)→∀ k,k<ys.length→∃ b off,a2=some ⟨b,off,none⟩∧wr.cell? ⟨b,off+k,none⟩=some (.int .u16 ((ys.getD k 0:Nat):Int))):=Lib.hid (fun wr h k hk=>by
    obtain ⟨b,off,e,hlt,hc⟩:=YC0.out k hk
    exact ⟨b,off,e,h.cell ((hb1.cell (p:=⟨b,off+k,none⟩) (by show b<g; omega)).trans hc) (by simp; omega)⟩)
  rw [hg]
  have HROW:=Lib.hid hrow
  clear XC0 YC0 H1 H2 H3 hg hrow hb1
  go_wp2_with fail
  go_loopw [6] (fun i wr=>TimO w1 wr g xs ys i) (fun i _=>xs.length - (intOf i).toNat)
  case atStart=>exact ⟨0,_,Nat.zero_le _,rfl,prodT_zero xs ys,HROW.out,World.grownBy.refl _ _⟩
  case round =>
    obtain ⟨k,R,hk,rfl,hP,hrow,hgr⟩:=hrel
    have HP:=Lib.hid hP; have HR:=Lib.hid hrow; have HGR:=Lib.hid hgr
    obtain ⟨g1,g2,g3,hbw⟩:=BOX.out _ hgr
    obtain ⟨p0,p1,_,_,_⟩:=blk2 g1
    obtain ⟨q0,q1,_,_,_⟩:=blk2 g2
    by_cases hlt:k<xs.length
    · obtain ⟨b,off,rfl,_⟩:=XC.out _ hgr k hlt
      have hRl:=hP.len
      rw [← HL.out] at hRl
      have HX:=Lib.hid (L1.out k)
      have HC:Hid (∀ wr,w1.grownBy wr (some g)→wr.cell? ⟨b,off+k,none⟩=some (.int .u16 ((xs.getD k 0:Nat):Int))):=Lib.hid (fun wr h=>by
        obtain ⟨b',off',e,hc⟩:=XC.out _ h k hlt
        simp only [Option.some.injEq,Addr.mk.injEq,and_true] at e
        obtain ⟨rfl,rfl⟩:=e
        exact hc)
      have END:Hid (∀ R' c,RowU R R' ys (xs.getD k 0) k ys.length c→ProdT (R'.set (k+ys.length) c) xs ys (k+1)):=Lib.hid (fun R' c h=>rowU_end hP h L1.out L2.out hlt)
      have START:=Lib.hid (rowU_zero ys (xs.getD k 0) k hP.lim)
      have hkL:k+ys.length<L:=by have:=HL.out; omega
      generalize xs.getD k 0=x at *
      have HRL:=Lib.hid hRl
      clear g1 g2 g3 hbw hRl hP hrow hgr
      obtain ⟨wo,rfl⟩:∃ wo:World,wo=wr:=⟨_,rfl⟩
      go_wp2
      go_loopw [7,8] (fun c j wr=>TimI w1 wr g R ys x k c j) (fun _ j _=>ys.length - (intOf j).toNat)
      case atStart=>exact ⟨0,0,R,rfl,rfl,Nat.zero_le _,START.out,HR.out,HGR.out⟩
      case round =>
        obtain ⟨j,c,R',rfl,rfl,hjb,hU,hrow,hgr⟩:=hrel
        clear p0 p1 q0 q1
        obtain ⟨g1,g2,g3,hbw⟩:=BOX.out _ hgr
        obtain ⟨p0,p1,_,_,_⟩:=blk2 g1
        obtain ⟨q0,q1,_,_,_⟩:=blk2 g2
        have HU:=Lib.hid hU
        have HRW:=Lib.hid hrow; have HGW:=Lib.hid hgr
        by_cases hj:j<ys.length
        · obtain ⟨b2,off2,rfl,cy⟩:=YC.out _ hgr j hj
          have cx:=HC.out _ hgr
          have co:wr.cell? ⟨g,k+j,none⟩=some (.int .u16 ((R'.getD (k+j) 0:Nat):Int)):=hrow.cell (by rw [hU.row.len,HRL.out]; omega)
          have HST:=Lib.hid (rowU_step hU HX.out L2.out (by rw [HRL.out]; omega))
          have hxb:=HX.out
          have hob:=hU.row.lim (k+j)
          have hyb:=L2.out j
          have hcb:=hU.row.clt
          have hle:=mh_le hob hxb hyb hcb
          generalize ys.getD j 0=y at *
          generalize R'.getD (k+j) 0=o at *
          unfold B16 at hxb hob hyb hcb
          have hin:k+j<L:=by omega
          have hsum:IntKind.i64.wrap ((k:Int)+(j:Int))=((k+j:Nat):Int):=by rw [IntKind.wrap_i64]; omega
          generalize hz:k+j=z at *
          have HZ:=Lib.hid hz; clear hz
          have w1':IntKind.u32.wrap ((x:Int)*(y:Int))=((x*y:Nat):Int):=by rw [← Int.natCast_mul,IntKind.wrap_u32]; omega
          have w2':IntKind.u32.wrap ((c:Int)+(o:Int))=((c+o:Nat):Int):=by rw [IntKind.wrap_u32]; omega
          have w3':IntKind.u32.wrap (((c+o:Nat):Int)+((x*y:Nat):Int))=((c+o+x*y:Nat):Int):=by rw [IntKind.wrap_u32]; omega
          have w4':IntKind.u32.wrap (o:Int)=(o:Int):=by rw [IntKind.wrap_u32]; omega
          have w5':IntKind.u32.wrap (x:Int)=(x:Int):=by rw [IntKind.wrap_u32]; omega
          have w6':IntKind.u32.wrap (y:Int)=(y:Int):=by rw [IntKind.wrap_u32]; omega
          have hmS:mhS o x y c=(c+o+x*y) % 65536:=by unfold mhS; omega
          have hmC:mhC o x y c=(c+o+x*y) / 65536:=by unfold mhC; omega
          have hle':c+o+x*y≤4294967295:=by omega
          generalize c+o+x*y=sm at *
          generalize c+o=om at *
          generalize x*y=xy at *
          have hfr0:wr.frozen? ⟨g,z,none⟩=false:=HRW.out.free _
          have hst:IntKind.u16.wrap (sm:Int)=((mhS o x y c:Nat):Int):=by rw [IntKind.wrap_u16]; omega
          have hst2:(sm:Int) % 65536=((mhS o x y c:Nat):Int):=by omega
          have HCAR:Hid ((sm:Int) / 65536=((mhC o x y c:Nat):Int)):=Lib.hid (by omega)
          clear hmS hmC hU hrow hgr g1 g2 g3 hbw
          go_wp2
          go_quiet (fail)
          go_wp2
          go_roundw
          case rel =>
            refine ⟨j+1,mhC o x y c,_,by go_num,by rw [HCAR.out],by omega,HST.out,((row_drawn HRW.out _).set z (mhS o x y c)).1,grown_trans' (grown_drawn HGW.out _) ((row_drawn HRW.out _).set z (mhS o x y c)).2⟩
          case measure=>simp [intOf]; omega
        · obtain rfl:j=ys.length:=by omega
          have hcb:=hU.row.clt
          unfold B16 at hcb
          have HE:=Lib.hid (END.out _ _ hU)
          have hsum:IntKind.i64.wrap ((k:Int)+(ys.length:Int))=((k+ys.length:Nat):Int):=by rw [IntKind.wrap_i64]; omega
          generalize hz:k+ys.length=z at *
          have HZ:=Lib.hid hz; clear hz
          have hst:IntKind.u16.wrap (c:Int)=(c:Int):=by rw [IntKind.wrap_u16]; omega
          have hfr0:wr.frozen? ⟨g,z,none⟩=false:=HRW.out.free _
          have hcl:∃ v,wr.cell? ⟨g,z,none⟩=some v:=⟨_,hrow.cell (by rw [hU.row.len,HRL.out]; omega)⟩
          obtain ⟨vz,hvz⟩:=hcl
          clear hU hrow hgr g1 g2 g3 hbw
          go_wp2
          go_roundw
          case rel=>exact ⟨k+1,_,by omega,by go_num,HE.out,(HRW.out.set z c).1,grown_trans' HGW.out (HRW.out.set z c).2⟩
          case measure=>simp [intOf]; omega
    · obtain rfl:k=xs.length:=by omega
      have HF:=Lib.hid (FIN.out R hP)
      have hsl:=hrow.sl_all (by rw [hP.len,← HL.out]; omega)
      rw [hP.len,← HL.out] at hsl
      have HB:=Lib.hid hbw; have G3:=Lib.hid g3
      have HLM:=Lib.hid hP.lim; have HSL:=Lib.hid hsl
      clear g1 g2 g3 hbw hP hrow hgr hsl
      go_wp2_with fail
      refine (make_any _ _ R wr HSL.out HLM.out).mono ?_
      rintro e w4 ⟨v4,rfl,hz,hb4⟩
      rw [HF.out] at hz
      obtain ⟨n4,a4,l4,c4,rfl⟩:=hz.shape
      have hR:=(hb4.block _ (Array.getElem?_eq_some_iff.1 G3.out).1).trans G3.out
      obtain ⟨k0,k1,f0,f1,_⟩:=blk2 hR
      have HZ:=Lib.hid ((hz.below hb4).far (y0:=.bool n4) (y1:=.slice a4 l4 c4) hR)
      have HB4:=Lib.hid (below_of HB.out hb4)
      clear hz hb4 hR
      go_wp2
      refine bodyPost_ret (v:=.agg #[.bool n4,.slice a4 l4 c4]) ?_ rfl ⟨_,rfl,HZ.out,(HB4.out.setCell (p:=⟨w.heap.size+2,0,none⟩) (by simp) _).setCell (p:=⟨w.heap.size+2,1,none⟩) (by simp) _⟩
      simp [results,Tryz.results46,go_sem, *]
end Go.Proofs.YtacbkpenohcgjaaGreat
namespace Go.Proofs.YtacbkpenohcgjaaGreat
open Go.RowKit Mth
end Go.Proofs.YtacbkpenohcgjaaGreat
