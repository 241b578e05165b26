import Derived.Test.YtacbkpenohcgjaaGreatVNT9
import Derived.Test.YtacbkpenohcgjaaGreatVN2
import Derived.Test.YtacbkpenohcgjaaGreatVN4
set_option linter.unusedVariables false
set_option linter.unusedSimpArgs false
set_option maxHeartbeats 16000000
set_option maxRecDepth 100000
namespace Go.Proofs.YtacbkpenohcgjaaGreat
open Go.RowKit Mth
theorem limbAt_any (v:Value) (xs:List Nat) (i:Nat) (hi:i≤1048576) (w:World) (h:Sl w .u64 v xs):Calls Tryz.prog 150 #[v,.int .i64 (i:Int)] w fun e w'=>e=.returned (.int .u64 ((xs.getD i 0:Nat):Int))∧Below w.heap.size w w':=by
  obtain ⟨ao,cap,rfl,k1,k2,k3,k4,k5⟩:=h
  unfold maxLen at k2
  by_cases hlt:i<xs.length
  · obtain ⟨b,off,rfl,hb,hc⟩:=k5 (by omega)
    have hcq:=hc i hlt
    generalize xs.getD i 0=x at *
    clear hc k4 k5
    go_enter Tryz.func150,Tryz.ntmps150
    go_wp2
    go_ret
    exact ⟨rfl,Below.refl _ _⟩
  · have E:xs.getD i 0=0:=by rw [List.getD_eq_getElem?_getD,List.getElem?_eq_none (by omega)]; rfl
    generalize xs.getD i 0=x at *
    subst E
    have hd2:¬ (i:Int)<(xs.length:Int):=by omega
    clear k4 k5 hlt
    go_enter Tryz.func150,Tryz.ntmps150
    go_wp2
    go_ret
    exact ⟨rfl,Below.refl _ _⟩
theorem and1_any (u v:Nat) (hu:u<B64) (hv:v<B64) (w:World):Calls Tryz.prog 110 #[.int .u64 (u:Int),.int .u64 (v:Int)] w fun e w'=>e=.returned (.int .u64 ((u &&& v:Nat):Int))∧w'=w:=by
  unfold B64 at hu hv
  have h1:=u64_and_nat u v hu hv
  have hl:u &&& v<18446744073709551616:=Nat.and_lt_two_pow (n:=64) u (by omega)
  generalize u &&& v=y at *
  clear hu hv hl
  go_enter Tryz.func110,Tryz.ntmps110
  go_wp2
  go_ret
  exact ⟨rfl,rfl⟩
theorem or1_any (u v:Nat) (hu:u<B64) (hv:v<B64) (w:World):Calls Tryz.prog 111 #[.int .u64 (u:Int),.int .u64 (v:Int)] w fun e w'=>e=.returned (.int .u64 ((u ||| v:Nat):Int))∧w'=w:=by
  unfold B64 at hu hv
  have h1:=u64_or_nat u v hu hv
  have hl:u ||| v<18446744073709551616:=Nat.or_lt_two_pow (n:=64) (by omega) (by omega)
  generalize u ||| v=y at *
  clear hu hv hl
  go_enter Tryz.func111,Tryz.ntmps111
  go_wp2
  go_ret
  exact ⟨rfl,rfl⟩
theorem xor1_any (u v:Nat) (hu:u<B64) (hv:v<B64) (w:World):Calls Tryz.prog 112 #[.int .u64 (u:Int),.int .u64 (v:Int)] w fun e w'=>e=.returned (.int .u64 ((u ^^^ v:Nat):Int))∧w'=w:=by
  unfold B64 at hu hv
  have h1:=u64_xor_nat u v hu hv
  have hl:u ^^^ v<18446744073709551616:=Nat.xor_lt_two_pow (n:=64) (by omega) (by omega)
  generalize u ^^^ v=y at *
  clear hu hv hl
  go_enter Tryz.func112,Tryz.ntmps112
  go_wp2
  go_ret
  exact ⟨rfl,rfl⟩
theorem nand1_any (u v:Nat) (hu:u<B64) (hv:v<B64) (w:World):Calls Tryz.prog 113 #[.int .u64 (u:Int),.int .u64 (v:Int)] w fun e w'=>e=.returned (.int .u64 ((B64 - 1 - (u &&& v):Nat):Int))∧w'=w:=by
  unfold B64 at hu hv
  have h1:=u64_and_nat u v hu hv
  have hl:u &&& v<18446744073709551616:=Nat.and_lt_two_pow (n:=64) u (by omega)
  generalize u &&& v=y at *
  have h2:=not_u64 y hl
  have E:Hid ((((B64 - 1 - y:Nat)):Int)=18446744073709551615 - (y:Int)):=Lib.hid (by unfold B64; omega)
  clear hu hv hl
  go_enter Tryz.func113,Tryz.ntmps113
  go_wp2
  go_ret
  exact ⟨by rw [E.out]<;>rfl,rfl⟩
theorem nor1_any (u v:Nat) (hu:u<B64) (hv:v<B64) (w:World):Calls Tryz.prog 114 #[.int .u64 (u:Int),.int .u64 (v:Int)] w fun e w'=>e=.returned (.int .u64 ((B64 - 1 - (u ||| v):Nat):Int))∧w'=w:=by
  unfold B64 at hu hv
  have h1:=u64_or_nat u v hu hv
  have hl:u ||| v<18446744073709551616:=Nat.or_lt_two_pow (n:=64) (by omega) (by omega)
  generalize u ||| v=y at *
  have h2:=not_u64 y hl
  have E:Hid ((((B64 - 1 - y:Nat)):Int)=18446744073709551615 - (y:Int)):=Lib.hid (by unfold B64; omega)
  clear hu hv hl
  go_enter Tryz.func114,Tryz.ntmps114
  go_wp2
  go_ret
  exact ⟨by rw [E.out]<;>rfl,rfl⟩
theorem xnor1_any (u v:Nat) (hu:u<B64) (hv:v<B64) (w:World):Calls Tryz.prog 115 #[.int .u64 (u:Int),.int .u64 (v:Int)] w fun e w'=>e=.returned (.int .u64 ((B64 - 1 - (u ^^^ v):Nat):Int))∧w'=w:=by
  unfold B64 at hu hv
  have h1:=u64_xor_nat u v hu hv
  have hl:u ^^^ v<18446744073709551616:=Nat.xor_lt_two_pow (n:=64) (by omega) (by omega)
  generalize u ^^^ v=y at *
  have h2:=not_u64 y hl
  have E:Hid ((((B64 - 1 - y:Nat)):Int)=18446744073709551615 - (y:Int)):=Lib.hid (by unfold B64; omega)
  clear hu hv hl
  go_enter Tryz.func115,Tryz.ntmps115
  go_wp2
  go_ret
  exact ⟨by rw [E.out]<;>rfl,rfl⟩
end Go.Proofs.YtacbkpenohcgjaaGreat
namespace Go.Proofs.YtacbkpenohcgjaaGreat
open Go.RowKit Mth
theorem B64_gt0:0<B64:=by have:=B64_pos; omega
def limbN (n j:Nat):Nat:=n / B64 ^ j % B64
theorem limbN_lt (n j:Nat):limbN n j<B64:=Nat.mod_lt _ B64_gt0
theorem limb_at {xs:List Nat} (hl:Lim B64 xs) (j:Nat):xs.getD j 0=limbN (val B64 xs) j:=by
  unfold limbN
  by_cases h:j<xs.length
  · have hs:=val_split B64 xs j (by omega)
    have h1:val B64 (xs.take j)<B64 ^ j:=by
      exact val_take_lt B64_gt0 hl j (by omega)
    rw [hs,Nat.add_mul_div_left _ _ (Nat.pow_pos B64_gt0),Nat.div_eq_of_lt h1,Nat.zero_add]
    rw [List.drop_eq_getElem_cons h]
    show xs.getD j 0=(xs[j]+B64*val B64 (xs.drop (j+1))) % B64
    rw [Nat.add_mul_mod_self_left,List.getD_eq_getElem?_getD,List.getElem?_eq_getElem h]
    have:=hl j
    rw [List.getD_eq_getElem?_getD,List.getElem?_eq_getElem h] at this
    exact (Nat.mod_eq_of_lt this).symm
  · rw [List.getD_eq_getElem?_getD,List.getElem?_eq_none (by omega)]
    have h1:val B64 xs<B64 ^ j:=Nat.lt_of_lt_of_le (val_lt hl) (Nat.pow_le_pow_right B64_gt0 (by omega))
    rw [Nat.div_eq_of_lt h1]; rfl
theorem limbAt_nm (v:Value) (n i:Nat) (hi:i≤1048576) (w:World) (h:NmB w v n):Calls Tryz.prog 150 #[v,.int .i64 (i:Int)] w fun e w'=>e=.returned (.int .u64 ((limbN n i:Nat):Int))∧Below w.heap.size w w':=by
  obtain ⟨xs,s,l,f,rfl⟩:=h
  rw [← limb_at l]
  exact limbAt_any v xs i hi w s
def zipL (g:Nat→Nat→Nat) (m n L:Nat):List Nat:=(List.range L).map fun j=>g (limbN m j) (limbN n j)
structure ZpI (g:Nat→Nat→Nat) (m n L k:Nat) (zs:List Nat):Prop where
  len:zs.length=L
  val:∀ j,j<k→zs[j]?=some (g (limbN m j) (limbN n j))
theorem zp_start (g:Nat→Nat→Nat) (m n L:Nat):ZpI g m n L 0 (List.replicate L 0):=⟨by simp,fun j h=>by omega⟩
theorem zp_step {g:Nat→Nat→Nat} {m n L k:Nat} {zs:List Nat} (h:ZpI g m n L k zs) (hk:k<L):ZpI g m n L (k+1) (zs.set k (g (limbN m k) (limbN n k))):=by
  refine ⟨by rw [List.length_set,h.len],fun j hj=>?_⟩
  by_cases e:j=k
  · subst e; rw [List.getElem?_set_self (by rw [h.len]; exact hk)]
  · rw [List.getElem?_set_ne (fun e2=>e e2.symm)]; exact h.val j (by omega)
theorem zp_end {g:Nat→Nat→Nat} {m n L:Nat} {zs:List Nat} (h:ZpI g m n L L zs):zs=zipL g m n L:=by
  apply List.ext_getElem?
  intro j
  unfold zipL
  by_cases hj:j<L
  · rw [h.val j hj,List.getElem?_map,List.getElem?_range hj]; rfl
  · rw [List.getElem?_eq_none (by rw [h.len]; omega),List.getElem?_eq_none (by simp; omega)]
theorem zip_lim {g:Nat→Nat→Nat} (hg:∀ u v,u<B64→v<B64→g u v<B64) (m n L:Nat):Lim B64 (zipL g m n L):=fun j=>by
  unfold zipL
  rw [List.getD_eq_getElem?_getD,List.getElem?_map]
  by_cases hj:j<L
  · rw [List.getElem?_range hj]; exact hg _ _ (limbN_lt _ _) (limbN_lt _ _)
  · rw [List.getElem?_eq_none (by simp; omega)]; show 0<B64; exact B64_gt0
end Go.Proofs.YtacbkpenohcgjaaGreat
namespace Go.Proofs.YtacbkpenohcgjaaGreat
open Go.RowKit Mth
def BzO (W wr:World) (g:Nat→Nat→Nat) (m n L:Nat) (iv:Value):Prop:=∃ (k:Nat) (zs:List Nat),k≤L∧iv=.int .i64 (k:Int)∧ZpI g m n L k zs∧Row wr 37 .u64 W.heap.size zs∧Below W.heap.size W wr
theorem bitwise_any (fid:Nat) (hcf:∀ args W,(callFunc fid args).run Tryz.prog W=.ok (.enter fid args) W) (g:Nat→Nat→Nat) (hg:∀ u v,u<B64→v<B64→g u v<B64)
    (hC:∀ u v,u<B64→v<B64→∀ w,Calls Tryz.prog fid #[.int .u64 ((u:Nat):Int),.int .u64 ((v:Nat):Int)] w fun e w'=>e=.returned (.int .u64 ((g u v:Nat):Int))∧w'=w)
    (pv av:Value) (wd m n:Nat) (h2:wd≤4096) (w:World) (hp:∃ po pn pc,pv=.slice po pn pc) (h:BvL w av [(wd,m),(wd,n)]) :
    Calls Tryz.prog 109 #[.agg #[pv,av],.func (.func fid) #[] #[]] w fun e w'=>∃ v',e=.returned v'∧IntV w' v' ((val B64 (zipL g m n (lbs wd)):Nat):Int)∧Below w.heap.size w w':=by
  obtain ⟨po,pn,pc,rfl⟩:=hp
  obtain ⟨ao,cap,rfl⟩:=h.shape
  obtain ⟨W,eW,g1,g2,bel,hsz⟩:=alloc2 w (Obj.cells #[.slice po pn pc,.slice ao 2 cap] 46) (Obj.cells #[.bool false,.slice none 0 0] 50)
  have G1:=Lib.hid g1; have G2:=Lib.hid g2; have BL:=Lib.hid bel; have EW:=Lib.hid eW
  have hWs:w.heap.size+1<W.heap.size:=hsz
  have FI:Hid (∀ w1,Below W.heap.size W w1→Calls Tryz.prog 25 #[.agg #[.slice po pn pc,.slice ao 2 cap]] w1 fun e w'=>∃ a k c,e=.returned (.agg #[.int .i64 (wd:Int),.slice a k c])∧NmB w' (.slice a k c) m∧Below w1.heap.size w1 w'):=Lib.hid (fun w1 hw=>first_nm _ _ [(wd,m),(wd,n)] wd m w1 ⟨_,_,_,rfl⟩ (h.below (below_of bel hw)) rfl)
  have LA:Hid (∀ w1,Below W.heap.size W w1→Calls Tryz.prog 26 #[.agg #[.slice po pn pc,.slice ao 2 cap]] w1 fun e w'=>∃ a k c,e=.returned (.agg #[.int .i64 (wd:Int),.slice a k c])∧NmB w' (.slice a k c) n∧Below w1.heap.size w1 w'):=Lib.hid (fun w1 hw=>last_nm _ _ [(wd,m),(wd,n)] 1 wd n w1 ⟨_,_,_,rfl⟩ (h.below (below_of bel hw)) rfl (by omega) rfl)
  have LO:=Lib.hid (fun w1=>limbsOf_any wd h2 w1)
  have hL:lbs wd≤64:=by unfold lbs; omega
  generalize lbs wd=L at *
  have ZS:=Lib.hid (zp_start g m n L)
  have CL:Hid (∀ k w1,Calls Tryz.prog fid #[.int .u64 ((limbN m k:Nat):Int),.int .u64 ((limbN n k:Nat):Int)] w1 fun e w'=>e=.returned (.int .u64 ((g (limbN m k) (limbN n k):Nat):Int))∧w'=w1):=Lib.hid (fun k w1=>hC _ _ (limbN_lt _ _) (limbN_lt _ _) w1)
  have AM:Hid (∀ k,k<L→∀ v w1,NmB w1 v m→Calls Tryz.prog 150 #[v,.int .i64 (k:Int)] w1 fun e w'=>e=.returned (.int .u64 ((limbN m k:Nat):Int))∧Below w1.heap.size w1 w'):=Lib.hid (fun k hk v w1 hv=>limbAt_nm v m k (by omega) w1 hv)
  have AN:Hid (∀ k,k<L→∀ v w1,NmB w1 v n→Calls Tryz.prog 150 #[v,.int .i64 (k:Int)] w1 fun e w'=>e=.returned (.int .u64 ((limbN n k:Nat):Int))∧Below w1.heap.size w1 w'):=Lib.hid (fun k hk v w1 hv=>limbAt_nm v n k (by omega) w1 hv)
  have HG:Hid (Lim B64 (zipL g m n L)):=Lib.hid (zip_lim hg m n L)
  have hfl0:=field0_bits
  have hfl1:=field1_bits
  obtain ⟨c0,c1,-,-,_⟩:=blk2 g1
  clear h g1 g2 bel eW hC hg h2
  go_enter Tryz.func109,Tryz.ntmps109
  go_wp2_with fail
  try rw [EW.out]
  refine (FI.out _ (Below.refl _ _)).mono ?_
  rintro e w1 ⟨a1,k1,c1',rfl,-,hb⟩
  have B1:=Lib.hid hb
  clear hb c0 c1
  go_wp2_with fail
  refine (LO.out _).mono ?_
  rintro e w2 ⟨rfl,hw2⟩
  obtain rfl:w1=w2:=hw2.symm
  go_wp2_with (first | (refine make_nat rfl _ _ rfl _ _ L rfl rfl (by omega) (by omega) (by omega) ?_; intro w3 hr3 hb3; have HR3:=Lib.hid hr3; have HB3:=Lib.hid hb3; clear hr3 hb3))
  go_loopw [14] (fun i wr=>BzO w1 wr g m n L i) (fun i _=>L - (intOf i).toNat)
  case atStart=>exact ⟨0,_,Nat.zero_le _,rfl,ZS.out,HR3.out,HB3.out⟩
  case round =>
    obtain ⟨k,zs,hk,rfl,hZ,hR,hB⟩:=hrel
    have HZ:=Lib.hid hZ; have HR:=Lib.hid hR; have HB:=Lib.hid hB
    clear hZ hR hB
    by_cases hlt:k<L
    · have hltI:(k:Int)<(L:Int):=by omega
      have NS:=Lib.hid (zp_step HZ.out hlt)
      have hzl:=HZ.out.len
      have hsW:W.heap.size≤w1.heap.size:=B1.out.size
      have G1r:=Lib.hid (car HB.out (car B1.out G1.out))
      have BWr:=Lib.hid (below_of B1.out HB.out)
      have CK:=Lib.hid (fun w1=>CL.out k w1)
      have AM2:=Lib.hid (AM.out k hlt)
      have AN2:=Lib.hid (AN.out k hlt)
      have RC:Hid (∀ w',Below wr.heap.size wr w'→Row w' 37 .u64 w1.heap.size zs):=Lib.hid (fun w' hb=>car hb HR.out)
      generalize g (limbN m k) (limbN n k)=y at *
      generalize limbN m k=mk at *
      generalize limbN n k=nk at *
      go_upto_region 5 with fail
      have STAY:Hid (∀ w',Below wr.heap.size wr w'→w'.cell? ⟨w.heap.size,0,none⟩=some (.slice po pn pc)∧w'.cell? ⟨w.heap.size,1,none⟩=some (.slice ao 2 cap)):=Lib.hid (fun w' hb=>by
        obtain ⟨e0,e1,-,-,_⟩:=blk2 (car hb G1r.out)
        exact ⟨e0,e1⟩)
      have STAY2:Hid (∀ w' y,Below wr.heap.size wr w'→(w'.setCell ⟨w1.heap.size,k,none⟩ y).cell? ⟨w.heap.size,0,none⟩=some (.slice po pn pc)∧(w'.setCell ⟨w1.heap.size,k,none⟩ y).cell? ⟨w.heap.size,1,none⟩=some (.slice ao 2 cap)):=Lib.hid (fun w' y hb=>by
        obtain ⟨e0,e1,-,-,_⟩:=blk2 (car hb G1r.out)
        exact ⟨(World.cell?_setCell_other (w:=w') (a:=⟨w1.heap.size,k,none⟩) (b:=⟨w.heap.size,0,none⟩) (v:=y) (fun e=>by have:=congrArg Addr.block e; simp only at this; omega)).trans e0,(World.cell?_setCell_other (w:=w') (a:=⟨w1.heap.size,k,none⟩) (b:=⟨w.heap.size,1,none⟩) (v:=y) (fun e=>by have:=congrArg Addr.block e; simp only at this; omega)).trans e1⟩)
      have hk0:=Below.refl wr.heap.size wr
      go_region_held3 (fun w'=>w'.cell? ⟨w.heap.size,0,none⟩=some (.slice po pn pc)∧w'.cell? ⟨w.heap.size,1,none⟩=some (.slice ao 2 cap))
        ((first | (refine STAY.out _ ?_; first | exact hk5 | exact hk5.drew | exact hk4 | exact hk4.drew | exact hk3 | exact hk3.drew | exact hk2 | exact hk2.drew | exact hk1 | exact hk1.drew | exact hk0 | exact hk0.drew) | exact STAY2.out _ _ hk5 | exact STAY2.out _ _ hk5.drew))
        (first
        | (have tk:=TK4; (with_reducible refine Calls.mono (CK.out _) ?_); rintro e u5 ⟨rfl,hu⟩; have hk5:Below wr.heap.size wr u5:=(by first | (rw [hu]; exact hk4) | (rw [hu]; exact hk4.drew)); have R5:=RC.out _ hk5; have r5:=R5.cell (j:=k) (by omega); have f5:=R5.free k; have hz5:=hk5.size; have TK5:True:=trivial; have Rh:=Lib.hid R5; clear R5 hu)
        | (have tk:=TK3; go_at_call 150; (with_reducible refine Calls.mono (AN2.out _ _ (by first | exact M3.out | exact nmb_drew M3.out)) ?_); rintro e u4 ⟨rfl,hb⟩; have hk4:Below wr.heap.size wr u4:=(by first | exact below_of hk3 hb | exact below_of hk3.drew hb); have TK4:True:=trivial; clear hb)
        | (have tk:=TK2; go_at_call 26; (with_reducible refine Calls.mono (LA.out _ (below_of BWr.out (by first | exact hk2 | exact hk2.drew))) ?_); rintro e u3 ⟨a3,k3,c3,rfl,hn,hb⟩; have hk3:Below wr.heap.size wr u3:=(by first | exact below_of hk2 hb | exact below_of hk2.drew hb); have TK3:True:=trivial; have M3:=Lib.hid hn; clear hn hb)
        | (have tk:=TK1; go_at_call 150; (with_reducible refine Calls.mono (AM2.out _ _ (by first | exact M1.out | exact nmb_drew M1.out)) ?_); rintro e u2 ⟨rfl,hb⟩; have hk2:Below wr.heap.size wr u2:=(by first | exact below_of hk1 hb | exact below_of hk1.drew hb); have TK2:True:=trivial; clear hb)
        | (go_at_call 25; (with_reducible refine Calls.mono (FI.out _ (below_of BWr.out (by first | exact hk0 | exact hk0.drew))) ?_); rintro e u1 ⟨a1,k1,c1,rfl,hn,hb⟩; have hk1:Below wr.heap.size wr u1:=(by first | exact below_of hk0 hb | exact below_of hk0.drew hb); have TK1:True:=trivial; have M1:=Lib.hid hn; clear hn hb))
      all_goals
        go_wp2_with fail
        go_roundw
        case rel=>exact ⟨k+1,_,hlt,rfl,NS.out,(Rh.out.set k y).1,(below_of HB.out hk5).setCell (Nat.le_refl _) _⟩
        case measure=>simp [intOf]; omega
    · obtain rfl:k=L:=by omega
      have hzl:=HZ.out.len
      obtain rfl:=zp_end HZ.out
      have hltI:¬ (k:Int)<(k:Int):=by omega
      have hsl:=HR.out.sl_all (by omega)
      rw [hzl] at hsl
      have IV:=Lib.hid (intV_of hsl HG.out (by omega) rfl)
      have GR:=Lib.hid (car HB.out (car B1.out G2.out))
      have BR:=Lib.hid (below_of BL.out (below_of B1.out HB.out))
      obtain ⟨q0,q1,r0,r1,_⟩:=blk2 GR.out
      clear hsl
      go_wp2
      exact bodyPost_ret (results_it rfl rfl (set2_row _ _ GR.out)) rfl ⟨_,rfl,IV.out.far GR.out,((BR.out).setCell (by show w.heap.size≤w.heap.size+1; omega) _).setCell (by show w.heap.size≤w.heap.size+1; omega) _⟩
end Go.Proofs.YtacbkpenohcgjaaGreat
namespace Go.Proofs.YtacbkpenohcgjaaGreat
open Go.RowKit Mth
def andG (u v:Nat):Nat:=u &&& v
theorem andG_lt (u v:Nat) (hu:u<B64) (hv:v<B64):andG u v<B64:=by
  unfold andG
  unfold B64 at *; exact Nat.and_lt_two_pow (n:=64) u (by omega)
theorem and_is (pv av:Value) (wd m n:Nat) (h2:wd≤4096) (w:World) (hp:∃ po pn pc,pv=.slice po pn pc) (h:BvL w av [(wd,m),(wd,n)]) :
    Calls Tryz.prog 61 #[.agg #[pv,av]] w fun e w'=>∃ v',e=.returned v'∧IntV w' v' ((val B64 (zipL andG m n (lbs wd)):Nat):Int)∧Below w.heap.size w w':=by
  obtain ⟨po,pn,pc,rfl⟩:=hp
  obtain ⟨ao,cap,rfl⟩:=h.shape
  obtain ⟨W,eW,g1,g2,bel,hsz⟩:=alloc2 w (Obj.cells #[.slice po pn pc,.slice ao 2 cap] 46) (Obj.cells #[.bool false,.slice none 0 0] 50)
  have G2:=Lib.hid g2; have BL:=Lib.hid bel; have EW:=Lib.hid eW
  have BW:=Lib.hid (bitwise_any 110 (fun args W=>enters_of Tryz.func110 (by kernel_rfl) rfl args W) andG andG_lt (fun u v hu hv w=>and1_any u v hu hv w) (.slice po pn pc) _ wd m n h2 W ⟨_,_,_,rfl⟩ (h.below bel))
  obtain ⟨c0,c1,-,-,_⟩:=blk2 g1
  generalize ((val B64 (zipL andG m n (lbs wd)):Nat):Int)=z at *
  clear h g1 g2 bel eW h2
  go_enter Tryz.func61,Tryz.ntmps61
  go_wp2_with fail
  try rw [EW.out]
  refine BW.out.mono ?_
  rintro e w1 ⟨v1,rfl,hi,hb⟩
  have I1:=Lib.hid hi
  obtain ⟨n1,a1,k1,c1',rfl⟩:=hi.shape
  have GR:=Lib.hid (car hb G2.out)
  have B1:=Lib.hid (below_of BL.out hb)
  obtain ⟨q0,q1,r0,r1,_⟩:=blk2 GR.out
  clear hi hb c0 c1
  go_wp2
  exact bodyPost_ret (results_it rfl rfl (set2_row _ _ GR.out)) rfl ⟨_,rfl,I1.out.far GR.out,((B1.out).setCell (by show w.heap.size≤w.heap.size+1; omega) _).setCell (by show w.heap.size≤w.heap.size+1; omega) _⟩
def orG (u v:Nat):Nat:=u ||| v
theorem orG_lt (u v:Nat) (hu:u<B64) (hv:v<B64):orG u v<B64:=by
  unfold orG
  unfold B64 at *; exact Nat.or_lt_two_pow (n:=64) (by omega) (by omega)
theorem or_is (pv av:Value) (wd m n:Nat) (h2:wd≤4096) (w:World) (hp:∃ po pn pc,pv=.slice po pn pc) (h:BvL w av [(wd,m),(wd,n)]) :
    Calls Tryz.prog 62 #[.agg #[pv,av]] w fun e w'=>∃ v',e=.returned v'∧IntV w' v' ((val B64 (zipL orG m n (lbs wd)):Nat):Int)∧Below w.heap.size w w':=by
  obtain ⟨po,pn,pc,rfl⟩:=hp
  obtain ⟨ao,cap,rfl⟩:=h.shape
  obtain ⟨W,eW,g1,g2,bel,hsz⟩:=alloc2 w (Obj.cells #[.slice po pn pc,.slice ao 2 cap] 46) (Obj.cells #[.bool false,.slice none 0 0] 50)
  have G2:=Lib.hid g2; have BL:=Lib.hid bel; have EW:=Lib.hid eW
  have BW:=Lib.hid (bitwise_any 111 (fun args W=>enters_of Tryz.func111 (by kernel_rfl) rfl args W) orG orG_lt (fun u v hu hv w=>or1_any u v hu hv w) (.slice po pn pc) _ wd m n h2 W ⟨_,_,_,rfl⟩ (h.below bel))
  obtain ⟨c0,c1,-,-,_⟩:=blk2 g1
  generalize ((val B64 (zipL orG m n (lbs wd)):Nat):Int)=z at *
  clear h g1 g2 bel eW h2
  go_enter Tryz.func62,Tryz.ntmps62
  go_wp2_with fail
  try rw [EW.out]
  refine BW.out.mono ?_
  rintro e w1 ⟨v1,rfl,hi,hb⟩
  have I1:=Lib.hid hi
  obtain ⟨n1,a1,k1,c1',rfl⟩:=hi.shape
  have GR:=Lib.hid (car hb G2.out)
  have B1:=Lib.hid (below_of BL.out hb)
  obtain ⟨q0,q1,r0,r1,_⟩:=blk2 GR.out
  clear hi hb c0 c1
  go_wp2
  exact bodyPost_ret (results_it rfl rfl (set2_row _ _ GR.out)) rfl ⟨_,rfl,I1.out.far GR.out,((B1.out).setCell (by show w.heap.size≤w.heap.size+1; omega) _).setCell (by show w.heap.size≤w.heap.size+1; omega) _⟩
def xorG (u v:Nat):Nat:=u ^^^ v
theorem xorG_lt (u v:Nat) (hu:u<B64) (hv:v<B64):xorG u v<B64:=by
  unfold xorG
  unfold B64 at *; exact Nat.xor_lt_two_pow (n:=64) (by omega) (by omega)
theorem xor_is (pv av:Value) (wd m n:Nat) (h2:wd≤4096) (w:World) (hp:∃ po pn pc,pv=.slice po pn pc) (h:BvL w av [(wd,m),(wd,n)]) :
    Calls Tryz.prog 63 #[.agg #[pv,av]] w fun e w'=>∃ v',e=.returned v'∧IntV w' v' ((val B64 (zipL xorG m n (lbs wd)):Nat):Int)∧Below w.heap.size w w':=by
  obtain ⟨po,pn,pc,rfl⟩:=hp
  obtain ⟨ao,cap,rfl⟩:=h.shape
  obtain ⟨W,eW,g1,g2,bel,hsz⟩:=alloc2 w (Obj.cells #[.slice po pn pc,.slice ao 2 cap] 46) (Obj.cells #[.bool false,.slice none 0 0] 50)
  have G2:=Lib.hid g2; have BL:=Lib.hid bel; have EW:=Lib.hid eW
  have BW:=Lib.hid (bitwise_any 112 (fun args W=>enters_of Tryz.func112 (by kernel_rfl) rfl args W) xorG xorG_lt (fun u v hu hv w=>xor1_any u v hu hv w) (.slice po pn pc) _ wd m n h2 W ⟨_,_,_,rfl⟩ (h.below bel))
  obtain ⟨c0,c1,-,-,_⟩:=blk2 g1
  generalize ((val B64 (zipL xorG m n (lbs wd)):Nat):Int)=z at *
  clear h g1 g2 bel eW h2
  go_enter Tryz.func63,Tryz.ntmps63
  go_wp2_with fail
  try rw [EW.out]
  refine BW.out.mono ?_
  rintro e w1 ⟨v1,rfl,hi,hb⟩
  have I1:=Lib.hid hi
  obtain ⟨n1,a1,k1,c1',rfl⟩:=hi.shape
  have GR:=Lib.hid (car hb G2.out)
  have B1:=Lib.hid (below_of BL.out hb)
  obtain ⟨q0,q1,r0,r1,_⟩:=blk2 GR.out
  clear hi hb c0 c1
  go_wp2
  exact bodyPost_ret (results_it rfl rfl (set2_row _ _ GR.out)) rfl ⟨_,rfl,I1.out.far GR.out,((B1.out).setCell (by show w.heap.size≤w.heap.size+1; omega) _).setCell (by show w.heap.size≤w.heap.size+1; omega) _⟩
def nandG (u v:Nat):Nat:=B64 - 1 - (u &&& v)
theorem nandG_lt (u v:Nat) (hu:u<B64) (hv:v<B64):nandG u v<B64:=by
  unfold nandG
  have:=B64_gt0; omega
theorem nand_is (pv av:Value) (wd m n:Nat) (h2:wd≤4096) (w:World) (hp:∃ po pn pc,pv=.slice po pn pc) (h:BvL w av [(wd,m),(wd,n)]) :
    Calls Tryz.prog 64 #[.agg #[pv,av]] w fun e w'=>∃ v',e=.returned v'∧IntV w' v' ((val B64 (zipL nandG m n (lbs wd)):Nat):Int)∧Below w.heap.size w w':=by
  obtain ⟨po,pn,pc,rfl⟩:=hp
  obtain ⟨ao,cap,rfl⟩:=h.shape
  obtain ⟨W,eW,g1,g2,bel,hsz⟩:=alloc2 w (Obj.cells #[.slice po pn pc,.slice ao 2 cap] 46) (Obj.cells #[.bool false,.slice none 0 0] 50)
  have G2:=Lib.hid g2; have BL:=Lib.hid bel; have EW:=Lib.hid eW
  have BW:=Lib.hid (bitwise_any 113 (fun args W=>enters_of Tryz.func113 (by kernel_rfl) rfl args W) nandG nandG_lt (fun u v hu hv w=>nand1_any u v hu hv w) (.slice po pn pc) _ wd m n h2 W ⟨_,_,_,rfl⟩ (h.below bel))
  obtain ⟨c0,c1,-,-,_⟩:=blk2 g1
  generalize ((val B64 (zipL nandG m n (lbs wd)):Nat):Int)=z at *
  clear h g1 g2 bel eW h2
  go_enter Tryz.func64,Tryz.ntmps64
  go_wp2_with fail
  try rw [EW.out]
  refine BW.out.mono ?_
  rintro e w1 ⟨v1,rfl,hi,hb⟩
  have I1:=Lib.hid hi
  obtain ⟨n1,a1,k1,c1',rfl⟩:=hi.shape
  have GR:=Lib.hid (car hb G2.out)
  have B1:=Lib.hid (below_of BL.out hb)
  obtain ⟨q0,q1,r0,r1,_⟩:=blk2 GR.out
  clear hi hb c0 c1
  go_wp2
  exact bodyPost_ret (results_it rfl rfl (set2_row _ _ GR.out)) rfl ⟨_,rfl,I1.out.far GR.out,((B1.out).setCell (by show w.heap.size≤w.heap.size+1; omega) _).setCell (by show w.heap.size≤w.heap.size+1; omega) _⟩
def norG (u v:Nat):Nat:=B64 - 1 - (u ||| v)
theorem norG_lt (u v:Nat) (hu:u<B64) (hv:v<B64):norG u v<B64:=by
  unfold norG
  have:=B64_gt0; omega
theorem nor_is (pv av:Value) (wd m n:Nat) (h2:wd≤4096) (w:World) (hp:∃ po pn pc,pv=.slice po pn pc) (h:BvL w av [(wd,m),(wd,n)]) :
    Calls Tryz.prog 65 #[.agg #[pv,av]] w fun e w'=>∃ v',e=.returned v'∧IntV w' v' ((val B64 (zipL norG m n (lbs wd)):Nat):Int)∧Below w.heap.size w w':=by
  obtain ⟨po,pn,pc,rfl⟩:=hp
  obtain ⟨ao,cap,rfl⟩:=h.shape
  obtain ⟨W,eW,g1,g2,bel,hsz⟩:=alloc2 w (Obj.cells #[.slice po pn pc,.slice ao 2 cap] 46) (Obj.cells #[.bool false,.slice none 0 0] 50)
  have G2:=Lib.hid g2; have BL:=Lib.hid bel; have EW:=Lib.hid eW
  have BW:=Lib.hid (bitwise_any 114 (fun args W=>enters_of Tryz.func114 (by kernel_rfl) rfl args W) norG norG_lt (fun u v hu hv w=>nor1_any u v hu hv w) (.slice po pn pc) _ wd m n h2 W ⟨_,_,_,rfl⟩ (h.below bel))
  obtain ⟨c0,c1,-,-,_⟩:=blk2 g1
  generalize ((val B64 (zipL norG m n (lbs wd)):Nat):Int)=z at *
  clear h g1 g2 bel eW h2
  go_enter Tryz.func65,Tryz.ntmps65
  go_wp2_with fail
  try rw [EW.out]
  refine BW.out.mono ?_
  rintro e w1 ⟨v1,rfl,hi,hb⟩
  have I1:=Lib.hid hi
  obtain ⟨n1,a1,k1,c1',rfl⟩:=hi.shape
  have GR:=Lib.hid (car hb G2.out)
  have B1:=Lib.hid (below_of BL.out hb)
  obtain ⟨q0,q1,r0,r1,_⟩:=blk2 GR.out
  clear hi hb c0 c1
  go_wp2
  exact bodyPost_ret (results_it rfl rfl (set2_row _ _ GR.out)) rfl ⟨_,rfl,I1.out.far GR.out,((B1.out).setCell (by show w.heap.size≤w.heap.size+1; omega) _).setCell (by show w.heap.size≤w.heap.size+1; omega) _⟩
def xnorG (u v:Nat):Nat:=B64 - 1 - (u ^^^ v)
theorem xnorG_lt (u v:Nat) (hu:u<B64) (hv:v<B64):xnorG u v<B64:=by
  unfold xnorG
  have:=B64_gt0; omega
theorem xnor_is (pv av:Value) (wd m n:Nat) (h2:wd≤4096) (w:World) (hp:∃ po pn pc,pv=.slice po pn pc) (h:BvL w av [(wd,m),(wd,n)]) :
    Calls Tryz.prog 66 #[.agg #[pv,av]] w fun e w'=>∃ v',e=.returned v'∧IntV w' v' ((val B64 (zipL xnorG m n (lbs wd)):Nat):Int)∧Below w.heap.size w w':=by
  obtain ⟨po,pn,pc,rfl⟩:=hp
  obtain ⟨ao,cap,rfl⟩:=h.shape
  obtain ⟨W,eW,g1,g2,bel,hsz⟩:=alloc2 w (Obj.cells #[.slice po pn pc,.slice ao 2 cap] 46) (Obj.cells #[.bool false,.slice none 0 0] 50)
  have G2:=Lib.hid g2; have BL:=Lib.hid bel; have EW:=Lib.hid eW
  have BW:=Lib.hid (bitwise_any 115 (fun args W=>enters_of Tryz.func115 (by kernel_rfl) rfl args W) xnorG xnorG_lt (fun u v hu hv w=>xnor1_any u v hu hv w) (.slice po pn pc) _ wd m n h2 W ⟨_,_,_,rfl⟩ (h.below bel))
  obtain ⟨c0,c1,-,-,_⟩:=blk2 g1
  generalize ((val B64 (zipL xnorG m n (lbs wd)):Nat):Int)=z at *
  clear h g1 g2 bel eW h2
  go_enter Tryz.func66,Tryz.ntmps66
  go_wp2_with fail
  try rw [EW.out]
  refine BW.out.mono ?_
  rintro e w1 ⟨v1,rfl,hi,hb⟩
  have I1:=Lib.hid hi
  obtain ⟨n1,a1,k1,c1',rfl⟩:=hi.shape
  have GR:=Lib.hid (car hb G2.out)
  have B1:=Lib.hid (below_of BL.out hb)
  obtain ⟨q0,q1,r0,r1,_⟩:=blk2 GR.out
  clear hi hb c0 c1
  go_wp2
  exact bodyPost_ret (results_it rfl rfl (set2_row _ _ GR.out)) rfl ⟨_,rfl,I1.out.far GR.out,((B1.out).setCell (by show w.heap.size≤w.heap.size+1; omega) _).setCell (by show w.heap.size≤w.heap.size+1; omega) _⟩
end Go.Proofs.YtacbkpenohcgjaaGreat
namespace Go.Proofs.YtacbkpenohcgjaaGreat
open Go.RowKit Mth
def shN (wd n:Nat):Nat:=if n≤wd then n else wd
theorem shN_le (wd n:Nat):shN wd n≤wd:=by unfold shN; split<;>omega
theorem shift_is (pv av:Value) (wd m n:Nat) (h2:wd≤4096) (w:World) (hp:∃ po pn pc,pv=.slice po pn pc) (h:BvL w av [(wd,m),(wd,n)]) :
    Calls Tryz.prog 125 #[.agg #[pv,av]] w fun e w'=>e=.returned (.int .i64 ((shN wd n:Nat):Int))∧Below w.heap.size w w':=by
  obtain ⟨po,pn,pc,rfl⟩:=hp
  obtain ⟨ao,cap,rfl⟩:=h.shape
  obtain ⟨W,eW,g1,bel,hsz⟩:=alloc1n w (Obj.cells #[.slice po pn pc,.slice ao 2 cap] 46)
  have G1:=Lib.hid g1; have BL:=Lib.hid bel; have EW:=Lib.hid eW
  have FI:=Lib.hid (first_nm _ _ [(wd,m),(wd,n)] wd m W ⟨_,_,_,rfl⟩ (h.below bel) rfl:Calls Tryz.prog 25 #[.agg #[.slice po pn pc,.slice ao 2 cap]] W _)
  have LA:Hid (∀ w1,Below W.heap.size W w1→Calls Tryz.prog 26 #[.agg #[.slice po pn pc,.slice ao 2 cap]] w1 fun e w'=>∃ a k c,e=.returned (.agg #[.int .i64 (wd:Int),.slice a k c])∧NmB w' (.slice a k c) n∧Below w1.heap.size w1 w'):=Lib.hid (fun w1 hw=>last_nm _ _ [(wd,m),(wd,n)] 1 wd n w1 ⟨_,_,_,rfl⟩ (h.below (below_of bel hw)) rfl (by omega) rfl)
  have SM:Hid (∀ v w1,NmB w1 v n→Calls Tryz.prog 156 #[v] w1 fun e w'=>e=.returned (.tuple #[.int .u64 ((smallV n:Nat):Int),.bool (smallB n)])∧Below w1.heap.size w1 w'):=Lib.hid (fun v w1 ⟨xs,s,l,f,e⟩=>by subst e; exact small_any v xs w1 s l)
  have hfl0:=field0_bits
  have hfl1:=field1_bits
  have hww:IntKind.u64.wrap (wd:Int)=(wd:Int):=by rw [IntKind.wrap_u64]; omega
  obtain ⟨c0,c1,-,-,_⟩:=blk2 g1
  by_cases hb:n<B64
  · have e1:smallV n=n:=by unfold smallV; rw [if_pos hb]
    have e2:smallB n=true:=by unfold smallB; exact decide_eq_true hb
    rw [e1,e2] at SM
    by_cases hle:n≤wd
    · have e3:shN wd n=n:=by unfold shN; rw [if_pos hle]
      have hle2:(n:Int)≤(wd:Int):=by omega
      have hn:(n:Int)≤4096:=by omega
      have hwn:IntKind.i64.wrap (n:Int)=(n:Int):=IntWalk.i64_in _ (by omega)
      rw [e3]
      clear h g1 bel eW e1 e2 e3 hb hle h2
      go_enter Tryz.func125,Tryz.ntmps125
      go_wp2_with fail
      try rw [EW.out]
      refine FI.out.mono ?_
      rintro e w1 ⟨a1,k1,c1',rfl,-,hb⟩
      have B1:=Lib.hid hb
      obtain ⟨c0',c1'',-,-,_⟩:=blk2 (car hb G1.out)
      clear hb c0 c1
      go_wp2_with fail
      refine (LA.out _ B1.out).mono ?_
      rintro e w2 ⟨a2,k2,c2,rfl,hn2,hb⟩
      have N2:=Lib.hid hn2
      have B2:=Lib.hid (below_of B1.out hb)
      clear hb hn2 c0' c1''
      go_wp2_with fail
      refine (SM.out _ _ N2.out).mono ?_
      rintro e w3 ⟨rfl,hb⟩
      have B3:=Lib.hid (below_of BL.out (below_of B2.out hb))
      clear hb
      go_wp2_with fail
      go_ret
      exact ⟨rfl,B3.out⟩
    · have e3:shN wd n=wd:=by unfold shN; rw [if_neg hle]
      have hle2:(wd:Int)<(n:Int):=by omega
      rw [e3]
      clear h g1 bel eW e1 e2 e3 hb hle h2
      go_enter Tryz.func125,Tryz.ntmps125
      go_wp2_with fail
      try rw [EW.out]
      refine FI.out.mono ?_
      rintro e w1 ⟨a1,k1,c1',rfl,-,hb⟩
      have B1:=Lib.hid hb
      obtain ⟨c0',c1'',-,-,_⟩:=blk2 (car hb G1.out)
      clear hb c0 c1
      go_wp2_with fail
      refine (LA.out _ B1.out).mono ?_
      rintro e w2 ⟨a2,k2,c2,rfl,hn2,hb⟩
      have N2:=Lib.hid hn2
      have B2:=Lib.hid (below_of B1.out hb)
      clear hb hn2 c0' c1''
      go_wp2_with fail
      refine (SM.out _ _ N2.out).mono ?_
      rintro e w3 ⟨rfl,hb⟩
      have B3:=Lib.hid (below_of BL.out (below_of B2.out hb))
      clear hb
      go_wp2_with fail
      go_ret
      exact ⟨rfl,B3.out⟩
  · have e1:smallB n=false:=by unfold smallB; exact decide_eq_false hb
    have e3:shN wd n=wd:=by unfold shN; rw [if_neg (by unfold B64 at hb; omega)]
    rw [e1] at SM
    rw [e3]
    generalize smallV n=sv at *
    clear h g1 bel eW e1 e3 hb h2
    go_enter Tryz.func125,Tryz.ntmps125
    go_wp2_with fail
    try rw [EW.out]
    refine FI.out.mono ?_
    rintro e w1 ⟨a1,k1,c1',rfl,-,hb⟩
    have B1:=Lib.hid hb
    obtain ⟨c0',c1'',-,-,_⟩:=blk2 (car hb G1.out)
    clear hb c0 c1
    go_wp2_with fail
    refine (LA.out _ B1.out).mono ?_
    rintro e w2 ⟨a2,k2,c2,rfl,hn2,hb⟩
    have N2:=Lib.hid hn2
    have B2:=Lib.hid (below_of B1.out hb)
    clear hb hn2 c0' c1''
    go_wp2_with fail
    refine (SM.out _ _ N2.out).mono ?_
    rintro e w3 ⟨rfl,hb⟩
    have B3:=Lib.hid (below_of BL.out (below_of B2.out hb))
    clear hb
    go_wp2_with fail
    go_ret
    exact ⟨rfl,B3.out⟩
theorem shl_is (pv av:Value) (wd m n:Nat) (h2:wd≤4096) (hm:LtE (m*2 ^ shN wd n)) (w:World) (hp:∃ po pn pc,pv=.slice po pn pc) (h:BvL w av [(wd,m),(wd,n)]) :
    Calls Tryz.prog 77 #[.agg #[pv,av]] w fun e w'=>∃ v',e=.returned v'∧IntV w' v' (((m*2 ^ shN wd n:Nat):Int))∧Below w.heap.size w w':=by
  obtain ⟨po,pn,pc,rfl⟩:=hp
  obtain ⟨ao,cap,rfl⟩:=h.shape
  have HV:Hid (BvL w (.slice ao 2 cap) [(wd,m),(wd,n)]):=Lib.hid h
  clear h
  obtain ⟨W,eW,g1,g2,bel,hsz⟩:=alloc2 w (Obj.cells #[.slice po pn pc,.slice ao 2 cap] 46) (Obj.cells #[.bool false,.slice none 0 0] 50)
  have G2:=Lib.hid g2
  have hWs:w.heap.size+1<W.heap.size:=hsz
  have G1:=Lib.hid g1; have BL:=Lib.hid bel
  have SHP:Hid (∃ qo qn qc,(.slice po pn pc:Value)=.slice qo qn qc):=Lib.hid ⟨_,_,_,rfl⟩
  have FI:Hid (∀ w1,Below W.heap.size W w1→Calls Tryz.prog 25 #[.agg #[.slice po pn pc,.slice ao 2 cap]] w1 fun e w'=>∃ a k c,e=.returned (.agg #[.int .i64 (wd:Int),.slice a k c])∧NmB w' (.slice a k c) m∧Below w1.heap.size w1 w'):=Lib.hid (fun w1 hw=>first_nm _ _ [(wd,m),(wd,n)] wd m w1 SHP.out (HV.out.below (below_of bel hw)) rfl)
  have SH:Hid (∀ w1,Below W.heap.size W w1→Calls Tryz.prog 125 #[.agg #[.slice po pn pc,.slice ao 2 cap]] w1 fun e w'=>e=.returned (.int .i64 ((shN wd n:Nat):Int))∧Below w1.heap.size w1 w'):=Lib.hid (fun w1 hw=>shift_is _ _ wd m n h2 w1 SHP.out (HV.out.below (below_of bel hw)))
  have UP:Hid (∀ v w1,NmB w1 v m→Calls Tryz.prog 124 #[v,.int .i64 ((shN wd n:Nat):Int)] w1 fun e w'=>ResM w1 w' e (m*2 ^ shN wd n)):=Lib.hid (fun v w1 hv=>up_any v m (shN wd n) (by have:=shN_le wd n; omega) w1 hv hm)
  have AM:Hid (∀ v w1,NmB w1 v (m*2 ^ shN wd n)→Calls Tryz.prog 102 #[v] w1 fun e w'=>∃ v',e=.returned v'∧IntV w' v' ((m*2 ^ shN wd n:Nat):Int)∧Below w1.heap.size w1 w'):=Lib.hid (fun v w1 hv=>amount_any v _ w1 hv)
  generalize m*2 ^ shN wd n=z at *
  generalize shN wd n=k at *
  have STAY:Hid (∀ w',Below W.heap.size W w'→w'.cell? ⟨w.heap.size,0,none⟩=some (.slice po pn pc)∧w'.cell? ⟨w.heap.size,1,none⟩=some (.slice ao 2 cap)):=Lib.hid (fun w' hb=>by
    obtain ⟨e0,e1,-,-,_⟩:=blk2 (car hb G1.out)
    exact ⟨e0,e1⟩)
  have STAY2:Hid (∀ w' y0 y1,Below W.heap.size W w'→((w'.setCell ⟨w.heap.size+1,0,none⟩ y0).setCell ⟨w.heap.size+1,1,none⟩ y1).cell? ⟨w.heap.size,0,none⟩=some (.slice po pn pc)∧((w'.setCell ⟨w.heap.size+1,0,none⟩ y0).setCell ⟨w.heap.size+1,1,none⟩ y1).cell? ⟨w.heap.size,1,none⟩=some (.slice ao 2 cap)):=Lib.hid (fun w' y0 y1 hb=>by
    obtain ⟨e0,e1,-,-,_⟩:=blk2 (blk_far2 (R:=w.heap.size+1) (y0:=y0) (y1:=y1) (car hb G1.out) (by omega))
    exact ⟨e0,e1⟩)
  have hk0:=Below.refl W.heap.size W
  have hfl0:=field0_bits
  have hfl1:=field1_bits
  clear g1 bel g2
  clear hm
  go_enter Tryz.func77,Tryz.ntmps77
  go_upto_region 1 with fail
  try rw [eW]
  go_region_held3 (fun w'=>w'.cell? ⟨w.heap.size,0,none⟩=some (.slice po pn pc)∧w'.cell? ⟨w.heap.size,1,none⟩=some (.slice ao 2 cap))
    ((first | (refine STAY.out _ ?_; first | exact hk4 | exact hk4.drew | exact hk3 | exact hk3.drew | exact hk2 | exact hk2.drew | exact hk1 | exact hk1.drew | exact hk0 | exact hk0.drew) | exact STAY2.out _ _ _ hk4 | exact STAY2.out _ _ _ hk4.drew))
    (first
    | (have tk:=TK3; go_at_call 102; (with_reducible refine Calls.mono (AM.out _ _ (by first | exact M3.out | exact nmb_drew M3.out)) ?_); rintro e u4 ⟨v4,rfl,hn,hb⟩; have hk4:Below W.heap.size W u4:=(by first | exact below_of hk3 hb | exact below_of hk3.drew hb); have TK4:True:=trivial; have I4:=Lib.hid hn; obtain ⟨n4,a4,k4,c4,rfl⟩:=hn.shape; have GR:=Lib.hid (car hk4 G2.out); obtain ⟨q0,q1,r0,r1,_⟩:=blk2 GR.out; have hz4:=hk4.size; clear hn hb)
    | (have tk:=TK2; go_at_call 124; (with_reducible refine Calls.mono (UP.out _ _ (by first | exact M1.out | exact nmb_drew M1.out)) ?_); rintro e u3 ⟨a3,k3,c3,rfl,hn,hb⟩; have hk3:Below W.heap.size W u3:=(by first | exact below_of hk2 hb | exact below_of hk2.drew hb); have TK3:True:=trivial; have M3:=Lib.hid hn; clear hn hb)
    | (have tk:=TK1; go_at_call 125; (with_reducible refine Calls.mono (SH.out _ (by first | exact hk1 | exact hk1.drew)) ?_); rintro e u2 ⟨rfl,hb⟩; have hk2:Below W.heap.size W u2:=(by first | exact below_of hk1 hb | exact below_of hk1.drew hb); have TK2:True:=trivial; (first | (have M':=Lib.hid (nmb_call hb M1.out)) | (have M':=Lib.hid (nmb_call hb (nmb_drew M1.out)))); clear M1; have M1:=M'; clear M'; clear hb)
    | (go_at_call 25; (with_reducible refine Calls.mono (FI.out _ (by first | exact hk0 | exact hk0.drew)) ?_); rintro e u1 ⟨a1,k1,c1,rfl,hn,hb⟩; have hk1:Below W.heap.size W u1:=(by first | exact below_of hk0 hb | exact below_of hk0.drew hb); have TK1:True:=trivial; have M1:=Lib.hid hn; clear hn hb))
  all_goals
    go_wp2
    exact bodyPost_ret (results_it rfl rfl (set2_row _ _ GR.out)) rfl ⟨_,rfl,I4.out.far GR.out,((below_of BL.out hk4).setCell (by show w.heap.size≤w.heap.size+1; omega) _).setCell (by show w.heap.size≤w.heap.size+1; omega) _⟩
theorem lshr_is (pv av:Value) (wd m n:Nat) (h2:wd≤4096) (hm:LtE (m)) (w:World) (hp:∃ po pn pc,pv=.slice po pn pc) (h:BvL w av [(wd,m),(wd,n)]) :
    Calls Tryz.prog 78 #[.agg #[pv,av]] w fun e w'=>∃ v',e=.returned v'∧IntV w' v' (((m / 2 ^ shN wd n:Nat):Int))∧Below w.heap.size w w':=by
  obtain ⟨po,pn,pc,rfl⟩:=hp
  obtain ⟨ao,cap,rfl⟩:=h.shape
  have HV:Hid (BvL w (.slice ao 2 cap) [(wd,m),(wd,n)]):=Lib.hid h
  clear h
  obtain ⟨W,eW,g1,g2,bel,hsz⟩:=alloc2 w (Obj.cells #[.slice po pn pc,.slice ao 2 cap] 46) (Obj.cells #[.bool false,.slice none 0 0] 50)
  have G2:=Lib.hid g2
  have hWs:w.heap.size+1<W.heap.size:=hsz
  have G1:=Lib.hid g1; have BL:=Lib.hid bel
  have SHP:Hid (∃ qo qn qc,(.slice po pn pc:Value)=.slice qo qn qc):=Lib.hid ⟨_,_,_,rfl⟩
  have FI:Hid (∀ w1,Below W.heap.size W w1→Calls Tryz.prog 25 #[.agg #[.slice po pn pc,.slice ao 2 cap]] w1 fun e w'=>∃ a k c,e=.returned (.agg #[.int .i64 (wd:Int),.slice a k c])∧NmB w' (.slice a k c) m∧Below w1.heap.size w1 w'):=Lib.hid (fun w1 hw=>first_nm _ _ [(wd,m),(wd,n)] wd m w1 SHP.out (HV.out.below (below_of bel hw)) rfl)
  have SH:Hid (∀ w1,Below W.heap.size W w1→Calls Tryz.prog 125 #[.agg #[.slice po pn pc,.slice ao 2 cap]] w1 fun e w'=>e=.returned (.int .i64 ((shN wd n:Nat):Int))∧Below w1.heap.size w1 w'):=Lib.hid (fun w1 hw=>shift_is _ _ wd m n h2 w1 SHP.out (HV.out.below (below_of bel hw)))
  have UP:Hid (∀ v w1,NmB w1 v m→Calls Tryz.prog 105 #[v,.int .i64 ((shN wd n:Nat):Int)] w1 fun e w'=>ResM w1 w' e (m / 2 ^ shN wd n)):=Lib.hid (fun v w1 hv=>down_any v m (shN wd n) (by have:=shN_le wd n; omega) w1 hv hm)
  have AM:Hid (∀ v w1,NmB w1 v (m / 2 ^ shN wd n)→Calls Tryz.prog 102 #[v] w1 fun e w'=>∃ v',e=.returned v'∧IntV w' v' ((m / 2 ^ shN wd n:Nat):Int)∧Below w1.heap.size w1 w'):=Lib.hid (fun v w1 hv=>amount_any v _ w1 hv)
  generalize m / 2 ^ shN wd n=z at *
  generalize shN wd n=k at *
  have STAY:Hid (∀ w',Below W.heap.size W w'→w'.cell? ⟨w.heap.size,0,none⟩=some (.slice po pn pc)∧w'.cell? ⟨w.heap.size,1,none⟩=some (.slice ao 2 cap)):=Lib.hid (fun w' hb=>by
    obtain ⟨e0,e1,-,-,_⟩:=blk2 (car hb G1.out)
    exact ⟨e0,e1⟩)
  have STAY2:Hid (∀ w' y0 y1,Below W.heap.size W w'→((w'.setCell ⟨w.heap.size+1,0,none⟩ y0).setCell ⟨w.heap.size+1,1,none⟩ y1).cell? ⟨w.heap.size,0,none⟩=some (.slice po pn pc)∧((w'.setCell ⟨w.heap.size+1,0,none⟩ y0).setCell ⟨w.heap.size+1,1,none⟩ y1).cell? ⟨w.heap.size,1,none⟩=some (.slice ao 2 cap)):=Lib.hid (fun w' y0 y1 hb=>by
    obtain ⟨e0,e1,-,-,_⟩:=blk2 (blk_far2 (R:=w.heap.size+1) (y0:=y0) (y1:=y1) (car hb G1.out) (by omega))
    exact ⟨e0,e1⟩)
  have hk0:=Below.refl W.heap.size W
  have hfl0:=field0_bits
  have hfl1:=field1_bits
  clear g1 bel g2
  clear hm
  go_enter Tryz.func78,Tryz.ntmps78
  go_upto_region 1 with fail
  try rw [eW]
  go_region_held3 (fun w'=>w'.cell? ⟨w.heap.size,0,none⟩=some (.slice po pn pc)∧w'.cell? ⟨w.heap.size,1,none⟩=some (.slice ao 2 cap))
    ((first | (refine STAY.out _ ?_; first | exact hk4 | exact hk4.drew | exact hk3 | exact hk3.drew | exact hk2 | exact hk2.drew | exact hk1 | exact hk1.drew | exact hk0 | exact hk0.drew) | exact STAY2.out _ _ _ hk4 | exact STAY2.out _ _ _ hk4.drew))
    (first
    | (have tk:=TK3; go_at_call 102; (with_reducible refine Calls.mono (AM.out _ _ (by first | exact M3.out | exact nmb_drew M3.out)) ?_); rintro e u4 ⟨v4,rfl,hn,hb⟩; have hk4:Below W.heap.size W u4:=(by first | exact below_of hk3 hb | exact below_of hk3.drew hb); have TK4:True:=trivial; have I4:=Lib.hid hn; obtain ⟨n4,a4,k4,c4,rfl⟩:=hn.shape; have GR:=Lib.hid (car hk4 G2.out); obtain ⟨q0,q1,r0,r1,_⟩:=blk2 GR.out; have hz4:=hk4.size; clear hn hb)
    | (have tk:=TK2; go_at_call 105; (with_reducible refine Calls.mono (UP.out _ _ (by first | exact M1.out | exact nmb_drew M1.out)) ?_); rintro e u3 ⟨a3,k3,c3,rfl,hn,hb⟩; have hk3:Below W.heap.size W u3:=(by first | exact below_of hk2 hb | exact below_of hk2.drew hb); have TK3:True:=trivial; have M3:=Lib.hid hn; clear hn hb)
    | (have tk:=TK1; go_at_call 125; (with_reducible refine Calls.mono (SH.out _ (by first | exact hk1 | exact hk1.drew)) ?_); rintro e u2 ⟨rfl,hb⟩; have hk2:Below W.heap.size W u2:=(by first | exact below_of hk1 hb | exact below_of hk1.drew hb); have TK2:True:=trivial; (first | (have M':=Lib.hid (nmb_call hb M1.out)) | (have M':=Lib.hid (nmb_call hb (nmb_drew M1.out)))); clear M1; have M1:=M'; clear M'; clear hb)
    | (go_at_call 25; (with_reducible refine Calls.mono (FI.out _ (by first | exact hk0 | exact hk0.drew)) ?_); rintro e u1 ⟨a1,k1,c1,rfl,hn,hb⟩; have hk1:Below W.heap.size W u1:=(by first | exact below_of hk0 hb | exact below_of hk0.drew hb); have TK1:True:=trivial; have M1:=Lib.hid hn; clear hn hb))
  all_goals
    go_wp2
    exact bodyPost_ret (results_it rfl rfl (set2_row _ _ GR.out)) rfl ⟨_,rfl,I4.out.far GR.out,((below_of BL.out hk4).setCell (by show w.heap.size≤w.heap.size+1; omega) _).setCell (by show w.heap.size≤w.heap.size+1; omega) _⟩
end Go.Proofs.YtacbkpenohcgjaaGreat
namespace Go.Proofs.YtacbkpenohcgjaaGreat
open Go.RowKit Mth
end Go.Proofs.YtacbkpenohcgjaaGreat
namespace Go.Proofs.YtacbkpenohcgjaaGreat
open Go.RowKit Mth
def repN (m wd:Nat):Nat→Nat
  | 0=>0
  | t+1=>repN m wd t*2 ^ wd+m
theorem repN_add (m wd a:Nat):∀ b,repN m wd (a+b)=repN m wd a*2 ^ (wd*b)+repN m wd b
  | 0=>by simp [repN]
  | b+1=>by
    show repN m wd (a+b)*2 ^ wd+m=_+(repN m wd b*2 ^ wd+m)
    rw [repN_add m wd a b,Nat.add_mul,Nat.mul_assoc,← Nat.pow_add,Nat.mul_succ,Nat.add_assoc]
theorem repN_lt {m wd:Nat} (hm:m<2 ^ wd):∀ t,repN m wd t<2 ^ (wd*t)
  | 0=>by simp [repN]
  | t+1=>by
    rw [Nat.mul_succ]
    exact concat_lt (repN_lt hm t) hm
theorem repN_one (m wd:Nat):repN m wd 1=m:=by simp [repN]
theorem repeated_any (wd m:Nat) (h1:1≤wd) (h2:wd≤4096) (hm:m<2 ^ wd):∀ (t:Nat) (_:1≤t) (_:wd*t≤4096) (v:Value) (w:World),NmB w v m→Calls Tryz.prog 128 #[v,.int .i64 (wd:Int),.int .i64 (t:Int)] w fun e w'=>ResM w w' e (repN m wd t):=by
  intro t
  induction t using Nat.strongRecOn with
  | _ t ih =>
  intro ht hwt v w hv
  obtain ⟨a,k,c,rfl⟩:=hv.shape
  have HV:=Lib.hid hv
  clear hv
  by_cases h0:t=1
  · subst h0
    have e:repN m wd 1=m:=repN_one m wd
    generalize repN m wd 1=z at *
    subst e
    clear ih
    go_enter Tryz.func128,Tryz.ntmps128
    go_wp2
    go_ret
    exact ⟨a,k,c,rfl,HV.out,Below.refl _ _⟩
  · have htw:t≤wd*t:=Nat.le_mul_of_pos_left _ h1
    have hh1:1≤t / 2:=by omega
    have hhw:wd*(t / 2)≤4096:=Nat.le_trans (Nat.mul_le_mul_left _ (Nat.div_le_self _ _)) hwt
    have IH:=Lib.hid (fun w1 h=>ih (t / 2) (by omega) hh1 hhw (.slice a k c) w1 h)
    have d0:((t:Int) == 1)=false:=beq_eq_false_iff_ne.2 (by omega)
    have tq:((t:Int)) / 2=((t / 2:Nat):Int):=by omega
    have tq2:((t:Int)).tdiv 2=((t / 2:Nat):Int):=by rw [Int.tdiv_eq_ediv_of_nonneg (by omega),tq]
    have hmul:(wd:Int)*((t / 2:Nat):Int)=((wd*(t / 2):Nat):Int):=by rw [Int.natCast_mul]
    have hwr:IntKind.i64.wrap ((wd*(t / 2):Nat):Int)=((wd*(t / 2):Nat):Int):=IntWalk.i64_in _ (by omega)
    have hl2:=repN_lt hm (t / 2)
    have hadd:=repN_add m wd (t / 2) (t / 2)
    have hlt2:=repN_lt hm (t / 2+t / 2)
    have hle2:wd*(t / 2+t / 2)≤4096:=Nat.le_trans (Nat.mul_le_mul_left _ (by omega)) hwt
    have J1:Hid (∀ va vb w1,NmB w1 va (repN m wd (t / 2))→NmB w1 vb (repN m wd (t / 2))→Calls Tryz.prog 103 #[va,vb,.int .i64 ((wd*(t / 2):Nat):Int)] w1 fun e w'=>ResM w1 w' e (repN m wd (t / 2+t / 2))):=Lib.hid (fun va vb w1 ha hb=>by
      rw [hadd]
      exact joinedB_any va vb _ _ (wd*(t / 2)) (by omega) w1 ha hb (by rw [← hadd]; exact lte_of (b:=0) hlt2 (by omega)))
    have J2:Hid (∀ va vb w1,t % 2=1→NmB w1 va (repN m wd (t / 2+t / 2))→NmB w1 vb m→Calls Tryz.prog 103 #[va,vb,.int .i64 (wd:Int)] w1 fun e w'=>ResM w1 w' e (repN m wd t)):=Lib.hid (fun va vb w1 ho ha hb=>by
      have e:t=(t / 2+t / 2)+1:=by omega
      have e2:repN m wd t=repN m wd (t / 2+t / 2)*2 ^ wd+m:=by rw [congrArg (repN m wd) e]; rfl
      rw [e2]
      exact joinedB_any va vb _ _ wd (by omega) w1 ha hb (by rw [← e2]; exact lte_of (b:=0) (repN_lt hm t) (by omega)))
    have EV:Hid (t % 2=0→repN m wd (t / 2+t / 2)=repN m wd t):=Lib.hid (fun ho=>congrArg (repN m wd) (by omega))
    have bth:((t / 2:Nat):Int)≤4096:=by omega
    have bwh:((wd*(t / 2):Nat):Int)≤4096:=by omega
    have bwd:(wd:Int)≤4096:=by omega
    have bt:(t:Int)≤4096:=by omega
    rcases Nat.mod_two_eq_zero_or_one t with ho | ho
    all_goals
      have HO:=Lib.hid ho
      have dm:((t:Int)) % 2=((t % 2:Nat):Int):=by omega
      have dm2:((t:Int)).tmod 2=((t % 2:Nat):Int):=by rw [Int.tmod_eq_emod_of_nonneg (by omega),dm]
      rw [ho] at dm dm2
      generalize repN m wd (t / 2+t / 2)=z2 at *
      generalize repN m wd (t / 2)=z1 at *
      generalize repN m wd t=z at *
      generalize wd*(t / 2)=wh at *
      generalize t / 2=th at *
      clear ih h0 hh1 hhw htw hl2 hadd hlt2 hle2 ho hwt hm
      go_enter Tryz.func128,Tryz.ntmps128
      go_wp2_with fail
      refine (IH.out _ HV.out).mono ?_
      rintro e w1 ⟨a1,k1,c1,rfl,hn1,hb1⟩
      have N1:=Lib.hid hn1; have B1:=Lib.hid hb1
      clear hn1 hb1
      go_wp2_with fail
      refine (J1.out _ _ _ N1.out N1.out).mono ?_
      rintro e w2 ⟨a2,k2,c2,rfl,hn2,hb2⟩
      have N2:=Lib.hid hn2; have B2:=Lib.hid (below_of B1.out hb2)
      clear hn2 hb2
    · obtain rfl:=EV.out HO.out
      go_wp2_with fail
      go_ret
      exact ⟨a2,k2,c2,rfl,N2.out,B2.out⟩
    · go_wp2_with fail
      refine (J2.out _ _ _ HO.out N2.out (HV.out.below B2.out)).mono ?_
      rintro e w3 ⟨a3,k3,c3,rfl,hn3,hb3⟩
      have N3:=Lib.hid hn3; have B3:=Lib.hid (below_of B2.out hb3)
      clear hn3 hb3
      go_wp2_with fail
      go_ret
      exact ⟨a3,k3,c3,rfl,N3.out,B3.out⟩
end Go.Proofs.YtacbkpenohcgjaaGreat
namespace Go.Proofs.YtacbkpenohcgjaaGreat
open Go.RowKit Mth
theorem repeat_is (pv av:Value) (wd m p:Nat) (h1:1≤wd) (h2:wd≤4096) (hm:m<2 ^ wd) (hp1:1≤p) (hwp:wd*p≤4096) (w:World) (hp:PaL w pv [(p:Int)]) (h:BvL w av [(wd,m)]) :
    Calls Tryz.prog 82 #[.agg #[pv,av]] w fun e w'=>∃ v',e=.returned v'∧IntV w' v' (((repN m wd p:Nat):Int))∧Below w.heap.size w w':=by
  have hpS:=hp.shape
  have HP:=Lib.hid hp
  obtain ⟨po,pc,rfl,hpc⟩:=hp
  obtain ⟨pb,poff,rfl,hplt,hpc⟩:=hpc (by simp)
  have pc0:=hpc 0 (p:Int) rfl
  rw [Nat.add_zero] at pc0
  clear hpc hpS
  obtain ⟨ao,cap,rfl⟩:=h.shape
  have HV:Hid (BvL w (.slice ao 1 cap) [(wd,m)]):=Lib.hid h
  clear h
  obtain ⟨W,eW,g1,g2,bel,hsz⟩:=alloc2 w (Obj.cells #[.slice (some ⟨pb,poff,none⟩) 1 pc,.slice ao 1 cap] 46) (Obj.cells #[.bool false,.slice none 0 0] 50)
  have G2:=Lib.hid g2
  have hWs:w.heap.size+1<W.heap.size:=hsz
  have G1:=Lib.hid g1; have BL:=Lib.hid bel
  have SHP:Hid (∃ qo qn qc,(.slice (some ⟨pb,poff,none⟩) 1 pc:Value)=.slice qo qn qc):=Lib.hid ⟨_,_,_,rfl⟩
  have FI:Hid (∀ w1,Below W.heap.size W w1→Calls Tryz.prog 25 #[.agg #[.slice (some ⟨pb,poff,none⟩) 1 pc,.slice ao 1 cap]] w1 fun e w'=>∃ a k c,e=.returned (.agg #[.int .i64 (wd:Int),.slice a k c])∧NmB w' (.slice a k c) m∧Below w1.heap.size w1 w'):=Lib.hid (fun w1 hw=>first_nm _ _ [(wd,m)] wd m w1 SHP.out (HV.out.below (below_of bel hw)) rfl)
  have RP:Hid (∀ v w1,NmB w1 v m→Calls Tryz.prog 128 #[v,.int .i64 (wd:Int),.int .i64 (p:Int)] w1 fun e w'=>ResM w1 w' e (repN m wd p)):=Lib.hid (fun v w1 hv=>repeated_any wd m h1 h2 hm p hp1 hwp v w1 hv)
  have AM:Hid (∀ v w1,NmB w1 v (repN m wd p)→Calls Tryz.prog 102 #[v] w1 fun e w'=>∃ v',e=.returned v'∧IntV w' v' ((repN m wd p:Nat):Int)∧Below w1.heap.size w1 w'):=Lib.hid (fun v w1 hv=>amount_any v _ w1 hv)
  generalize repN m wd p=z at *
  have PC0:Hid (∀ w',Below W.heap.size W w'→w'.cell? ⟨pb,poff,none⟩=some (.int .i64 (p:Int))):=Lib.hid (fun w' hb=>((below_of bel hb).cell (p:=⟨pb,poff,none⟩) hplt).trans pc0)
  have STAY:Hid (∀ w',Below W.heap.size W w'→w'.cell? ⟨w.heap.size,0,none⟩=some (.slice (some ⟨pb,poff,none⟩) 1 pc)∧w'.cell? ⟨w.heap.size,1,none⟩=some (.slice ao 1 cap)∧w'.cell? ⟨pb,poff,none⟩=some (.int .i64 (p:Int))):=Lib.hid (fun w' hb=>by
    obtain ⟨e0,e1,-,-,_⟩:=blk2 (car hb G1.out)
    exact ⟨e0,e1,PC0.out _ hb⟩)
  have STAY2:Hid (∀ w' y0 y1,Below W.heap.size W w'→((w'.setCell ⟨w.heap.size+1,0,none⟩ y0).setCell ⟨w.heap.size+1,1,none⟩ y1).cell? ⟨w.heap.size,0,none⟩=some (.slice (some ⟨pb,poff,none⟩) 1 pc)∧((w'.setCell ⟨w.heap.size+1,0,none⟩ y0).setCell ⟨w.heap.size+1,1,none⟩ y1).cell? ⟨w.heap.size,1,none⟩=some (.slice ao 1 cap)∧((w'.setCell ⟨w.heap.size+1,0,none⟩ y0).setCell ⟨w.heap.size+1,1,none⟩ y1).cell? ⟨pb,poff,none⟩=some (.int .i64 (p:Int))):=Lib.hid (fun w' y0 y1 hb=>by
    obtain ⟨e0,e1,-,-,_⟩:=blk2 (blk_far2 (R:=w.heap.size+1) (y0:=y0) (y1:=y1) (car hb G1.out) (by omega))
    exact ⟨e0,e1,(World.cell?_setCell_other (w:=w'.setCell ⟨w.heap.size+1,0,none⟩ y0) (a:=⟨w.heap.size+1,1,none⟩) (b:=⟨pb,poff,none⟩) (v:=y1) (fun e=>by have:=congrArg Addr.block e; simp only at this; omega)).trans ((World.cell?_setCell_other (w:=w') (a:=⟨w.heap.size+1,0,none⟩) (b:=⟨pb,poff,none⟩) (v:=y0) (fun e=>by have:=congrArg Addr.block e; simp only at this; omega)).trans (PC0.out _ hb))⟩)
  have hk0:=Below.refl W.heap.size W
  have hfl0:=field0_bits
  have hfl1:=field1_bits
  clear g1 bel g2
  clear hm hp1 hwp
  go_enter Tryz.func82,Tryz.ntmps82
  go_upto_region 1 with fail
  try rw [eW]
  go_region_held3 (fun w'=>w'.cell? ⟨w.heap.size,0,none⟩=some (.slice (some ⟨pb,poff,none⟩) 1 pc)∧w'.cell? ⟨w.heap.size,1,none⟩=some (.slice ao 1 cap)∧w'.cell? ⟨pb,poff,none⟩=some (.int .i64 (p:Int)))
    ((first | (refine STAY.out _ ?_; first | exact hk4 | exact hk4.drew | exact hk3 | exact hk3.drew | exact hk2 | exact hk2.drew | exact hk1 | exact hk1.drew | exact hk0 | exact hk0.drew) | exact STAY2.out _ _ _ hk4 | exact STAY2.out _ _ _ hk4.drew))
    (first
    | (have tk:=TK3; go_at_call 102; (with_reducible refine Calls.mono (AM.out _ _ (by first | exact M3.out | exact nmb_drew M3.out)) ?_); rintro e u4 ⟨v4,rfl,hn,hb⟩; have hk4:Below W.heap.size W u4:=(by first | exact below_of hk3 hb | exact below_of hk3.drew hb); have TK4:True:=trivial; have I4:=Lib.hid hn; obtain ⟨n4,a4,k4,c4,rfl⟩:=hn.shape; have GR:=Lib.hid (car hk4 G2.out); obtain ⟨q0,q1,r0,r1,_⟩:=blk2 GR.out; have hz4:=hk4.size; clear hn hb)
    | (have tk:=TK2; go_at_call 128; (with_reducible refine Calls.mono (RP.out _ _ (by first | exact M1.out | exact nmb_drew M1.out)) ?_); rintro e u3 ⟨a3,k3,c3,rfl,hn,hb⟩; have hk3:Below W.heap.size W u3:=(by first | exact below_of hk2 hb | exact below_of hk2.drew hb); have TK3:True:=trivial; have M3:=Lib.hid hn; clear hn hb)
    | (have tk:=TK1; go_at_call 25; (with_reducible refine Calls.mono (FI.out _ (by first | exact hk1 | exact hk1.drew)) ?_); rintro e u2 ⟨a2,k2,c2,rfl,hn,hb⟩; have hk2:Below W.heap.size W u2:=(by first | exact below_of hk1 hb | exact below_of hk1.drew hb); have TK2:True:=trivial; (first | (have M':=Lib.hid (nmb_call hb M1.out)) | (have M':=Lib.hid (nmb_call hb (nmb_drew M1.out)))); clear M1; have M1:=M'; clear M'; have M2:=Lib.hid hn; clear hn hb)
    | (go_at_call 25; (with_reducible refine Calls.mono (FI.out _ (by first | exact hk0 | exact hk0.drew)) ?_); rintro e u1 ⟨a1,k1,c1,rfl,hn,hb⟩; have hk1:Below W.heap.size W u1:=(by first | exact below_of hk0 hb | exact below_of hk0.drew hb); have TK1:True:=trivial; have M1:=Lib.hid hn; clear hn hb))
  all_goals
    go_wp2
    exact bodyPost_ret (results_it rfl rfl (set2_row _ _ GR.out)) rfl ⟨_,rfl,I4.out.far GR.out,((below_of BL.out hk4).setCell (by show w.heap.size≤w.heap.size+1; omega) _).setCell (by show w.heap.size≤w.heap.size+1; omega) _⟩
end Go.Proofs.YtacbkpenohcgjaaGreat
namespace Go.Proofs.YtacbkpenohcgjaaGreat
open Go.RowKit Mth
theorem isFactor_yes (pv:Value) (p:Int) (h0:1≤p) (h1:p≤4096) (w:World) (h:PaL w pv [p]):Calls Tryz.prog 80 #[pv] w fun e w'=>e=.returned (.bool true)∧Below w.heap.size w w':=by
  have IC:=Lib.hid (isCount_yes pv p (by omega) h1 w h)
  obtain ⟨po,cap,rfl,hc⟩:=h
  obtain ⟨b,off,rfl,hlt,hc⟩:=hc (by simp)
  have c0:=hc 0 p rfl
  rw [Nat.add_zero] at c0
  have C0:Hid (∀ w',Below w.heap.size w w'→w'.cell? ⟨b,off,none⟩=some (.int .i64 p)):=Lib.hid (fun w' hb=>(hb.cell (p:=⟨b,off,none⟩) hlt).trans c0)
  simp only [List.length_cons,List.length_nil] at *
  have hne:(p != 0)=true:=bne_iff_ne.2 (by omega)
  clear hc c0 h0 h1
  go_enter Tryz.func80,Tryz.ntmps80
  go_wp2_with fail
  refine IC.out.mono ?_
  rintro e w2 ⟨rfl,hb⟩
  have c2:=C0.out _ hb
  have B2:=Lib.hid hb
  clear hb
  go_wp2
  go_ret
  exact ⟨rfl,B2.out⟩
theorem times_is (pv av:Value) (wd m:Nat) (p0:Int) (hmu:(wd:Int)*p0≤4096) (hmu0:0≤(wd:Int)*p0) (w:World) (hp:PaL w pv [p0]) (h:BvL w av [(wd,m)]) :
    Calls Tryz.prog 81 #[.agg #[pv,av]] w fun e w'=>e=.returned (.int .i64 ((wd:Int)*p0))∧Below w.heap.size w w':=by
  have hpS:=hp.shape
  have HP:=Lib.hid hp
  obtain ⟨po,pc,rfl,hpc⟩:=hp
  obtain ⟨pb,poff,rfl,hplt,hpc⟩:=hpc (by simp)
  have pc0:=hpc 0 p0 rfl
  rw [Nat.add_zero] at pc0
  clear hpc hpS
  obtain ⟨ao,cap,rfl⟩:=h.shape
  have HV:Hid (BvL w (.slice ao 1 cap) [(wd,m)]):=Lib.hid h
  clear h
  obtain ⟨W,eW,g1,bel,hsz⟩:=alloc1n w (Obj.cells #[.slice (some ⟨pb,poff,none⟩) 1 pc,.slice ao 1 cap] 46)
  have G1:=Lib.hid g1; have BL:=Lib.hid bel
  have SHP:Hid (∃ qo qn qc,(.slice (some ⟨pb,poff,none⟩) 1 pc:Value)=.slice qo qn qc):=Lib.hid ⟨_,_,_,rfl⟩
  have FI:Hid (∀ w1,Below W.heap.size W w1→Calls Tryz.prog 25 #[.agg #[.slice (some ⟨pb,poff,none⟩) 1 pc,.slice ao 1 cap]] w1 fun e w'=>∃ a k c,e=.returned (.agg #[.int .i64 (wd:Int),.slice a k c])∧NmB w' (.slice a k c) m∧Below w1.heap.size w1 w'):=Lib.hid (fun w1 hw=>first_nm _ _ [(wd,m)] wd m w1 SHP.out (HV.out.below (below_of bel hw)) rfl)
  have PC0:Hid (∀ w',Below W.heap.size W w'→w'.cell? ⟨pb,poff,none⟩=some (.int .i64 p0)):=Lib.hid (fun w' hb=>((below_of bel hb).cell (p:=⟨pb,poff,none⟩) hplt).trans pc0)
  have STAY:Hid (∀ w',Below W.heap.size W w'→w'.cell? ⟨w.heap.size,0,none⟩=some (.slice (some ⟨pb,poff,none⟩) 1 pc)∧w'.cell? ⟨w.heap.size,1,none⟩=some (.slice ao 1 cap)∧w'.cell? ⟨pb,poff,none⟩=some (.int .i64 p0)):=Lib.hid (fun w' hb=>by
    obtain ⟨e0,e1,-,-,_⟩:=blk2 (car hb G1.out)
    exact ⟨e0,e1,PC0.out _ hb⟩)
  have hk0:=Below.refl W.heap.size W
  have hfl0:=field0_bits
  have hfl1:=field1_bits
  clear g1 bel
  have hwr:IntKind.i64.wrap ((wd:Int)*p0)=(wd:Int)*p0:=IntWalk.i64_in _ (by omega)
  go_enter Tryz.func81,Tryz.ntmps81
  go_upto_region 1 with fail
  try rw [eW]
  go_region_held3 (fun w'=>w'.cell? ⟨w.heap.size,0,none⟩=some (.slice (some ⟨pb,poff,none⟩) 1 pc)∧w'.cell? ⟨w.heap.size,1,none⟩=some (.slice ao 1 cap)∧w'.cell? ⟨pb,poff,none⟩=some (.int .i64 p0))
    ((first | (refine STAY.out _ ?_; first | exact hk1 | exact hk1.drew | exact hk0 | exact hk0.drew)))
    (first
    | (go_at_call 25; (with_reducible refine Calls.mono (FI.out _ (by first | exact hk0 | exact hk0.drew)) ?_); rintro e u1 ⟨a1,k1,c1,rfl,hn,hb⟩; have hk1:Below W.heap.size W u1:=(by first | exact below_of hk0 hb | exact below_of hk0.drew hb); have TK1:True:=trivial; have M1:=Lib.hid hn; clear hn hb))
  all_goals
    go_wp2
    go_ret
    exact ⟨rfl,below_of BL.out (by first | exact hk1 | exact hk1.drew)⟩
end Go.Proofs.YtacbkpenohcgjaaGreat
