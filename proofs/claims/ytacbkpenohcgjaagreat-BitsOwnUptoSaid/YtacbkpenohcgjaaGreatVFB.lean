import Derived.Test.YtacbkpenohcgjaaGreatVFA
import Derived.Deep.RegionWith
set_option linter.unusedVariables false
set_option linter.unusedSimpArgs false
set_option maxHeartbeats 4000000
set_option maxRecDepth 100000
namespace Go.Proofs.YtacbkpenohcgjaaGreat
open Go.RowKit Mth
def smB (z:Int):Bool:=decide (-9223372036854775808≤z∧z≤9223372036854775807)
def smV (z:Int):Int:=if -9223372036854775808≤z∧z≤9223372036854775807 then z else 0
theorem sm_in {z:Int} (h:-9223372036854775808≤z∧z≤9223372036854775807):smV z=z∧smB z=true:=⟨if_pos h,decide_eq_true h⟩
theorem sm_out {z:Int} (h:¬ (-9223372036854775808≤z∧z≤9223372036854775807)):smV z=0∧smB z=false:=⟨if_neg h,decide_eq_false h⟩
def SmD (ds:List Nat) (x i:Value):Prop:=∃ k:Nat,k≤ds.length∧i=.int .i64 ((k:Int) - 1)∧x=.int .u64 ((val B16 (ds.drop k):Nat):Int)
theorem drop_lt {ds:List Nat} (l:Lim B16 ds) (h:ds.length≤4) {k:Nat} (hk:0<k):val B16 (ds.drop k)<65536 ^ 3:=by
  have h1:=val_lt (lim_drop l k)
  have h2:(ds.drop k).length≤3:=by rw [List.length_drop]; omega
  exact Nat.lt_of_lt_of_le h1 (Nat.pow_le_pow_right (by unfold B16; omega) h2)
theorem cmp1F (va vb:Value) (x y o:Int) (w:World) (ha:ZV w va x) (hb:ZV w vb y) (ho:zcmp x y=o):Calls Tryz.prog 44 #[va,vb] w fun e w'=>e=.returned (.int .i64 o)∧Below w.heap.size w w':=by
  subst ho; exact cmp1_any va vb x y w ha hb
theorem zcmp_le {x y:Int} (h:x≤y):zcmp x y≤0:=by
  rcases (show x<y∨x=y by omega) with h | h
  · rw [zcmp_lt h]; omega
  · rw [zcmp_eq h]; omega
theorem zcmp_ge {x y:Int} (h:y≤x):0≤zcmp x y:=by
  rcases (show y<x∨x=y by omega) with h | h
  · rw [zcmp_gt h]; omega
  · rw [zcmp_eq h]; omega
theorem rsmall_any2 (v:Value) (z:Int) (w:World) (h:IntV w v z):Calls Tryz.prog 90 #[v] w fun e w'=>e=.returned (.tuple #[.int .i64 (smV z),.bool (smB z)])∧Below w.heap.size w w':=by
  obtain ⟨n,ao,k,c,rfl⟩:=h.shape
  have H:=Lib.hid h; clear h
  go_enter Tryz.func90,Tryz.ntmps90
  go_wp2_with fail
  obtain ⟨W,eW,h1,bel,hsz⟩:=alloc1 w (Obj.cells #[Value.bool n,Value.slice ao k c] 50)
  rw [eW]
  have B:=Lib.hid bel
  clear eW h1 hsz bel
  refine (from_any2 _ z W (H.out.below B.out)).mono ?_
  rintro e w1 ⟨v1,rfl,hz,hb⟩
  obtain ⟨n1,a1,k1,c1,rfl⟩:=hz.shape
  obtain ⟨rfl,ds,s1,l1,t1,e1,rfl⟩:=hz.parts
  have Z1:=Lib.hid hz; have B1:=Lib.hid (below_of B.out hb)
  clear hz hb
  go_wp2_with fail
  obtain ⟨V,eV,hV,belV,hszV⟩:=alloc1 w1 (Obj.cells #[Value.bool (sgn z),Value.slice a1 ds.length c1] 61)
  rw [eV]
  have BV:=Lib.hid (below_of B1.out belV)
  have ZV':=Lib.hid (Z1.out.below belV)
  have S1:=Lib.hid (s1.below belV); have L1:=Lib.hid l1; have T1:=Lib.hid t1; have E1:=Lib.hid e1
  obtain ⟨p0,p1,_,_,_⟩:=blk2 hV
  have STAY:Hid (∀ w',Below V.heap.size V w'→w'.cell? ⟨w1.heap.size,0,none⟩=some (.bool (sgn z))∧w'.cell? ⟨w1.heap.size,1,none⟩=some (.slice a1 ds.length c1)∧Below V.heap.size V w') :=
    Lib.hid (fun w' h=>⟨cell_to h p0 hszV,cell_to h p1 hszV,h⟩)
  have hB0:=(Below.refl V.heap.size V).drew
  clear eV hV belV hszV s1 l1 t1 e1
  by_cases hmax:z≤9223372036854775807
  · have O1:=Lib.hid (zcmp_le hmax)
    obtain ⟨o1,ho1⟩:∃ o,zcmp z 9223372036854775807=o:=⟨_,rfl⟩
    have HO1:=Lib.hid ho1
    have ho1':o1≤0:=by rw [← ho1]; exact O1.out
    obtain ⟨o2,ho2⟩:∃ o,zcmp z (-9223372036854775808)=o:=⟨_,rfl⟩
    have HO2:=Lib.hid ho2
    clear ho1 O1
    by_cases hmin:-9223372036854775808≤z
    · have ho2':0≤o2:=by rw [← ho2]; exact zcmp_ge hmin
      have E:=Lib.hid (sm_in (z:=z) ⟨hmin,hmax⟩)
      have hlen:ds.length≤4:=length_of_val B16_pos T1.out 4 (by rw [E1.out]; unfold B16; omega)
      have HMZ:Hid (-9223372036854775808≤z∧z≤9223372036854775807):=Lib.hid ⟨hmin,hmax⟩
      have hd1:decide ((0:Int)<o1)=false:=decide_eq_false (by omega)
      have hd2:decide (o2<(0:Int))=false:=decide_eq_false (by omega)
      clear ho2 hmin hmax p0 p1
      obtain ⟨p0,p1,_⟩:=STAY.out _ hB0
      go_region_held3 (fun w'=>w'.cell? ⟨w1.heap.size,0,none⟩=some (.bool (sgn z))∧w'.cell? ⟨w1.heap.size,1,none⟩=some (.slice a1 ds.length c1)∧Below V.heap.size V w')
        ((try go_split_ands; refine STAY.out _ ?_; first | assumption | exact below_to (by assumption) (by assumption)))
        (first
        | (go_at_call 43; go_split_ands; first
          | ((with_reducible refine Calls.mono (small1_any 9223372036854775807 _ ?_ ?_) ?_); (exact (by omega)); (exact (by omega)); rintro e w2 ⟨v2,rfl,hz2,hb2⟩; obtain ⟨m2,d2,l2,e2,rfl⟩:=hz2.shape)
          | ((with_reducible refine Calls.mono (small1_any (-9223372036854775808) _ ?_ ?_) ?_); (exact (by omega)); (exact (by omega)); rintro e w3 ⟨v3,rfl,hz3,hb3⟩; obtain ⟨m3,d3,l3,e3,rfl⟩:=hz3.shape))
        | (go_at_call 44; go_split_ands; first
          | (refine Calls.mono (cmp1F _ _ z 9223372036854775807 _ _ ?_ ?_ HO1.out) ?_; (exact ZV'.out.below (by assumption)); (exact hz2); rintro e w4 ⟨rfl,hb4⟩; clear hz2)
          | (refine Calls.mono (cmp1F _ _ z (-9223372036854775808) _ _ ?_ ?_ HO2.out) ?_; (exact ZV'.out.below (by assumption)); (exact hz3); rintro e w5 ⟨rfl,hb5⟩; clear hz3)))
      obtain ⟨x0,x1,hB5⟩:=STAY.out w5 (by first | assumption | (go_split_ands; assumption))
      have B5:=Lib.hid (below_of BV.out hB5)
      have S5:=Lib.hid (S1.out.below hB5)
      clear STAY
      go_wp2_with fail
      go_loop [5,6] (fun x i=>SmD ds x i) (fun _ i=>(intOf i+1).toNat)
      case atStart=>exact ⟨ds.length,Nat.le_refl _,rfl,by rw [List.drop_length]; rfl⟩
      case round =>
        obtain ⟨k,hk,rfl,rfl⟩:=hrel
        by_cases h0:0<k
        · obtain ⟨j,rfl⟩:∃ j,k=j+1:=⟨k - 1,by omega⟩
          rw [show (((j+1:Nat):Int) - 1)=(j:Int) by omega]
          have hx3:=drop_lt L1.out hlen (Nat.succ_pos j)
          have hd:=L1.out j
          have HV:=Lib.hid (val_drop B16 ds j (by omega))
          have HOR:=Lib.hid (or16 (val B16 (ds.drop (j+1))) (ds.getD j 0) hx3 hd)
          obtain ⟨b,off,cap,e,hc1,hc2,hblt,hc⟩:=S5.out.pos (by omega)
          simp only [Value.slice.injEq] at e
          obtain ⟨rfl,_,rfl⟩:=e
          have hck:=hc j (by omega)
          generalize ds.getD j 0=d at *
          generalize val B16 (ds.drop (j+1))=X at *
          have hX4:X<281474976710656:=hx3
          have hsh:IntKind.u64.wrap ((X:Int)*65536)=((X*65536:Nat):Int):=by rw [IntKind.wrap_u64]; omega
          have hw:IntKind.u64.wrap (d:Int)=(d:Int):=wrap_u64 d (by unfold B16 at hd; unfold B64; omega)
          unfold maxLen at hc2
          clear hc hx3 h0
          go_wp2
          refine ⟨?_,by simp [intOf]⟩
          rw [HOR.out]
          exact ⟨j,by omega,by go_num,by rw [HV.out]; congr 2; unfold B16; omega⟩
        · obtain rfl:k=0:=by omega
          have hv0:val B16 (ds.drop 0)=z.natAbs:=by rw [List.drop_zero,E1.out]
          rw [hv0]
          obtain ⟨m,hmz⟩:∃ m:Nat,z.natAbs=m:=⟨_,rfl⟩
          have hmr:=HMZ.out
          rw [hmz]
          by_cases hn:z<0
          · have hs:sgn z=true:=sgn_neg hn
            have w1':IntKind.u64.wrap (-(m:Int))=z+18446744073709551616:=by rw [IntKind.wrap_u64]; omega
            have w2':IntKind.i64.wrap (z+18446744073709551616)=z:=by rw [IntKind.wrap_i64]; omega
            clear hmz hn hmr h0 hv0
            go_wp2
            go_ret2
            exact ⟨by rw [E.out.1,E.out.2]; rfl,B5.out⟩
          · have hs:sgn z=false:=sgn_pos (by omega)
            have HM:Hid ((m:Int)=z):=Lib.hid (by omega)
            have hmb:(m:Int)≤9223372036854775807:=by omega
            clear hmz hn hmr h0 hv0
            go_wp2
            go_ret2
            exact ⟨by rw [E.out.1,E.out.2,← HM.out]; rfl,B5.out⟩
    · have ho2':o2<0:=by rw [← ho2,zcmp_lt (by omega)]; omega
      have E:=Lib.hid (sm_out (z:=z) (by omega))
      have hd1:decide ((0:Int)<o1)=false:=decide_eq_false (by omega)
      have hd2:decide (o2<(0:Int))=true:=decide_eq_true (by omega)
      clear ho2 hmin hmax p0 p1
      obtain ⟨p0,p1,_⟩:=STAY.out _ hB0
      go_region_held3 (fun w'=>w'.cell? ⟨w1.heap.size,0,none⟩=some (.bool (sgn z))∧w'.cell? ⟨w1.heap.size,1,none⟩=some (.slice a1 ds.length c1)∧Below V.heap.size V w')
        ((try go_split_ands; refine STAY.out _ ?_; first | assumption | exact below_to (by assumption) (by assumption)))
        (first
        | (go_at_call 43; go_split_ands; first
          | ((with_reducible refine Calls.mono (small1_any 9223372036854775807 _ ?_ ?_) ?_); (exact (by omega)); (exact (by omega)); rintro e w2 ⟨v2,rfl,hz2,hb2⟩; obtain ⟨m2,d2,l2,e2,rfl⟩:=hz2.shape)
          | ((with_reducible refine Calls.mono (small1_any (-9223372036854775808) _ ?_ ?_) ?_); (exact (by omega)); (exact (by omega)); rintro e w3 ⟨v3,rfl,hz3,hb3⟩; obtain ⟨m3,d3,l3,e3,rfl⟩:=hz3.shape))
        | (go_at_call 44; go_split_ands; first
          | (refine Calls.mono (cmp1F _ _ z 9223372036854775807 _ _ ?_ ?_ HO1.out) ?_; (exact ZV'.out.below (by assumption)); (exact hz2); rintro e w4 ⟨rfl,hb4⟩; clear hz2)
          | (refine Calls.mono (cmp1F _ _ z (-9223372036854775808) _ _ ?_ ?_ HO2.out) ?_; (exact ZV'.out.below (by assumption)); (exact hz3); rintro e w5 ⟨rfl,hb5⟩; clear hz3)))
      obtain ⟨x0,x1,hB5⟩:=STAY.out w5 (by first | assumption | (go_split_ands; assumption))
      have B5:=Lib.hid (below_of BV.out hB5)
      clear STAY
      go_wp2
      go_ret2
      exact ⟨by rw [E.out.1,E.out.2]; rfl,B5.out⟩
  · have HO1:=Lib.hid (zcmp_gt (a:=z) (b:=9223372036854775807) (by omega))
    have E:=Lib.hid (sm_out (z:=z) (by omega))
    clear hmax
    go_region_with (first
      | (go_at_call 43; ((with_reducible refine Calls.mono (small1_any 9223372036854775807 _ ?_ ?_) ?_); (exact (by omega)); (exact (by omega)); rintro e w2 ⟨v2,rfl,hz2,hb2⟩; obtain ⟨m2,d2,l2,e2,rfl⟩:=hz2.shape; obtain ⟨x0,x1,hB2⟩:=STAY.out _ (below_to hb2 (by assumption))))
      | (go_at_call 44; (refine Calls.mono (cmp1F _ _ z 9223372036854775807 _ _ ?_ ?_ HO1.out) ?_; (exact ZV'.out.below (by assumption)); (exact hz2); rintro e w4 ⟨rfl,hb4⟩; obtain ⟨y0,y1,hB4⟩:=STAY.out _ (below_to hb4 (by assumption)))))
    all_goals
      go_wp2
      go_ret2
      exact ⟨by rw [E.out.1,E.out.2]; rfl,below_of BV.out (by assumption)⟩
end Go.Proofs.YtacbkpenohcgjaaGreat
