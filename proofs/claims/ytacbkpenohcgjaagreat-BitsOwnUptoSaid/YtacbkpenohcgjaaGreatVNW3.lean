import Derived.Test.YtacbkpenohcgjaaGreatVNP9
import Derived.Test.YtacbkpenohcgjaaGreatVNW2
import Derived.Test.YtacbkpenohcgjaaGreatVNV9
import Derived.Test.YtacbkpenohcgjaaGreatVFB
import Derived.Deep.AppendLies
import Derived.Test.YtacbkpenohcgjaaGreatVN4
import Derived.Deep.RegionHeld3
set_option linter.unusedVariables false
set_option linter.unusedSimpArgs false
set_option maxHeartbeats 16000000
set_option maxRecDepth 100000
namespace Go.Proofs.YtacbkpenohcgjaaGreat
open Go.RowKit Mth
theorem step_append_bool {w:World} {ops:Array Oper} {o:Oper} {a:Act} {K:Act→World→Prop} {Q:Exit→Act→World→Prop} {E:Prop} (hgd:o.guard=none) (s x:Operand)
    (ho:o.op=.call { callee:=.builtin .append,args:=#[s,x],argTypes:=#[53,53] }) (base:Nat) (v:Value) (xs:List Bool) (y:Bool) (ad:Addr)
    (hs:a.eval s=v) (hx:a.eval x=.slice (some ad) 1 1) (hown:w.ownsRow base 4 1 v xs.length (bcells xs)) (hc:w.cell? ad=some (.bool y)) (hlen:xs.length≤16777216) (hbase:base≤w.heap.size)
    (h:∀ v' w',w'.ownsRow base 4 1 v' (xs++[y]).length (bcells (xs++[y]))→w.grownBy w' v.ownBlock→K (a.put o.dst v') w') :
    if Region.wanted o (yielded ops a.tmps)=true then Oper.wp Tryz.prog o a w K Q else E:=by
  obtain ⟨i0,hi,hz0,hz1,hz2⟩:=info_parts info_b1
  refine step_append_lies w hgd s x 53 ho base 4 i0 _ 1 1 Tryz.underlying53 hi hz0 hz1 hz2 rfl (by decide) v _ _ hs hown ad 1 1 [.bool y] hx rfl ?_ ?_ (by decide)
    (by unfold maxLen; omega) (by omega) hbase _ rfl ?_
  · intro j u hj
    match j,hj with
    | 0,hj=>simp at hj; subst hj; simpa [Addr.add] using hc
  · intro u hu
    simp at hu; subst hu; rfl
  · intro g cap w' h2 h3 _ _
    refine h _ w' ?_ h3
    unfold bcells
    rw [List.map_append,List.length_append]
    exact h2
theorem own_belowB {w w':World} {base size n:Nat} {e:TypeId} {v:Value} {xs:List Value} (h:w.ownsRow base e size v n xs) (hb:Below w.heap.size w w'):w'.ownsRow base e size v n xs :=
  h.kept (row:=none) ⟨hb.os,hb.tape,hb.output,hb.size,fun k hk _=>hb.block k hk⟩ (by cases hv:v.ownBlock with
    | none=>exact .inl rfl
    | some x=>exact .inr (by simp))
def eachF (op:Nat) (x y:Bool):Bool:=if op=45 then x&&y else if op=46 then x || y else if op=47 then x != y else if op=48 then !(x&&y) else if op=49 then !(x || y) else if op=50 then x == y else !x
theorem each_43 (x y:Bool) (w:World):Calls Tryz.prog 15 #[.int .i64 43,.bool x,.bool y] w fun e w'=>e=.returned (.bool (eachF 43 x y))∧Below w.heap.size w w':=by
  cases x<;>cases y
  all_goals
    go_enter Tryz.func15,Tryz.ntmps15
    go_wp2
    go_ret
    exact ⟨rfl,Below.refl _ _⟩
theorem each_45 (x y:Bool) (w:World):Calls Tryz.prog 15 #[.int .i64 45,.bool x,.bool y] w fun e w'=>e=.returned (.bool (eachF 45 x y))∧Below w.heap.size w w':=by
  cases x<;>cases y
  all_goals
    go_enter Tryz.func15,Tryz.ntmps15
    go_wp2
    go_ret
    exact ⟨rfl,Below.refl _ _⟩
theorem each_46 (x y:Bool) (w:World):Calls Tryz.prog 15 #[.int .i64 46,.bool x,.bool y] w fun e w'=>e=.returned (.bool (eachF 46 x y))∧Below w.heap.size w w':=by
  cases x<;>cases y
  all_goals
    go_enter Tryz.func15,Tryz.ntmps15
    go_wp2
    go_ret
    exact ⟨rfl,Below.refl _ _⟩
theorem each_47 (x y:Bool) (w:World):Calls Tryz.prog 15 #[.int .i64 47,.bool x,.bool y] w fun e w'=>e=.returned (.bool (eachF 47 x y))∧Below w.heap.size w w':=by
  cases x<;>cases y
  all_goals
    go_enter Tryz.func15,Tryz.ntmps15
    go_wp2
    go_ret
    exact ⟨rfl,Below.refl _ _⟩
theorem each_48 (x y:Bool) (w:World):Calls Tryz.prog 15 #[.int .i64 48,.bool x,.bool y] w fun e w'=>e=.returned (.bool (eachF 48 x y))∧Below w.heap.size w w':=by
  cases x<;>cases y
  all_goals
    go_enter Tryz.func15,Tryz.ntmps15
    go_wp2
    go_ret
    exact ⟨rfl,Below.refl _ _⟩
theorem each_49 (x y:Bool) (w:World):Calls Tryz.prog 15 #[.int .i64 49,.bool x,.bool y] w fun e w'=>e=.returned (.bool (eachF 49 x y))∧Below w.heap.size w w':=by
  cases x<;>cases y
  all_goals
    go_enter Tryz.func15,Tryz.ntmps15
    go_wp2
    go_ret
    exact ⟨rfl,Below.refl _ _⟩
theorem each_50 (x y:Bool) (w:World):Calls Tryz.prog 15 #[.int .i64 50,.bool x,.bool y] w fun e w'=>e=.returned (.bool (eachF 50 x y))∧Below w.heap.size w w':=by
  cases x<;>cases y
  all_goals
    go_enter Tryz.func15,Tryz.ntmps15
    go_wp2
    go_ret
    exact ⟨rfl,Below.refl _ _⟩
def mapF (F:Nat→Bool) (k:Nat):List Bool:=(List.range k).map F
theorem mapF_len (F:Nat→Bool) (k:Nat):(mapF F k).length=k:=by unfold mapF; simp
theorem mapF_succ (F:Nat→Bool) (k:Nat):mapF F (k+1)=mapF F k++[F k]:=by unfold mapF; rw [List.range_succ,List.map_append]; rfl
def BoF (w:World) (v:Value) (wd m:Nat):Prop:=∃ ao cap,v=.slice ao wd cap∧(0<wd→∃ b off,ao=some ⟨b,off,none⟩∧b<w.heap.size∧∀ j,j<wd→w.cell? ⟨b,off+j,none⟩=some (.bool (m.testBit j)))
theorem BoF.below {w w':World} {v:Value} {wd m:Nat} (h:BoF w v wd m) (hb:Below w.heap.size w w'):BoF w' v wd m:=by
  obtain ⟨ao,cap,rfl,h⟩:=h
  refine ⟨ao,cap,rfl,fun hp=>?_⟩
  obtain ⟨b,off,rfl,hlt,h⟩:=h hp
  exact ⟨b,off,rfl,Nat.lt_of_lt_of_le hlt hb.size,fun j hj=>(hb.cell (p:=⟨b,off+j,none⟩) hlt).trans (h j hj)⟩
theorem bof_of {w:World} {v:Value} {wd m:Nat} (h:BoL w v (mapF (fun i=>m.testBit i) wd)):BoF w v wd m:=by
  obtain ⟨ao,cap,rfl,h⟩:=h
  refine ⟨ao,cap,by rw [mapF_len],fun hp=>?_⟩
  obtain ⟨b,off,rfl,hlt,h⟩:=h (by rw [mapF_len]; exact hp)
  refine ⟨b,off,rfl,hlt,fun j hj=>?_⟩
  rw [h j (by rw [mapF_len]; exact hj)]
  simp [mapF]
def BwO (w wr:World) (F:Nat→Bool) (n:Nat) (v i:Value):Prop:=∃ k,k≤n∧i=.int .i64 (k:Int)∧wr.ownsRow w.heap.size 4 1 v (mapF F k).length (bcells (mapF F k))∧Below w.heap.size w wr
theorem digits_any (wd:Nat) (hw:wd≤4096) (u:Value) (xs:List Nat) (w:World) (hs:Sl w .u64 u xs) (hl:Lim B64 xs) :
    Calls Tryz.prog 34 #[.agg #[.int .i64 (wd:Int),u]] w fun e w'=>∃ ao cap,e=.returned (.slice ao wd cap)∧BoF w' (.slice ao wd cap) wd (val B64 xs)∧Below w.heap.size w w':=by
  obtain ⟨ao,cap,hu⟩:=hs.shape
  subst hu
  obtain ⟨W,eW,gW,bW,hWs⟩:=alloc1n w (Obj.cells #[.int .i64 (wd:Int),.slice ao xs.length cap] 28)
  have BI:Hid (∀ w1,Below W.heap.size W w1→∀ i:Nat,i≤16777216→Calls Tryz.prog 16 #[.agg #[.int .i64 (wd:Int),.slice ao xs.length cap],.int .i64 (i:Int)] w1 fun e w'=>e=.returned (.bool ((val B64 xs).testBit i))∧Below w1.heap.size w1 w'):=Lib.hid (fun w1 hb i hi=>by
    have h:=rbit9_any (wd:Int) _ xs i hi w1 ((hs.below bW).below hb) hl
    rw [bitN_tb] at h
    exact h)
  have BW:=Lib.hid bW; have GW:=Lib.hid gW; have EW:=Lib.hid eW
  generalize val B64 xs=n at *
  clear gW bW eW hs hl
  go_enter Tryz.func34,Tryz.ntmps34
  go_upto_region 1 with fail
  rw [EW.out]
  go_wp2_with fail
  go_loopw [3,4] (fun v i wr=>BwO W wr (fun i=>n.testBit i) wd v i) (fun _ i _=>wd - (intOf i).toNat)
  case atStart=>exact ⟨0,Nat.zero_le _,rfl,World.ownsRow_nil _ _ _ _,Below.refl _ _⟩
  case round =>
    obtain ⟨k,hk,rfl,hown,hB⟩:=hrel
    have HB:=Lib.hid hB; have HO:=Lib.hid hown
    obtain ⟨d0,d1,_,_,_⟩:=blk2 (car hB GW.out)
    clear hB hown
    by_cases hlt:k<wd
    · have BT:=Lib.hid (BI.out wr HB.out k (by omega))
      have MS:=Lib.hid (mapF_succ (fun i=>n.testBit i) k)
      have HLN:Hid ((mapF (fun i=>n.testBit i) k).length≤16777216):=Lib.hid (by rw [mapF_len]; omega)
      go_wp2_with fail
      refine BT.out.mono ?_
      rintro e w1 ⟨rfl,hb1⟩
      have HO1:=Lib.hid (own_belowB HO.out hb1)
      have HB1:=Lib.hid (below_of HB.out hb1)
      clear hb1
      go_wp2_with (refine append_bool (o:=⟨some 16,_,_,_,_,_⟩) rfl _ _ rfl W.heap.size _ _ (n.testBit k) ⟨w1.heap.size,0,none⟩ rfl rfl (HO1.out.alloc _) (World.cell?_alloc_new _ _ _ _) HLN.out (by have:=HB1.out.size; simp; omega) ?_; intro v' w2 hown2 hg2; have HO2:=Lib.hid hown2; have HB2:=Lib.hid (below_own (HB1.out.alloc HB1.out.size _) (HO1.out.alloc _) hg2 (by have:=HB1.out.size; simp; omega)); clear hown2 hg2)
      go_roundw
      case rel=>exact ⟨k+1,hlt,by go_num,by rw [MS.out]; exact HO2.out,HB2.out⟩
      case measure=>simp [intOf]; omega
    · obtain rfl:k=wd:=by omega
      have BL:=own_bol HO.out
      obtain ⟨a1,c1,e1,-⟩:=BL
      have hF:=bof_of (own_bol HO.out)
      subst e1
      rw [mapF_len] at hF
      have HF:=Lib.hid hF
      rw [mapF_len]
      clear hF
      go_wp2
      go_ret
      exact ⟨a1,c1,rfl,HF.out,below_of BW.out HB.out⟩
theorem rshift_any (wd n:Nat) (hw:wd≤4096) (x:Int) (u:Value) (xs:List Nat) (w:World) (hs:Sl w .u64 u xs) (hl:Lim B64 xs) (h3:xs.length≤4000000) (hn:val B64 xs=n) :
    Calls Tryz.prog 36 #[.agg #[.int .i64 x,u],.int .i64 (wd:Int)] w fun e w'=>e=.returned (.int .i64 ((shN wd n:Nat):Int))∧Below w.heap.size w w':=by
  subst hn
  obtain ⟨ao,cap,hu⟩:=hs.shape
  subst hu
  obtain ⟨W,eW,gW,bW,hWs⟩:=alloc1n w (Obj.cells #[.int .i64 x,.slice ao xs.length cap] 28)
  have SM:=Lib.hid (rsmall_any2 _ ((val B64 xs:Nat):Int) W (intV_of (hs.below bW) hl h3 rfl))
  have BW:=Lib.hid bW; have EW:=Lib.hid eW
  obtain ⟨c0,c1,f0,f1,_⟩:=blk2 gW
  generalize val B64 xs=n at *
  clear hs hl gW bW eW
  have hsm:(smB (n:Int)=false∧wd<n)∨(smB (n:Int)=true∧smV (n:Int)=(n:Int)):=by
    by_cases h:n≤9223372036854775807
    · exact .inr ⟨(sm_in ⟨by omega,by omega⟩).2,(sm_in ⟨by omega,by omega⟩).1⟩
    · exact .inl ⟨(sm_out (by omega)).2,by omega⟩
  unfold shN
  generalize smB (n:Int)=sb at *
  generalize smV (n:Int)=sv at *
  rcases hsm with ⟨rfl,h⟩ | ⟨rfl,rfl⟩
  · rw [if_neg (by omega)]
    clear h
    go_enter Tryz.func36,Tryz.ntmps36
    go_upto_region 1 with fail
    rw [EW.out]
    go_wp2_with fail
    refine SM.out.mono ?_
    rintro e w2 ⟨rfl,hb2⟩
    have B2:=Lib.hid (below_of BW.out hb2)
    clear hb2
    go_wp2
    go_ret
    exact ⟨rfl,B2.out⟩
  · by_cases h:n≤wd
    · rw [if_pos h]
      have h':¬ (wd:Int)<(n:Int):=by omega
      clear h
      go_enter Tryz.func36,Tryz.ntmps36
      go_upto_region 1 with fail
      rw [EW.out]
      go_wp2_with fail
      refine SM.out.mono ?_
      rintro e w2 ⟨rfl,hb2⟩
      have B2:=Lib.hid (below_of BW.out hb2)
      clear hb2
      go_wp2
      go_ret
      exact ⟨rfl,B2.out⟩
    · rw [if_neg h]
      have h':(wd:Int)<(n:Int):=by omega
      clear h
      go_enter Tryz.func36,Tryz.ntmps36
      go_upto_region 1 with fail
      rw [EW.out]
      go_wp2_with fail
      refine SM.out.mono ?_
      rintro e w2 ⟨rfl,hb2⟩
      have B2:=Lib.hid (below_of BW.out hb2)
      clear hb2
      go_wp2
      go_ret
      exact ⟨rfl,B2.out⟩
end Go.Proofs.YtacbkpenohcgjaaGreat
namespace Go.Proofs.YtacbkpenohcgjaaGreat
open Go.RowKit Mth
theorem rapply_err (op er:Int) (her:er≠0) (pv av:Value) (w:World) (hpv:∃ po pn pc,pv=.slice po pn pc) (hav:∃ ao ak ac,av=.slice ao ak ac)
    (CH:∀ w1,Below w.heap.size w w1→Calls Tryz.prog 13 #[.int .i64 op,pv,av,.int .i64 1] w1 fun e w'=>e=.returned (.int .i64 er)∧Below w1.heap.size w1 w') :
    Calls Tryz.prog 6 #[.int .i64 op,pv,av] w fun e w'=>ResN w w' e 0 er 0:=by
  obtain ⟨po,pn,pc,rfl⟩:=hpv
  obtain ⟨ao,ak,ac,rfl⟩:=hav
  obtain ⟨W,eW,gW,bW,hWs⟩:=alloc1n w (Obj.cells #[.int .i64 0,.slice none 0 0] 28)
  have CC:=Lib.hid (CH W bW)
  have GW:=Lib.hid gW; have BW:=Lib.hid bW
  have de:(er != 0)=true:=bne_iff_ne.2 her
  clear gW bW CH her
  go_enter Tryz.func6,Tryz.ntmps6
  go_wp2_with fail
  try rw [eW]
  refine CC.out.mono ?_
  rintro e w2 ⟨rfl,hb2⟩
  have B2:=Lib.hid (below_of BW.out hb2)
  have G2:=Lib.hid (car hb2 GW.out)
  obtain ⟨q0,q1,r0,r1,_⟩:=blk2 G2.out
  clear hb2
  go_wp2
  exact bodyPost_ret (results_bte rfl rfl rfl (set2_row _ _ G2.out)) rfl ⟨none,0,0,rfl,slN_nil _,(B2.out.setCell (Nat.le_refl _) _).setCell (Nat.le_refl _) _⟩
theorem rapply_mv (op:Int) (hop:op=41∨op=42∨op=60∨op=61∨op=62∨op=63∨op=64∨op=65∨op=66∨op=67) (pv av:Value) (wx:Nat) (h1:1≤wx) (hwx:wx≤4096) (w:World) (hpv:∃ po pn pc,pv=.slice po pn pc) (hav:∃ ao ak ac,av=.slice ao ak ac)
    (CH:∀ w1,Below w.heap.size w w1→Calls Tryz.prog 13 #[.int .i64 op,pv,av,.int .i64 1] w1 fun e w'=>e=.returned (.int .i64 0)∧Below w1.heap.size w1 w')
    (WI:∀ w1,Below w.heap.size w w1→Calls Tryz.prog 14 #[.int .i64 op,pv,av] w1 fun e w'=>e=.returned (.int .i64 (wx:Int))∧Below w1.heap.size w1 w')
    (F:Nat→Bool) (N:Nat) (MV:∀ w1,Below w.heap.size w w1→Calls Tryz.prog 18 #[.int .i64 op,pv,av,.int .i64 (wx:Int)] w1 fun e w'=>∃ v',e=.returned v'∧BoL w' v' (mapF F wx)∧Below w1.heap.size w1 w') (hN:bitsN (mapF F wx)=N) :
    Calls Tryz.prog 6 #[.int .i64 op,pv,av] w fun e w'=>ResN w w' e (wx:Int) 0 N:=by
  obtain ⟨po,pn,pc,rfl⟩:=hpv
  obtain ⟨ao,ak,ac,rfl⟩:=hav
  obtain ⟨W,eW,gW,bW,hWs⟩:=alloc1n w (Obj.cells #[.int .i64 0,.slice none 0 0] 28)
  have CC:=Lib.hid (CH W bW)
  have WW:Hid (∀ w1,Below W.heap.size W w1→_):=Lib.hid (fun w1 hb=>WI w1 (below_of bW hb))
  have MM:Hid (∀ w1,Below W.heap.size W w1→_):=Lib.hid (fun w1 hb=>MV w1 (below_of bW hb))
  have MK:Hid (∀ v w1,BoL w1 v (mapF F wx)→Calls Tryz.prog 17 #[v] w1 fun e w'=>ResV w1 w' e (wx:Int) N):=Lib.hid (fun v w1 hv=>by
    have h:=make9_any v _ (by rw [mapF_len]; omega) w1 hv
    rw [mapF_len,hN] at h
    exact h)
  have GW:=Lib.hid gW; have BW:=Lib.hid bW
  clear gW bW CH WI MV hN
  rcases hop with rfl | rfl | rfl | rfl | rfl | rfl | rfl | rfl | rfl | rfl
  all_goals
    go_enter Tryz.func6,Tryz.ntmps6
    go_wp2_with fail
    try rw [eW]
    refine CC.out.mono ?_
    rintro e w2 ⟨rfl,hb2⟩
    have H2:=Lib.hid hb2
    clear hb2
    go_wp2_with fail
    refine (WW.out _ H2.out).mono ?_
    rintro e w3 ⟨rfl,hb3⟩
    have H3:=Lib.hid (below_of H2.out hb3)
    clear hb3
    go_wp2_with fail
    refine (MM.out _ H3.out).mono ?_
    rintro e w4 ⟨v4,rfl,hbo,hb4⟩
    have H4:=Lib.hid (below_of H3.out hb4)
    have M4:=Lib.hid (MK.out _ _ hbo)
    obtain ⟨ao4,c4,rfl,-⟩:=hbo
    clear hb4
    go_wp2_with fail
    refine M4.out.mono ?_
    rintro e w5 ⟨a5,k5,c5,rfl,hs5,hb5⟩
    have H5:=Lib.hid (below_of H4.out hb5)
    have S5:=Lib.hid hs5
    clear hs5 hb5
    have B5:=Lib.hid (below_of BW.out H5.out)
    have G5:=Lib.hid (car H5.out GW.out)
    obtain ⟨q0,q1,r0,r1,_⟩:=blk2 G5.out
    go_wp2
    exact bodyPost_ret (results_bte rfl rfl rfl (set2_row _ _ G5.out)) rfl ⟨_,_,_,rfl,S5.out.far G5.out ns_u64,(B5.out.setCell (Nat.le_refl _) _).setCell (Nat.le_refl _) _⟩
theorem rapply_rk (op:Int) (hop:op=44∨op=51∨op=52∨op=53∨op=54∨op=55∨op=56∨op=57∨op=58∨op=59) (pv av:Value) (wx:Nat) (h1:1≤wx) (hwx:wx≤4096) (w:World) (hpv:∃ po pn pc,pv=.slice po pn pc) (hav:∃ ao ak ac,av=.slice ao ak ac)
    (CH:∀ w1,Below w.heap.size w w1→Calls Tryz.prog 13 #[.int .i64 op,pv,av,.int .i64 1] w1 fun e w'=>e=.returned (.int .i64 0)∧Below w1.heap.size w1 w')
    (WI:∀ w1,Below w.heap.size w w1→Calls Tryz.prog 14 #[.int .i64 op,pv,av] w1 fun e w'=>e=.returned (.int .i64 (wx:Int))∧Below w1.heap.size w1 w')
    (z:Int) (hz:z.natAbs<HugeD) (RE:∀ w1,Below w.heap.size w w1→Calls Tryz.prog 20 #[.int .i64 op,av] w1 fun e w'=>ResZ9 w1 w' e z) :
    Calls Tryz.prog 6 #[.int .i64 op,pv,av] w fun e w'=>ResN w w' e (wx:Int) 0 (vecN wx z):=by
  obtain ⟨po,pn,pc,rfl⟩:=hpv
  obtain ⟨ao,ak,ac,rfl⟩:=hav
  obtain ⟨W,eW,gW,bW,hWs⟩:=alloc1n w (Obj.cells #[.int .i64 0,.slice none 0 0] 28)
  have CC:=Lib.hid (CH W bW)
  have WW:Hid (∀ w1,Below W.heap.size W w1→_):=Lib.hid (fun w1 hb=>WI w1 (below_of bW hb))
  have RR:Hid (∀ w1,Below W.heap.size W w1→_):=Lib.hid (fun w1 hb=>RE w1 (below_of bW hb))
  have MD:Hid (∀ v w1,ZV w1 v z→Calls Tryz.prog 19 #[.int .i64 (wx:Int),v] w1 fun e w'=>ResV w1 w' e (wx:Int) (vecN wx z)):=Lib.hid (fun v w1 hv=>rMod_any wx hwx v z w1 hv hz)
  generalize vecN wx z=N at *
  have GW:=Lib.hid gW; have BW:=Lib.hid bW
  clear gW bW CH WI RE hz
  rcases hop with rfl | rfl | rfl | rfl | rfl | rfl | rfl | rfl | rfl | rfl
  all_goals
    go_enter Tryz.func6,Tryz.ntmps6
    go_wp2_with fail
    try rw [eW]
    refine CC.out.mono ?_
    rintro e w2 ⟨rfl,hb2⟩
    have H2:=Lib.hid hb2
    clear hb2
    go_wp2_with fail
    refine (WW.out _ H2.out).mono ?_
    rintro e w3 ⟨rfl,hb3⟩
    have H3:=Lib.hid (below_of H2.out hb3)
    clear hb3
    go_wp2_with fail
    refine (RR.out _ H3.out).mono ?_
    rintro e w4 ⟨n4,a4,k4,c4,rfl,hz4,hb4⟩
    have H4:=Lib.hid (below_of H3.out hb4)
    have M4:=Lib.hid (MD.out _ _ hz4)
    clear hz4 hb4
    go_wp2_with fail
    refine M4.out.mono ?_
    rintro e w5 ⟨a5,k5,c5,rfl,hs5,hb5⟩
    have H5:=Lib.hid (below_of H4.out hb5)
    have S5:=Lib.hid hs5
    clear hs5 hb5
    have B5:=Lib.hid (below_of BW.out H5.out)
    have G5:=Lib.hid (car H5.out GW.out)
    obtain ⟨q0,q1,r0,r1,_⟩:=blk2 G5.out
    go_wp2
    exact bodyPost_ret (results_bte rfl rfl rfl (set2_row _ _ G5.out)) rfl ⟨_,_,_,rfl,S5.out.far G5.out ns_u64,(B5.out.setCell (Nat.le_refl _) _).setCell (Nat.le_refl _) _⟩
end Go.Proofs.YtacbkpenohcgjaaGreat
namespace Go.Proofs.YtacbkpenohcgjaaGreat
open Go.RowKit Mth
theorem rapply_bw2 (op:Int) (opn:Nat) (hop:(op=45∧opn=45)∨(op=46∧opn=46)∨(op=47∧opn=47)∨(op=48∧opn=48)∨(op=49∧opn=49)∨(op=50∧opn=50)) (pv av:Value) (wd m n:Nat) (h1:1≤wd) (hwd:wd≤4096) (w:World) (hpv:∃ po pn pc,pv=.slice po pn pc) (h:BvL w av [(wd,m),(wd,n)])
    (CH:∀ w1,Below w.heap.size w w1→Calls Tryz.prog 13 #[.int .i64 op,pv,av,.int .i64 1] w1 fun e w'=>e=.returned (.int .i64 0)∧Below w1.heap.size w1 w')
    (WI:∀ w1,Below w.heap.size w w1→Calls Tryz.prog 14 #[.int .i64 op,pv,av] w1 fun e w'=>e=.returned (.int .i64 (wd:Int))∧Below w1.heap.size w1 w')
    (N:Nat) (hN:bitsN (mapF (fun i=>eachF opn (m.testBit i) (n.testBit i)) wd)=N) :
    Calls Tryz.prog 6 #[.int .i64 op,pv,av] w fun e w'=>ResN w w' e (wd:Int) 0 N:=by
  have EAG:Hid (∀ (x y:Bool) w1,Calls Tryz.prog 15 #[.int .i64 op,.bool x,.bool y] w1 fun e w'=>e=.returned (.bool (eachF opn x y))∧Below w1.heap.size w1 w'):=Lib.hid (fun x y w1=>by
    rcases hop with ⟨rfl,rfl⟩ | ⟨rfl,rfl⟩ | ⟨rfl,rfl⟩ | ⟨rfl,rfl⟩ | ⟨rfl,rfl⟩ | ⟨rfl,rfl⟩<;>first | exact each_45 x y w1 | exact each_46 x y w1 | exact each_47 x y w1 | exact each_48 x y w1 | exact each_49 x y w1 | exact each_50 x y w1)
  generalize eachF opn=E at *
  obtain ⟨po,pn,pc,rfl⟩:=hpv
  obtain ⟨ao,cap,rfl,hc⟩:=h
  obtain ⟨b,off,rfl,hlt,hc⟩:=hc (by simp)
  obtain ⟨u0,xs,k1,k2,k3,k4,k5,rfl⟩:=hc 0 (wd,m) rfl
  obtain ⟨u1,ys,l1,l2,l3,l4,l5,rfl⟩:=hc 1 (wd,n) rfl
  dsimp only at k1 k2 l1 l2
  simp only [Nat.zero_mul,Nat.add_zero,Nat.one_mul] at k1 k2 l1 l2
  obtain ⟨W,eW,gW,bW,hWs⟩:=alloc1n w (Obj.cells #[.int .i64 0,.slice none 0 0] 28)
  have CC:=Lib.hid (CH W bW)
  have WW:Hid (∀ w1,Below W.heap.size W w1→_):=Lib.hid (fun w1 hb=>WI w1 (below_of bW hb))
  have BI0:Hid (∀ w1,Below W.heap.size W w1→∀ i:Nat,i≤16777216→Calls Tryz.prog 16 #[.agg #[.int .i64 (wd:Int),u0],.int .i64 (i:Int)] w1 fun e w'=>e=.returned (.bool ((val B64 xs).testBit i))∧Below w1.heap.size w1 w'):=Lib.hid (fun w1 hw i hi=>by
    have h:=rbit9_any (wd:Int) _ xs i hi w1 (k3.below (below_of bW hw)) k4
    rw [bitN_tb] at h
    exact h)
  have BI1:Hid (∀ w1,Below W.heap.size W w1→∀ i:Nat,i≤16777216→Calls Tryz.prog 16 #[.agg #[.int .i64 (wd:Int),u1],.int .i64 (i:Int)] w1 fun e w'=>e=.returned (.bool ((val B64 ys).testBit i))∧Below w1.heap.size w1 w'):=Lib.hid (fun w1 hw i hi=>by
    have h:=rbit9_any (wd:Int) _ ys i hi w1 (l3.below (below_of bW hw)) l4
    rw [bitN_tb] at h
    exact h)
  have CL:Hid (∀ w1,Below W.heap.size W w1→w1.cell? ⟨b,off,none⟩=some (.int .i64 (wd:Int))∧w1.cell? ⟨b,off+1,none⟩=some u0∧w1.cell? ⟨b,off+2,none⟩=some (.int .i64 (wd:Int))∧w1.cell? ⟨b,off+2+1,none⟩=some u1):=Lib.hid (fun w1 hw =>
    ⟨((below_of bW hw).cell (p:=⟨b,off,none⟩) hlt).trans k1,((below_of bW hw).cell (p:=⟨b,off+1,none⟩) hlt).trans k2,((below_of bW hw).cell (p:=⟨b,off+2,none⟩) hlt).trans l1,((below_of bW hw).cell (p:=⟨b,off+2+1,none⟩) hlt).trans l2⟩)
  have MK:Hid (∀ v w1,BoL w1 v (mapF (fun i=>E ((val B64 xs).testBit i) ((val B64 ys).testBit i)) wd)→Calls Tryz.prog 17 #[v] w1 fun e w'=>ResV w1 w' e (wd:Int) N):=Lib.hid (fun v w1 hv=>by
    have h:=make9_any v _ (by rw [mapF_len]; omega) w1 hv
    rw [mapF_len,hN] at h
    exact h)
  obtain ⟨o0,c0,rfl⟩:=k3.shape
  obtain ⟨o1,c1,rfl⟩:=l3.shape
  generalize val B64 xs=m at *
  generalize val B64 ys=n at *
  generalize xs.length=kx at *
  generalize ys.length=ky at *
  clear k1 k2 k3 k4 k5 l1 l2 l3 l4 l5 hc hlt hN
  simp only [List.length_cons,List.length_nil] at *
  have hA:wrap64 ((2:Int) - 1)=1:=IntWalk.wrap64_in _ (by omega)
  have hB:wrap64 (1:Int)=1:=IntWalk.wrap64_in _ (by omega)
  have hC:IntKind.i64.wrap (1:Int)=1:=rfl
  have GW:=Lib.hid gW; have BW:=Lib.hid bW
  clear gW bW CH WI
  rcases hop with ⟨rfl,rfl⟩ | ⟨rfl,rfl⟩ | ⟨rfl,rfl⟩ | ⟨rfl,rfl⟩ | ⟨rfl,rfl⟩ | ⟨rfl,rfl⟩
  all_goals
    go_enter Tryz.func6,Tryz.ntmps6
    go_wp2_with fail
    try rw [eW]
    refine CC.out.mono ?_
    rintro e w2 ⟨rfl,hb2⟩
    have H2:=Lib.hid hb2
    clear hb2
    go_wp2_with fail
    refine (WW.out _ H2.out).mono ?_
    rintro e w3 ⟨rfl,hb3⟩
    have H3:=Lib.hid (below_of H2.out hb3)
    clear hb3
    go_wp2_with fail
    go_loopw [10,11] (fun v i wr=>BwO W wr (fun i=>E (m.testBit i) (n.testBit i)) wd v i) (fun _ i _=>wd - (intOf i).toNat)
    case atStart=>exact ⟨0,Nat.zero_le _,rfl,World.ownsRow_nil _ _ _ _,H3.out⟩
    case round =>
      obtain ⟨k,hk,rfl,hown,hB⟩:=hrel
      have HO:=Lib.hid hown
      have hk0:=hB
      have STAY:=CL
      clear hB hown
      by_cases hlt:k<wd
      · have MS:=Lib.hid (mapF_succ (fun i=>E (m.testBit i) (n.testBit i)) k)
        have HLN:Hid ((mapF (fun i=>E (m.testBit i) (n.testBit i)) k).length≤16777216):=Lib.hid (by rw [mapF_len]; omega)
        have EA:=Lib.hid (EAG.out (m.testBit k) (n.testBit k))
        generalize hT:E (m.testBit k) (n.testBit k)=t at *
        have HT:=Lib.hid hT
        clear hT
        have B0:Hid (∀ w1,Below W.heap.size W w1→_):=Lib.hid (fun w1 hw=>BI0.out w1 hw k (by omega))
        have B1:Hid (∀ w1,Below W.heap.size W w1→_):=Lib.hid (fun w1 hw=>BI1.out w1 hw k (by omega))
        go_wp2_with fail
        go_region_held3 (fun w'=>w'.cell? ⟨b,off,none⟩=some (.int .i64 (wd:Int))∧w'.cell? ⟨b,off+1,none⟩=some (.slice o0 kx c0)∧w'.cell? ⟨b,off+2,none⟩=some (.int .i64 (wd:Int))∧w'.cell? ⟨b,off+2+1,none⟩=some (.slice o1 ky c1))
          ((refine STAY.out _ ?_; first | exact hk4 | exact hk4.drew | exact hk3.alloc hk3.size _ | exact hk3.drew.alloc hk3.drew.size _ | exact hk3 | exact hk3.drew | exact hk2 | exact hk2.drew | exact hk1 | exact hk1.drew | exact hk0 | exact hk0.drew))
          (first
          | (have tk:=TK3; refine step_append_bool (by rfl) _ _ (by rfl) W.heap.size _ _ t ⟨_,0,none⟩ (by rfl) (by rfl) (by first | exact (own_belowB HO.out kr3).alloc _ | exact (own_belowB HO.out kr3.drew).alloc _) (World.cell?_alloc_new _ _ _ _) HLN.out (by have:=hk3.size; simp; omega) ?_; intro v9 w9 hown9 hg9; have hk4:Below W.heap.size W w9:=(by first | exact below_own (hk3.alloc hk3.size _) ((own_belowB HO.out kr3).alloc _) hg9 (by have:=hk3.size; simp; omega) | exact below_own (hk3.drew.alloc hk3.drew.size _) ((own_belowB HO.out kr3.drew).alloc _) hg9 (by have:=hk3.size; simp; omega)); have HO9:=Lib.hid hown9; have TK4:True:=trivial; clear hown9 hg9)
          | (have tk:=TK2; go_at_call 15; (with_reducible refine Calls.mono (EA.out _) ?_); rintro e u3 ⟨rfl,hb⟩; have hk3:Below W.heap.size W u3:=(by first | exact below_of hk2 hb | exact below_of hk2.drew hb); have kr3:Below wr.heap.size wr u3:=(by first | exact below_of kr2 hb | exact below_of kr2.drew hb); have TK3:True:=trivial; clear hb)
          | (have tk:=TK1; go_at_call 16; (with_reducible refine Calls.mono (B1.out _ (by first | exact hk1 | exact hk1.drew)) ?_); rintro e u2 ⟨rfl,hb⟩; have hk2:Below W.heap.size W u2:=(by first | exact below_of hk1 hb | exact below_of hk1.drew hb); have kr2:Below wr.heap.size wr u2:=(by first | exact below_of kr1 hb | exact below_of kr1.drew hb); have TK2:True:=trivial; clear hb)
          | (go_at_call 16; (with_reducible refine Calls.mono (B0.out _ (by first | exact hk0 | exact hk0.drew)) ?_); rintro e u1 ⟨rfl,hb⟩; have hk1:Below W.heap.size W u1:=(by first | exact below_of hk0 hb | exact below_of hk0.drew hb); have kr1:Below wr.heap.size wr u1:=(by first | exact hb | exact bel_d hb); have TK1:True:=trivial; clear hb))
        all_goals
          go_wp2_with fail
          go_roundw
          case rel=>exact ⟨k+1,hlt,by go_num,by rw [MS.out]; exact HO9.out,by first | exact hk4 | exact hk4.drew⟩
          case measure=>simp [intOf]; omega
      · obtain rfl:k=wd:=by omega
        have H4:=Lib.hid hk0
        have M4:=Lib.hid (MK.out _ _ (own_bol HO.out))
        obtain ⟨ao4,c4,e4,-⟩:=own_bol HO.out
        subst e4
        clear hk0
        go_wp2_with fail
        refine M4.out.mono ?_
        rintro e w5 ⟨a5,k5,c5,rfl,hs5,hb5⟩
        have H5:=Lib.hid (below_of H4.out hb5)
        have S5:=Lib.hid hs5
        clear hs5 hb5
        have B5:=Lib.hid (below_of BW.out H5.out)
        have G5:=Lib.hid (car H5.out GW.out)
        obtain ⟨q0,q1,r0,r1,_⟩:=blk2 G5.out
        go_wp2
        exact bodyPost_ret (results_bte rfl rfl rfl (set2_row _ _ G5.out)) rfl ⟨_,_,_,rfl,S5.out.far G5.out ns_u64,(B5.out.setCell (Nat.le_refl _) _).setCell (Nat.le_refl _) _⟩
theorem rapply_bw1 (op:Int) (opn:Nat) (hop:(op=43∧opn=43)) (pv av:Value) (wd m:Nat) (h1:1≤wd) (hwd:wd≤4096) (w:World) (hpv:∃ po pn pc,pv=.slice po pn pc) (h:BvL w av [(wd,m)])
    (CH:∀ w1,Below w.heap.size w w1→Calls Tryz.prog 13 #[.int .i64 op,pv,av,.int .i64 1] w1 fun e w'=>e=.returned (.int .i64 0)∧Below w1.heap.size w1 w')
    (WI:∀ w1,Below w.heap.size w w1→Calls Tryz.prog 14 #[.int .i64 op,pv,av] w1 fun e w'=>e=.returned (.int .i64 (wd:Int))∧Below w1.heap.size w1 w')
    (N:Nat) (hN:bitsN (mapF (fun i=>eachF opn (m.testBit i) (m.testBit i)) wd)=N) :
    Calls Tryz.prog 6 #[.int .i64 op,pv,av] w fun e w'=>ResN w w' e (wd:Int) 0 N:=by
  have EAG:Hid (∀ (x y:Bool) w1,Calls Tryz.prog 15 #[.int .i64 op,.bool x,.bool y] w1 fun e w'=>e=.returned (.bool (eachF opn x y))∧Below w1.heap.size w1 w'):=Lib.hid (fun x y w1=>by
    rcases hop with ⟨rfl,rfl⟩<;>first | exact each_43 x y w1)
  generalize eachF opn=E at *
  obtain ⟨po,pn,pc,rfl⟩:=hpv
  obtain ⟨ao,cap,rfl,hc⟩:=h
  obtain ⟨b,off,rfl,hlt,hc⟩:=hc (by simp)
  obtain ⟨u0,xs,k1,k2,k3,k4,k5,rfl⟩:=hc 0 (wd,m) rfl
  dsimp only at k1 k2
  simp only [Nat.zero_mul,Nat.add_zero] at k1 k2
  obtain ⟨W,eW,gW,bW,hWs⟩:=alloc1n w (Obj.cells #[.int .i64 0,.slice none 0 0] 28)
  have CC:=Lib.hid (CH W bW)
  have WW:Hid (∀ w1,Below W.heap.size W w1→_):=Lib.hid (fun w1 hb=>WI w1 (below_of bW hb))
  have BI0:Hid (∀ w1,Below W.heap.size W w1→∀ i:Nat,i≤16777216→Calls Tryz.prog 16 #[.agg #[.int .i64 (wd:Int),u0],.int .i64 (i:Int)] w1 fun e w'=>e=.returned (.bool ((val B64 xs).testBit i))∧Below w1.heap.size w1 w'):=Lib.hid (fun w1 hw i hi=>by
    have h:=rbit9_any (wd:Int) _ xs i hi w1 (k3.below (below_of bW hw)) k4
    rw [bitN_tb] at h
    exact h)
  have CL:Hid (∀ w1,Below W.heap.size W w1→w1.cell? ⟨b,off,none⟩=some (.int .i64 (wd:Int))∧w1.cell? ⟨b,off+1,none⟩=some u0):=Lib.hid (fun w1 hw =>
    ⟨((below_of bW hw).cell (p:=⟨b,off,none⟩) hlt).trans k1,((below_of bW hw).cell (p:=⟨b,off+1,none⟩) hlt).trans k2⟩)
  have MK:Hid (∀ v w1,BoL w1 v (mapF (fun i=>E ((val B64 xs).testBit i) ((val B64 xs).testBit i)) wd)→Calls Tryz.prog 17 #[v] w1 fun e w'=>ResV w1 w' e (wd:Int) N):=Lib.hid (fun v w1 hv=>by
    have h:=make9_any v _ (by rw [mapF_len]; omega) w1 hv
    rw [mapF_len,hN] at h
    exact h)
  obtain ⟨o0,c0,rfl⟩:=k3.shape
  generalize val B64 xs=m at *
  generalize xs.length=kx at *
  clear k1 k2 k3 k4 k5 hc hlt hN
  simp only [List.length_cons,List.length_nil] at *
  have hA:wrap64 ((1:Int) - 1)=0:=IntWalk.wrap64_in _ (by omega)
  have hB:wrap64 (0:Int)=0:=IntWalk.wrap64_in _ (by omega)
  have hC:IntKind.i64.wrap (0:Int)=0:=rfl
  have GW:=Lib.hid gW; have BW:=Lib.hid bW
  clear gW bW CH WI
  obtain ⟨rfl,rfl⟩:=hop
  all_goals
    go_enter Tryz.func6,Tryz.ntmps6
    go_wp2_with fail
    try rw [eW]
    refine CC.out.mono ?_
    rintro e w2 ⟨rfl,hb2⟩
    have H2:=Lib.hid hb2
    clear hb2
    go_wp2_with fail
    refine (WW.out _ H2.out).mono ?_
    rintro e w3 ⟨rfl,hb3⟩
    have H3:=Lib.hid (below_of H2.out hb3)
    clear hb3
    go_wp2_with fail
    go_loopw [10,11] (fun v i wr=>BwO W wr (fun i=>E (m.testBit i) (m.testBit i)) wd v i) (fun _ i _=>wd - (intOf i).toNat)
    case atStart=>exact ⟨0,Nat.zero_le _,rfl,World.ownsRow_nil _ _ _ _,H3.out⟩
    case round =>
      obtain ⟨k,hk,rfl,hown,hB⟩:=hrel
      have HO:=Lib.hid hown
      have hk0:=hB
      have STAY:=CL
      clear hB hown
      by_cases hlt:k<wd
      · have MS:=Lib.hid (mapF_succ (fun i=>E (m.testBit i) (m.testBit i)) k)
        have HLN:Hid ((mapF (fun i=>E (m.testBit i) (m.testBit i)) k).length≤16777216):=Lib.hid (by rw [mapF_len]; omega)
        have EA:=Lib.hid (EAG.out (m.testBit k) (m.testBit k))
        generalize hT:E (m.testBit k) (m.testBit k)=t at *
        have HT:=Lib.hid hT
        clear hT
        have B0:Hid (∀ w1,Below W.heap.size W w1→_):=Lib.hid (fun w1 hw=>BI0.out w1 hw k (by omega))
        have B1:Hid (∀ w1,Below W.heap.size W w1→_):=Lib.hid (fun w1 hw=>BI0.out w1 hw k (by omega))
        go_wp2_with fail
        go_region_held3 (fun w'=>w'.cell? ⟨b,off,none⟩=some (.int .i64 (wd:Int))∧w'.cell? ⟨b,off+1,none⟩=some (.slice o0 kx c0))
          ((refine STAY.out _ ?_; first | exact hk4 | exact hk4.drew | exact hk3.alloc hk3.size _ | exact hk3.drew.alloc hk3.drew.size _ | exact hk3 | exact hk3.drew | exact hk2 | exact hk2.drew | exact hk1 | exact hk1.drew | exact hk0 | exact hk0.drew))
          (first
          | (have tk:=TK3; refine step_append_bool (by rfl) _ _ (by rfl) W.heap.size _ _ t ⟨_,0,none⟩ (by rfl) (by rfl) (by first | exact (own_belowB HO.out kr3).alloc _ | exact (own_belowB HO.out kr3.drew).alloc _) (World.cell?_alloc_new _ _ _ _) HLN.out (by have:=hk3.size; simp; omega) ?_; intro v9 w9 hown9 hg9; have hk4:Below W.heap.size W w9:=(by first | exact below_own (hk3.alloc hk3.size _) ((own_belowB HO.out kr3).alloc _) hg9 (by have:=hk3.size; simp; omega) | exact below_own (hk3.drew.alloc hk3.drew.size _) ((own_belowB HO.out kr3.drew).alloc _) hg9 (by have:=hk3.size; simp; omega)); have HO9:=Lib.hid hown9; have TK4:True:=trivial; clear hown9 hg9)
          | (have tk:=TK2; go_at_call 15; (with_reducible refine Calls.mono (EA.out _) ?_); rintro e u3 ⟨rfl,hb⟩; have hk3:Below W.heap.size W u3:=(by first | exact below_of hk2 hb | exact below_of hk2.drew hb); have kr3:Below wr.heap.size wr u3:=(by first | exact below_of kr2 hb | exact below_of kr2.drew hb); have TK3:True:=trivial; clear hb)
          | (have tk:=TK1; go_at_call 16; (with_reducible refine Calls.mono (B1.out _ (by first | exact hk1 | exact hk1.drew)) ?_); rintro e u2 ⟨rfl,hb⟩; have hk2:Below W.heap.size W u2:=(by first | exact below_of hk1 hb | exact below_of hk1.drew hb); have kr2:Below wr.heap.size wr u2:=(by first | exact below_of kr1 hb | exact below_of kr1.drew hb); have TK2:True:=trivial; clear hb)
          | (go_at_call 16; (with_reducible refine Calls.mono (B0.out _ (by first | exact hk0 | exact hk0.drew)) ?_); rintro e u1 ⟨rfl,hb⟩; have hk1:Below W.heap.size W u1:=(by first | exact below_of hk0 hb | exact below_of hk0.drew hb); have kr1:Below wr.heap.size wr u1:=(by first | exact hb | exact bel_d hb); have TK1:True:=trivial; clear hb))
        all_goals
          go_wp2_with fail
          go_roundw
          case rel=>exact ⟨k+1,hlt,by go_num,by rw [MS.out]; exact HO9.out,by first | exact hk4 | exact hk4.drew⟩
          case measure=>simp [intOf]; omega
      · obtain rfl:k=wd:=by omega
        have H4:=Lib.hid hk0
        have M4:=Lib.hid (MK.out _ _ (own_bol HO.out))
        obtain ⟨ao4,c4,e4,-⟩:=own_bol HO.out
        subst e4
        clear hk0
        go_wp2_with fail
        refine M4.out.mono ?_
        rintro e w5 ⟨a5,k5,c5,rfl,hs5,hb5⟩
        have H5:=Lib.hid (below_of H4.out hb5)
        have S5:=Lib.hid hs5
        clear hs5 hb5
        have B5:=Lib.hid (below_of BW.out H5.out)
        have G5:=Lib.hid (car H5.out GW.out)
        obtain ⟨q0,q1,r0,r1,_⟩:=blk2 G5.out
        go_wp2
        exact bodyPost_ret (results_bte rfl rfl rfl (set2_row _ _ G5.out)) rfl ⟨_,_,_,rfl,S5.out.far G5.out ns_u64,(B5.out.setCell (Nat.le_refl _) _).setCell (Nat.le_refl _) _⟩
end Go.Proofs.YtacbkpenohcgjaaGreat
