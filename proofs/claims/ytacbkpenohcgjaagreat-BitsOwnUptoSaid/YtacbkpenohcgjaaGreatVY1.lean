import Derived.Test.YtacbkpenohcgjaaGreatVZ1
import Derived.Laws.BitsAllLaws
set_option linter.unusedVariables false
set_option linter.unusedSimpArgs false
set_option maxHeartbeats 2000000
set_option maxRecDepth 100000
namespace Go.Proofs.YtacbkpenohcgjaaGreat
open Go.RowKit Mth
def QNum (w:World) (v:Value) (n:Nat):Prop:=∃ ys,Sl w .u16 v ys∧Lim B16 ys∧Top ys∧val B16 ys=n
def ZV (w:World) (v:Value) (z:Int):Prop:=∃ u,v=.agg #[.bool (sgn z),u]∧QNum w u z.natAbs
theorem QNum.below {w w':World} {v:Value} {n:Nat} (h:QNum w v n) (hb:Below w.heap.size w w'):QNum w' v n:=by
  obtain ⟨ys,h1,h2⟩:=h; exact ⟨ys,h1.below hb,h2⟩
theorem ZV.below {w w':World} {v:Value} {z:Int} (h:ZV w v z) (hb:Below w.heap.size w w'):ZV w' v z:=by
  obtain ⟨u,h1,h2⟩:=h; exact ⟨u,h1,h2.below hb⟩
theorem ZV.shape {w:World} {v:Value} {z:Int} (h:ZV w v z):∃ n ao k c,v=.agg #[.bool n,.slice ao k c]:=by
  obtain ⟨u,rfl,ys,h1,_⟩:=h
  obtain ⟨ao,c,rfl⟩:=h1.shape
  exact ⟨_,_,_,_,rfl⟩
theorem ZV.parts {w:World} {n:Bool} {ao:Option Addr} {k c:Nat} {z:Int} (h:ZV w (.agg #[.bool n,.slice ao k c]) z):n=sgn z∧∃ ys,Sl w .u16 (.slice ao k c) ys∧Lim B16 ys∧Top ys∧val B16 ys=z.natAbs∧ys.length=k:=by
  obtain ⟨u,e,ys,h1,h2,h3,h4⟩:=h
  simp only [Value.agg.injEq,Array.mk.injEq,List.cons.injEq,Value.bool.injEq,and_true] at e
  obtain ⟨rfl,rfl⟩:=e
  refine ⟨rfl,ys,h1,h2,h3,h4, ?_⟩
  obtain ⟨_,_,e,_⟩:=h1
  simp only [Value.slice.injEq] at e
  exact e.2.1.symm
theorem qtrim_pos (b off cap:Nat) (xs:List Nat) (w:World) (hl:xs.length≤cap) (hm:cap≤maxLen)
    (hc:∀ j,j<xs.length→w.cell? ⟨b,off+j,none⟩=some (.int .u16 ((xs.getD j 0:Nat):Int))) :
    Calls Tryz.prog 132 #[.slice (some ⟨b,off,none⟩) xs.length cap] w fun e w' =>
      e=.returned (.slice (some ⟨b,off,none⟩) (tlen xs) cap)∧w=w':=by
  unfold maxLen at hm
  go_enter Tryz.func132,Tryz.ntmps132
  go_wp2
  go_loop [3] (fun n=>∃ k:Nat,k≤xs.length∧n=.int .i64 k∧(∀ j,k≤j→xs.getD j 0=0)) (fun n=>(intOf n).toNat)
  case atStart=>exact ⟨xs.length,Nat.le_refl _,rfl,fun j hj=>getD_ge xs j hj⟩
  case round =>
    obtain ⟨k,hk,rfl,hz⟩:=hrel
    by_cases h0:0<k
    · have hc1:=hc (k - 1) (by omega)
      have HZ:=Lib.hid hz
      clear hz hc
      go_wp2
      · have h1:((xs[k - 1]?.getD 0:Nat):Int) == 0:=by assumption
        go_round
        case rel=>exact ⟨k - 1,by omega,by congr 1; omega,fun j hj=>by
          by_cases e:j=k - 1
          · subst e; simp at h1; simpa [List.getD_eq_getElem?_getD] using h1
          · exact HZ.out j (by omega)⟩
        case measure=>simp [intOf]; omega
      · have h1:(((xs[k - 1]?.getD 0:Nat):Int) == 0)=false:=by assumption
        go_ret
        have e:tlen xs=k:=tlen_eq HZ.out (.inr (by simp at h1; simpa [List.getD_eq_getElem?_getD] using h1))
        rw [e]
        exact ⟨rfl,rfl⟩
    · have HZ:=Lib.hid hz
      clear hz hc
      go_wp2
      go_ret
      have e:tlen xs=k:=tlen_eq HZ.out (.inl (by omega))
      rw [e]
      exact ⟨rfl,rfl⟩
theorem qtrim_zero (ao:Option Addr) (cap:Nat) (w:World) (hm:cap≤maxLen) (hn:ao=none→cap=0) :
    Calls Tryz.prog 132 #[.slice ao 0 cap] w fun e w'=>e=.returned (.slice ao 0 cap)∧w=w':=by
  unfold maxLen at hm
  cases ao with
  | none =>
    obtain rfl:=hn rfl
    go_enter Tryz.func132,Tryz.ntmps132
    go_wp2
    refine wp_loop_rounds 1 ?_
    rw [rounds_succ]
    go_wp2
    go_ret
    exact ⟨rfl,rfl⟩
  | some a =>
    clear hn
    go_enter Tryz.func132,Tryz.ntmps132
    go_wp2
    refine wp_loop_rounds 1 ?_
    rw [rounds_succ]
    go_wp2
    go_ret
    exact ⟨rfl,rfl⟩
theorem qtrim_any {v:Value} {xs:List Nat} {w:World} (h:Sl w .u16 v xs) :
    Calls Tryz.prog 132 #[v] w fun e w'=>∃ v',e=.returned v'∧Sl w .u16 v' (trimL xs)∧w=w':=by
  have h':=h
  obtain ⟨ao,cap,rfl,h1,h2,h3,h4,h5⟩:=h
  have hs:Sl w .u16 (.slice ao (tlen xs) cap) (trimL xs):=h'.take (tlen_le xs)
  by_cases hp:0<xs.length
  · obtain ⟨b,off,rfl,hlt,hc⟩:=h5 hp
    exact (qtrim_pos b off cap xs w h1 h2 hc).mono fun e w' ⟨he,hw⟩=>⟨_,he,hs,hw⟩
  · have:xs=[]:=List.eq_nil_of_length_eq_zero (by omega)
    subst this
    exact (qtrim_zero ao cap w h2 h4).mono fun e w' ⟨he,hw⟩=>⟨_,he,hs,hw⟩
theorem qtrim_eq {ao:Option Addr} {n cap:Nat} {xs:List Nat} {w:World} (h:Sl w .u16 (.slice ao n cap) xs) :
    Calls Tryz.prog 132 #[.slice ao n cap] w fun e w'=>e=.returned (.slice ao (tlen xs) cap)∧w'=w:=by
  obtain ⟨ao',cap',e,h1,h2,h3,h4,h5⟩:=h
  simp only [Value.slice.injEq] at e
  obtain ⟨rfl,rfl,rfl⟩:=e
  by_cases hp:0<xs.length
  · obtain ⟨b,off,rfl,hlt,hc⟩:=h5 hp
    exact (qtrim_pos b off cap xs w h1 h2 hc).mono fun e w' ⟨he,hw⟩=>⟨he,hw.symm⟩
  · have:xs=[]:=List.eq_nil_of_length_eq_zero (by omega)
    subst this
    exact (qtrim_zero ao cap w h2 h4).mono fun e w' ⟨he,hw⟩=>⟨he,hw.symm⟩
theorem sgn_top16 (xs:List Nat):decide ((0:Int)<((tlen xs:Nat):Int))=sgn (sg true (val B16 xs)):=by
  by_cases h:tlen xs=0
  · have hv:val B16 xs=0:=by rw [← val_trimL]; unfold trimL; rw [h]; rfl
    rw [hv,h]; rfl
  · have hv:0<val B16 xs:=by
      have:=val_ge_top (B:=B16) (top_trimL xs) (by rw [length_trimL]; omega)
      rw [val_trimL] at this
      have h2:0<B16 ^ ((trimL xs).length - 1):=Nat.pow_pos (by have:=B16_pos; omega)
      omega
    rw [sgn_sg hv]
    exact decide_eq_true (by omega)
theorem qnum_trim {w:World} {v:Value} {xs:List Nat} (h:Sl w .u16 v (trimL xs)) (hx:Lim B16 xs):QNum w v (val B16 xs):=⟨_,h,lim_trimL hx,top_trimL xs,val_trimL _ _⟩
theorem make_any (b:Bool) (u:Value) (ys:List Nat) (w:World) (h:Sl w .u16 u ys) (l:Lim B16 ys):Calls Tryz.prog 91 #[.bool b,u] w fun e w'=>∃ v',e=.returned v'∧ZV w v' (sg b (val B16 ys))∧Below w.heap.size w w':=by
  obtain ⟨ao,c,rfl⟩:=h.shape
  have T:Hid (∀ w1,Below w.heap.size w w1→Calls Tryz.prog 132 #[.slice ao ys.length c] w1 fun e w'=>e=.returned (.slice ao (tlen ys) c)∧w'=w1):=Lib.hid (fun w1 hb=>qtrim_eq (h.below hb))
  have Q:=Lib.hid (qnum_trim h.trim l)
  have hB:Below w.heap.size w (w.alloc (Obj.cells #[Value.bool false,Value.slice none 0 0] 61)):=(Below.refl _ _).alloc (Nat.le_refl _) _
  have hlen:tlen ys≤16777216:=Nat.le_trans (tlen_le ys) h.len
  clear h l
  cases b
  · go_enter Tryz.func91,Tryz.ntmps91
    go_wp2_with fail
    refine (T.out _ hB).mono ?_
    rintro e w' ⟨rfl,rfl⟩
    go_wp2
    refine bodyPost_ret (v:=.agg #[.bool false,.slice ao (tlen ys) c]) ?_ rfl ⟨_,rfl,⟨_,by rw [sg_false,sgn_nat],by rw [natAbs_sg]; exact Q.out⟩,(Below.refl _ _).alloc (Nat.le_refl _) _⟩
    simp [results,Tryz.results91,go_sem]
  · have E:=Lib.hid (sgn_top16 ys)
    go_enter Tryz.func91,Tryz.ntmps91
    go_wp2_with fail
    refine (T.out _ hB).mono ?_
    rintro e w' ⟨rfl,rfl⟩
    go_wp2
    refine bodyPost_ret (v:=.agg #[.bool (decide ((0:Int)<((tlen ys:Nat):Int))),.slice ao (tlen ys) c]) ?_ rfl ⟨_,rfl,⟨_,by rw [E.out],by rw [natAbs_sg]; exact Q.out⟩,(Below.refl _ _).alloc (Nat.le_refl _) _⟩
    simp [results,Tryz.results91,go_sem]
theorem info_u16:(Tryz.prog.info? 104).map (fun i=>(i.zero,i.size,i.bytes))=some (some (.int .u16 0),1,2):=by kernel_rfl
theorem append_four {w:World} {ops:Array Oper} {rest:List Oper} {o:Oper} {a:Act} {Q:Exit→Act→World→Prop} (hgd:o.guard=none) (s x:Operand)
    (ho:o.op=.call { callee:=.builtin .append,args:=#[s,x],argTypes:=#[59,59] }) (base:Nat) (v u:Value) (xs ys:List Nat)
    (hs:a.eval s=v) (hx:a.eval x=u) (hown:w.ownsRow base 104 1 v xs.length (cellsOf .u16 xs)) (hu:Sl w .u16 u ys) (hlen:xs.length≤16777216) (hbase:base≤w.heap.size)
    (h:∀ v' w',w'.ownsRow base 104 1 v' (xs++ys).length (cellsOf .u16 (xs++ys))→w.grownBy w' v.ownBlock→wpList Tryz.prog ops Q rest (a.put o.dst v') w'):wpList Tryz.prog ops Q (o :: rest) a w:=by
  obtain ⟨i0,hi,hz0,hz1,hz2⟩:=info_parts info_u16
  have hul:=hu.len
  obtain ⟨ao,cap,rfl,_,_,_,h4,h5⟩:=hu
  cases ao with
  | none =>
    obtain rfl:=h4 rfl
    have h0:ys=[]:=by
      rcases Nat.eq_zero_or_pos ys.length with h0 | h0
      · exact List.eq_nil_of_length_eq_zero h0
      · obtain ⟨b,off,e,_⟩:=h5 h0
        cases e
    subst h0
    refine wpList_append_own_none hgd s x 59 ho base 104 i0 1 Tryz.underlying59 hi v _ _ hs hown hx ?_
    refine h v w ?_ (World.grownBy.refl _ _)
    rw [List.append_nil]; exact hown
  | some ad =>
    refine wpList_append_own w hgd s x 59 ho base 104 i0 _ 1 2 Tryz.underlying59 hi hz0 hz1 hz2 rfl (by decide) v _ _ hs hown ad ys.length cap (cellsOf .u16 ys) hx (by rw [length_cellsOf]; omega) ?_ (cells_one _ _)
      (by unfold maxLen; omega) (by omega) hbase ?_
    · intro j u hj
      have hjl:j<ys.length:=by have:=(List.getElem?_eq_some_iff.1 hj).1; rwa [length_cellsOf] at this
      rw [cellsOf_get _ _ _ hjl] at hj
      obtain ⟨b,off,e,_,hc⟩:=h5 (by omega)
      obtain rfl:=Option.some.inj e
      rw [Addr.add_lit,hc j hjl,hj]
    · intro v' w' h2 h3 _
      refine h v' w' ?_ h3
      rw [cellsOf_append,List.length_append]
      exact h2
theorem sl_four (w:World) (d0 d1 d2 d3:Int) (x:Nat) (h0:d0=((hf x 0:Nat):Int)) (h1:d1=((hf x 1:Nat):Int)) (h2:d2=((hf x 2:Nat):Int)) (h3:d3=((hf x 3:Nat):Int)) :
    Sl (w.alloc (Obj.cells #[Value.int .u16 d0,Value.int .u16 d1,Value.int .u16 d2,Value.int .u16 d3] 104)) .u16 (.slice (some ⟨w.heap.size,0,none⟩) 4 4) (quad x):=by
  subst h0 h1 h2 h3
  refine ⟨some ⟨w.heap.size,0,none⟩,4,rfl,by simp [quad],by unfold maxLen; omega,by simp [quad],(fun e=>by cases e),fun _=>⟨w.heap.size,0,rfl,by simp, ?_⟩⟩
  intro j hj
  have hj4:j<4:=by simpa [quad] using hj
  rw [Nat.zero_add]
  have:j=0∨j=1∨j=2∨j=3:=by omega
  rcases this with rfl | rfl | rfl | rfl<;>simp [quad]
theorem uw0 (x:Nat):(x:Int) % 65536=((hf x 0:Nat):Int):=by simp [hf]
theorem uw1 (x:Nat):(x:Int) / 65536 % 65536=((hf x 1:Nat):Int):=by simp [hf]
theorem uw2 (x:Nat):(x:Int) / 4294967296 % 65536=((hf x 2:Nat):Int):=by simp [hf]
theorem uw3 (x:Nat):(x:Int) / 281474976710656 % 65536=((hf x 3:Nat):Int):=by simp [hf]
theorem uv0 (x:Nat):IntKind.u16.wrap (x:Int)=((hf x 0:Nat):Int):=uw0 x
theorem uv1 (x:Nat):IntKind.u16.wrap ((x:Int) / 65536)=((hf x 1:Nat):Int):=uw1 x
theorem uv2 (x:Nat):IntKind.u16.wrap ((x:Int) / 4294967296)=((hf x 2:Nat):Int):=uw2 x
theorem uv3 (x:Nat):IntKind.u16.wrap ((x:Int) / 281474976710656)=((hf x 3:Nat):Int):=uw3 x
theorem Sl.ne {w:World} {k:IntKind} {v:Value} {xs:List Nat} {R b off:Nat} {T:TypeId} {x:Bool} {ao:Option Addr} {n c:Nat} {cap:Nat} (h:Sl w k v xs) (hR:w.heap[R]?=some (.cells #[.bool x,.slice ao n c] T (0,0))) (e:v=.slice (some ⟨b,off,none⟩) xs.length cap) (hp:0<xs.length):b≠R:=by
  rintro rfl
  obtain ⟨ao',cap',e',_,_,_,_,h5⟩:=h
  obtain ⟨b',off',e2,_,hc⟩:=h5 hp
  rw [e] at e'
  simp only [Value.slice.injEq] at e'
  obtain ⟨rfl,_,_⟩:=e'
  simp only [Option.some.injEq,Addr.mk.injEq] at e2
  obtain ⟨rfl,rfl,_⟩:=e2
  have:=hc 0 hp
  rw [cell_of_row w b _ _ _ (0,0) hR] at this
  have h2:off+0<2:=(Array.getElem?_eq_some_iff.1 this).1
  have:off=0∨off=1:=by omega
  rcases this with rfl | rfl<;>simp at this
theorem Sl.set_far {w:World} {k:IntKind} {v:Value} {xs:List Nat} {R j:Nat} {y:Value} (h:Sl w k v xs) (hne:∀ b off cap,v=.slice (some ⟨b,off,none⟩) xs.length cap→0<xs.length→b≠R):Sl (w.setCell ⟨R,j,none⟩ y) k v xs:=by
  obtain ⟨ao,cap,rfl,h1,h2,h3,h4,h5⟩:=h
  refine ⟨ao,cap,rfl,h1,h2,h3,h4,fun hp=>?_⟩
  obtain ⟨b,off,rfl,hlt,hc⟩:=h5 hp
  have hb:=hne b off cap rfl hp
  exact ⟨b,off,rfl,by simpa using hlt,fun i hi=>(World.cell?_setCell_other (w:=w) (a:=⟨R,j,none⟩) (b:=⟨b,off+i,none⟩) (v:=y) (fun e=>hb (congrArg Addr.block e).symm)).trans (hc i hi)⟩
theorem ZV.far {w:World} {v y0 y1:Value} {z:Int} {R:Nat} {T:TypeId} {x:Bool} {ao:Option Addr} {n c:Nat} (h:ZV w v z) (hR:w.heap[R]?=some (.cells #[.bool x,.slice ao n c] T (0,0))):ZV ((w.setCell ⟨R,0,none⟩ y0).setCell ⟨R,1,none⟩ y1) v z:=by
  obtain ⟨u,e,ys,h1,h2⟩:=h
  have hne:∀ b off cap,u=.slice (some ⟨b,off,none⟩) ys.length cap→0<ys.length→b≠R:=fun b off cap e hp=>h1.ne hR e hp
  exact ⟨u,e,ys,(h1.set_far hne).set_far hne,h2⟩
def FromZ (W wr:World) (xs:List Nat) (v i:Value):Prop:=∃ k:Nat,k≤xs.length∧i=.int .i64 k∧wr.ownsRow W.heap.size 104 1 v (halves (xs.take k)).length (cellsOf .u16 (halves (xs.take k)))∧Below W.heap.size W wr
theorem from_any2 (v:Value) (z:Int) (w:World) (h:IntV w v z):Calls Tryz.prog 89 #[v] w fun e w'=>∃ v',e=.returned v'∧ZV w' v' z∧Below w.heap.size w w':=by
  obtain ⟨n,u,xs,rfl,hs,hl,hlen,rfl⟩:=h
  obtain ⟨ao,c,rfl⟩:=hs.shape
  have HS:=Lib.hid hs; have HL:=Lib.hid hl
  clear hs hl
  go_enter Tryz.func89,Tryz.ntmps89
  go_wp2
  obtain ⟨W,eW,h1,h2,bel,hsz⟩:=alloc2 w (Obj.cells #[Value.bool n,Value.slice ao xs.length c] 50) (Obj.cells #[Value.bool false,Value.slice none 0 0] 61)
  rw [eW]
  obtain ⟨p0,p1,f0,f1,_⟩:=blk2 h1
  have H2:=Lib.hid h2
  clear eW h1 h2
  go_loopw [3,4] (fun v i wr=>FromZ W wr xs v i) (fun _ i _=>xs.length - (intOf i).toNat)
  case atStart=>exact ⟨0,Nat.zero_le _,rfl,World.ownsRow_nil _ _ _ _,Below.refl _ _⟩
  case round =>
    obtain ⟨k,hk,rfl,hown,hbel⟩:=hrel
    have q1:=cell_to hbel p1 (by omega)
    have HO:=Lib.hid hown; have HB:=Lib.hid hbel
    by_cases hkl:k<xs.length
    · obtain ⟨b,off,cap,e,hc1,hc2,hblt,hc⟩:=HS.out.pos (by omega)
      simp only [Value.slice.injEq] at e
      obtain ⟨rfl,_,rfl⟩:=e
      have hck:wr.cell? ⟨b,off+k,none⟩=some (.int .u64 ((xs.getD k 0:Nat):Int)):=cell_to hbel (cell_to bel (hc k hkl) hblt) (by have:=bel.size; omega)
      have HHL:Hid ((halves (xs.take k)).length≤16777200):=Lib.hid (by rw [length_halves,List.length_take]; omega)
      have HHS:=Lib.hid (halves_take_succ hkl)
      have hx64:=HL.out k
      generalize hx:xs.getD k 0=x at *
      generalize hh:halves (xs.take k)=hs at *
      have HX:=Lib.hid hx; have HH:=Lib.hid hh
      clear hown hbel hx hh hc
      unfold maxLen at hc2
      go_wp2_with (refine append_four (o:=⟨some 31,_,_,_,_,_⟩) rfl _ _ rfl W.heap.size _ (.slice (some ⟨wr.heap.size,0,none⟩) 4 4) hs (quad x) rfl rfl (HO.out.alloc _) (by first | exact sl_four wr _ _ _ _ x (uv0 x) (uv1 x) (uv2 x) (uv3 x) | exact sl_four wr _ _ _ _ x (uw0 x) (uw1 x) (uw2 x) (uw3 x)) (by have:=HHL.out; omega) (by have:=HB.out.size; simp; omega) ?_; intro v' w1 hown1 hg1)
      have HO3:=Lib.hid hown1
      have HB3:=Lib.hid (below_own (HB.out.alloc HB.out.size _) (HO.out.alloc _) hg1 (by have:=HB.out.size; simp; omega))
      clear hown1 hg1
      refine ⟨⟨k+1,by omega,by go_num, ?_,HB3.out⟩,by simp [intOf]; omega⟩
      rw [HHS.out]
      exact HO3.out
    · have hkl':k=xs.length:=by omega
      have HO3:Hid (Sl wr .u16 _ (halves xs)):=Lib.hid (by
        rw [hkl',List.take_length] at hown
        exact sl_own hown (by rw [length_halves]; omega))
      have q0:=cell_to hbel p0 (by omega)
      have HR:=Lib.hid ((hbel.block _ hsz).trans H2.out)
      have B1:=below_of bel hbel
      have HV:=val_halves HL.out
      clear hown hkl' hbel
      go_wp2_with fail
      refine (make_any n _ (halves xs) wr HO3.out (lim_halves xs)).mono ?_
      rintro e w2 ⟨v2,rfl,hz,hb2⟩
      have hR:=(hb2.block _ (size_to HB.out hsz)).trans HR.out
      obtain ⟨k0,k1,g0,g1,hlt⟩:=blk2 hR
      obtain ⟨n2,a2,l2,c2,rfl⟩:=hz.shape
      replace hz:=hz.below hb2
      rw [HV] at hz
      have HZ:=Lib.hid (hz.far (y0:=.bool n2) (y1:=.slice a2 l2 c2) hR)
      have B2:=below_of B1 hb2
      clear hz HV
      go_wp2
      refine bodyPost_ret (v:=.agg #[.bool n2,.slice a2 l2 c2]) ?_ rfl ⟨_,rfl,HZ.out,(B2.setCell (p:=⟨w.heap.size+1,0,none⟩) (Nat.le_add_right _ _) _).setCell (p:=⟨w.heap.size+1,1,none⟩) (Nat.le_add_right _ _) _⟩
      simp [results,Tryz.results89,go_sem, *]
end Go.Proofs.YtacbkpenohcgjaaGreat
namespace Go.Proofs.YtacbkpenohcgjaaGreat
open Go.RowKit Mth
def hp (hs:List Nat) (i:Nat):Nat→Nat
  | 0=>0
  | r+1=>hp hs i r*65536+hs.getD (i+(3 - r)) 0
def IntK (w:World) (v:Value) (z:Int):Prop:=∃ u,v=.agg #[.bool (sgn z),u]∧Num w u z.natAbs
def gs (hs:List Nat) (m:Nat):List Nat:=(List.range m).map (fun j=>hp hs (4*j) 4)
theorem hp_lt {hs:List Nat} (hl:Lim B16 hs) (i:Nat):∀ r,hp hs i r<65536 ^ r
  | 0=>by simp [hp]
  | r+1=>by
    have h1:=hp_lt hl i r
    have h2:hs.getD (i+(3 - r)) 0<65536:=hl _
    simp only [hp,Nat.pow_succ]
    omega
theorem gs_succ (hs:List Nat) (m:Nat):gs hs (m+1)=gs hs m++[hp hs (4*m) 4]:=by
  unfold gs; rw [List.range_succ,List.map_append]; rfl
theorem length_gs (hs:List Nat) (m:Nat):(gs hs m).length=m:=by simp [gs]
theorem getD_gs (hs:List Nat) (m j:Nat):(gs hs m).getD j 0=if j<m then hp hs (4*j) 4 else 0:=by
  unfold gs
  by_cases h:j<m
  · rw [if_pos h,List.getD_eq_getElem?_getD,List.getElem?_map,List.getElem?_range h]; rfl
  · rw [if_neg h,getD_ge _ _ (by simp; omega)]
theorem lim_gs {hs:List Nat} (hl:Lim B16 hs) (m:Nat):Lim B64 (gs hs m):=by
  intro j
  rw [getD_gs]
  split
  · exact hp_lt hl _ 4
  · have:=B64_pos; omega
theorem val_take_succ' (xs:List Nat) (n:Nat):val B16 (xs.take (n+1))=val B16 (xs.take n)+B16 ^ n*xs.getD n 0:=by
  by_cases h:n<xs.length
  · exact val_take_succ B16 xs n h
  · rw [List.take_of_length_le (by omega),List.take_of_length_le (by omega),getD_ge _ _ (by omega)]; simp
theorem val_gs (hs:List Nat):∀ m,val B64 (gs hs m)=val B16 (hs.take (4*m))
  | 0=>by simp [gs,val]
  | m+1=>by
    rw [gs_succ,val_append,val_gs hs m,length_gs,show 4*(m+1)=4*m+1+1+1+1 by omega,val_take_succ',val_take_succ',val_take_succ',val_take_succ']
    have e1:B64 ^ m=B16 ^ (4*m):=by rw [Nat.pow_mul]; rfl
    rw [e1]
    simp only [hp,val,Nat.pow_succ,Nat.sub_zero,Nat.reduceSub,Nat.add_zero,Nat.mul_zero,Nat.zero_mul,Nat.zero_add]
    generalize B16 ^ (4*m)=c
    unfold B16
    generalize hs.getD (4*m) 0=d0
    rw [show 4*m+1+1=4*m+2 by omega,show 4*m+2+1=4*m+3 by omega]
    generalize hs.getD (4*m+1) 0=d1
    generalize hs.getD (4*m+2) 0=d2
    generalize hs.getD (4*m+3) 0=d3
    grind
theorem hp_zero {hs:List Nat} {i:Nat} (h:hp hs i 4=0) (j:Nat) (hj:j<4):hs.getD (i+j) 0=0:=by
  simp only [hp,Nat.sub_zero,Nat.reduceSub,Nat.add_zero] at h
  have:j=0∨j=1∨j=2∨j=3:=by omega
  rcases this with rfl | rfl | rfl | rfl<;>(try simp only [Nat.add_zero])<;>omega
theorem top_gs {hs:List Nat} {m:Nat} (ht:Top hs) (h1:hs.length≤4*m) (h2:m=0∨4*(m - 1)<hs.length):Top (gs hs m):=by
  unfold Top
  rw [length_gs]
  refine tlen_eq (fun j hj=>by rw [getD_gs,if_neg (by omega)]) ?_
  rcases h2 with h2 | h2
  · exact .inl h2
  · right
    rw [getD_gs,if_pos (by omega)]
    intro e
    have hz:=hp_zero e (hs.length - 1 - 4*(m - 1)) (by omega)
    rw [show 4*(m - 1)+(hs.length - 1 - 4*(m - 1))=hs.length - 1 by omega] at hz
    have h3:=tlen_top hs (by rw [ht]; omega)
    rw [ht] at h3
    exact h3 hz
theorem or16 (x d:Nat) (hx:x<65536 ^ 3) (hd:d<65536):bits BinOp.or IntKind.u64 ((x:Int)*65536) ((d:Nat):Int)=((x*65536+d:Nat):Int):=by
  rw [show (x:Int)*65536=((x*65536:Nat):Int) by omega,u64_or_nat _ _ (by omega) (by omega)]
  congr 1
  rw [Nat.mul_comm,show (65536:Nat)=2 ^ 16 from rfl,← Nat.two_pow_add_eq_or_of_lt (by omega)]
theorem Num.far {w:World} {v y:Value} {n R j:Nat} (h:Num w v n) (hne:∀ b off k c,v=.slice (some ⟨b,off,none⟩) k c→b≠R):Num (w.setCell ⟨R,j,none⟩ y) v n:=by
  obtain ⟨ys,h1,h2⟩:=h
  exact ⟨ys,h1.set_far (fun b off cap e _=>hne b off _ cap e),h2⟩
theorem own_ne {w:World} {base e n R:Nat} {v:Value} {xs:List Value} (h:w.ownsRow base e 1 v n xs) (hR:R<base):∀ b off k c,v=.slice (some ⟨b,off,none⟩) k c→b≠R:=by
  rintro b off k c rfl
  have:=(h.lt b rfl).1
  omega
theorem own_shape64 {w:World} {base n:Nat} {v:Value} {xs:List Value} (h:w.ownsRow base 37 1 v n xs):∃ ao c,v=.slice ao n c∧n≤c∧c≤maxLen:=by
  rcases h.2 with ⟨rfl,rfl⟩ | ⟨g,cap,cur,rfl,_,_,h1,h2,_⟩
  · exact ⟨_,_,rfl,by omega,by unfold maxLen; omega⟩
  · exact ⟨_,_,rfl,h1,h2⟩
def ToZ (W wr:World) (hs:List Nat) (v i:Value):Prop:=∃ m:Nat,(m=0∨4*(m - 1)<hs.length)∧i=.int .i64 ((4*m:Nat):Int)∧wr.ownsRow W.heap.size 37 1 v (gs hs m).length (cellsOf .u64 (gs hs m))∧Below W.heap.size W wr
def ToX (hs:List Nat) (i:Nat) (x k:Value):Prop:=∃ r p:Nat,(r+p=3∧k=.int .i64 (p:Int)∨r=4∧k=.int .i64 (-1))∧x=.int .u64 ((hp hs i r:Nat):Int)
theorem to_any2 (v:Value) (z:Int) (w:World) (h:ZV w v z):Calls Tryz.prog 39 #[v] w fun e w'=>∃ v',e=.returned v'∧IntK w' v' z∧Below w.heap.size w w':=by
  obtain ⟨u,rfl,hs,hsl,hl,ht,hv⟩:=h
  obtain ⟨ao,c,rfl⟩:=hsl.shape
  have HS:=Lib.hid hsl; have HL:=Lib.hid hl; have HT:=Lib.hid ht; have HV:=Lib.hid hv
  clear hsl hl ht hv
  go_enter Tryz.func39,Tryz.ntmps39
  go_wp2
  obtain ⟨W,eW,h1,h2,bel,hsz⟩:=alloc2 w (Obj.cells #[Value.bool (sgn z),Value.slice ao hs.length c] 61) (Obj.cells #[Value.bool false,Value.slice none 0 0] 50)
  rw [eW]
  obtain ⟨p0,p1,f0,f1,_⟩:=blk2 h1
  have H2:=Lib.hid h2
  have hlen:=HS.out.len
  clear eW h1 h2
  go_loopw [3,4] (fun v i wr=>ToZ W wr hs v i) (fun _ i _=>hs.length+4 - (intOf i).toNat)
  case atStart=>exact ⟨0,.inl rfl,rfl,World.ownsRow_nil _ _ _ _,Below.refl _ _⟩
  case round =>
    obtain ⟨m,hm,rfl,hown,hbel⟩:=hrel
    have q1:=cell_to hbel p1 (by omega)
    have HO:=Lib.hid hown; have HB:=Lib.hid hbel
    by_cases hkl:4*m<hs.length
    · have hm2:m≤4194304:=by omega
      clear hown hbel hm
      generalize hi:4*m=i at *
      have HI:=Lib.hid hi
      clear hi
      have hi2:i≤16777216:=by omega
      go_wp2
      go_loop [5,6] (fun x k=>ToX hs i x k) (fun _ k=>(intOf k+1).toNat)
      case atStart=>exact ⟨0,3,.inl ⟨rfl,rfl⟩,rfl⟩
      case round =>
        obtain ⟨r,p,hc,rfl⟩:=hrel
        rcases hc with ⟨hr,rfl⟩ | ⟨rfl,rfl⟩
        · have hx:=hp_lt HL.out i r
          have hx3:hp hs i r<65536 ^ 3:=Nat.lt_of_lt_of_le hx (Nat.pow_le_pow_right (by omega) (by omega))
          have HE:Hid (hp hs i (r+1)=hp hs i r*65536+hs.getD (i+p) 0):=Lib.hid (by rw [hp,show 3 - r=p by omega])
          have hd:=HL.out (i+p)
          have HO16:=Lib.hid (or16 (hp hs i r) (hs.getD (i+p) 0) hx3 hd)
          generalize hp hs i r=x at *
          have hx4:x<281474976710656:=hx3
          have hsh:IntKind.u64.wrap ((x:Int)*65536)=((x*65536:Nat):Int):=by rw [IntKind.wrap_u64]; omega
          clear hx hx3
          by_cases hip:i+p<hs.length
          · obtain ⟨b,off,cap,e,hc1,hc2,hblt,hc⟩:=HS.out.pos (by omega)
            simp only [Value.slice.injEq] at e
            obtain ⟨rfl,_,rfl⟩:=e
            have hck:wr.cell? ⟨b,off+(i+p),none⟩=some (.int .u16 ((hs.getD (i+p) 0:Nat):Int)):=cell_to HB.out (cell_to bel (hc (i+p) hip) hblt) (by have:=bel.size; omega)
            generalize hs.getD (i+p) 0=d at *
            have hw:IntKind.u64.wrap (d:Int)=(d:Int):=wrap_u64 d (by unfold B16 at hd; unfold B64; omega)
            clear hc
            unfold maxLen at hc2
            go_wp2
            refine ⟨?_,by simp [intOf]⟩
            rw [HO16.out]
            refine ⟨r+1,p - 1, ?_,by rw [HE.out]⟩
            by_cases hp0:p=0
            · exact .inr ⟨by omega,by congr 1; omega⟩
            · exact .inl ⟨by omega,by congr 1; omega⟩
          · have hd0:hs.getD (i+p) 0=0:=getD_ge _ _ (by omega)
            rw [hd0] at HE
            clear HO16 hd hd0
            go_wp2
            refine ⟨?_,by simp [intOf]⟩
            refine ⟨r+1,p - 1, ?_,by rw [HE.out]; simp⟩
            by_cases hp0:p=0
            · exact .inr ⟨by omega,by congr 1; omega⟩
            · exact .inl ⟨by omega,by congr 1; omega⟩
        · have HX:Hid (gs hs (m+1)=gs hs m++[hp hs i 4]):=Lib.hid (by rw [gs_succ,HI.out])
          have HGL:Hid ((gs hs m).length≤16777216):=Lib.hid (by rw [length_gs]; omega)
          generalize hp hs i 4=x at *
          generalize gs hs m=ys at *
          go_wp2_with (refine append_nat (o:=⟨some 40,_,_,_,_,_⟩) rfl _ _ rfl W.heap.size _ ys x ⟨wr.heap.size,0,none⟩ rfl rfl (HO.out.alloc _) (World.cell?_alloc_new _ _ _ _) HGL.out (by have:=HB.out.size; simp; omega) ?_; intro v' w1 hown1 hg1)
          have HO3:=Lib.hid hown1
          have HB3:=Lib.hid (below_own (HB.out.alloc HB.out.size _) (HO.out.alloc _) hg1 (by have:=HB.out.size; simp; omega))
          clear hown1 hg1
          refine ⟨⟨m+1,.inr (by have:=HI.out; omega),by congr 1; have:=HI.out; omega, ?_,HB3.out⟩,by simp [intOf]; omega⟩
          rw [HX.out]
          exact HO3.out
    · have hvv:val B64 (gs hs m)=z.natAbs:=by rw [val_gs,List.take_of_length_le (by omega),HV.out]
      have hlm:(gs hs m).length≤16777216:=by rw [length_gs]; omega
      have HN:Hid (Num wr _ z.natAbs):=Lib.hid ⟨_,sl_own hown hlm,lim_gs HL.out m,top_gs HT.out (by omega) hm,hvv⟩
      have HNE:=Lib.hid (own_ne hown hsz)
      obtain ⟨a3,c3,rfl,_,_⟩:=own_shape64 hown
      generalize (gs hs m).length=l3 at *
      have hR:=(hbel.block _ hsz).trans H2.out
      have q0:=cell_to hbel p0 (by omega)
      obtain ⟨k0,k1,g0,g1,hlt⟩:=blk2 hR
      have B1:=below_of bel hbel
      have HK:=Lib.hid (Num.far (j:=1) (y:=.slice a3 l3 c3) (Num.far (j:=0) (y:=.bool (sgn z)) HN.out HNE.out) HNE.out)
      clear hown hbel hm hvv hlm
      go_wp2
      refine bodyPost_ret (v:=.agg #[.bool (sgn z),.slice a3 l3 c3]) ?_ rfl ⟨_,rfl,⟨_,rfl,HK.out⟩,(B1.setCell (p:=⟨w.heap.size+1,0,none⟩) (Nat.le_add_right _ _) _).setCell (p:=⟨w.heap.size+1,1,none⟩) (Nat.le_add_right _ _) _⟩
      simp [results,Tryz.results39,go_sem, *]
end Go.Proofs.YtacbkpenohcgjaaGreat
namespace Go.Proofs.YtacbkpenohcgjaaGreat
open Go.RowKit Mth
theorem IntK.below {w w':World} {v:Value} {z:Int} (h:IntK w v z) (hb:Below w.heap.size w w'):IntK w' v z:=by
  obtain ⟨u,h1,h2⟩:=h; exact ⟨u,h1,h2.below hb⟩
theorem IntK.shape {w:World} {v:Value} {z:Int} (h:IntK w v z):∃ n ao k c,v=.agg #[.bool n,.slice ao k c]:=by
  obtain ⟨u,rfl,ys,h1,_⟩:=h
  obtain ⟨ao,c,rfl⟩:=h1.shape
  exact ⟨_,_,_,_,rfl⟩
theorem IntK.far {w:World} {v y0 y1:Value} {z:Int} {R:Nat} {T:TypeId} {x:Bool} {ao:Option Addr} {n c:Nat} (h:IntK w v z) (hR:w.heap[R]?=some (.cells #[.bool x,.slice ao n c] T (0,0))):IntK ((w.setCell ⟨R,0,none⟩ y0).setCell ⟨R,1,none⟩ y1) v z:=by
  obtain ⟨u,e,ys,h1,h2⟩:=h
  have hne:∀ b off cap,u=.slice (some ⟨b,off,none⟩) ys.length cap→0<ys.length→b≠R:=fun b off cap e hp=>h1.ne hR e hp
  exact ⟨u,e,ys,(h1.set_far hne).set_far hne,h2⟩
theorem intk_zero (w:World):IntK w (.agg #[.bool false,.slice none 0 0]) 0:=⟨_,rfl,(ow_nil w 0).num⟩
theorem IntC.k {w:World} {base:Nat} {v:Value} {z:Int} (h:IntC w base v z):IntK w v z:=by
  obtain ⟨u,h1,h2⟩:=h; exact ⟨u,h1,h2.num⟩
theorem ZV.long {w:World} {n:Bool} {ao:Option Addr} {k c:Nat} {z:Int} (h:ZV w (.agg #[.bool n,.slice ao k c]) z):16384<k↔Big≤z.natAbs:=by
  obtain ⟨_,ys,h1,h2,h3,h4,rfl⟩:=h.parts
  rw [← h4]; exact hlong_iff h2 h3
theorem zv_nil (w:World):ZV w (.agg #[.bool false,.slice none 0 0]) 0:=⟨_,rfl,[],sl_nil w _,lim_nil (by unfold B16; omega),rfl,rfl⟩
theorem minus_any2 (v:Value) (z:Int) (w:World) (h:ZV w v z):Calls Tryz.prog 42 #[v] w fun e w'=>∃ v',e=.returned v'∧ZV w' v' (-z)∧Below w.heap.size w w':=by
  obtain ⟨n,ao,k,c,rfl⟩:=h.shape
  obtain ⟨rfl,ys,h1,h2,h3,h4,rfl⟩:=h.parts
  have E:=Lib.hid (sg_not z)
  have HM:Hid (∀ w1,Below w.heap.size w w1→Calls Tryz.prog 91 #[.bool (!sgn z),.slice ao ys.length c] w1 fun e w'=>∃ v',e=.returned v'∧ZV w1 v' (sg (!sgn z) (val B16 ys))∧Below w1.heap.size w1 w'):=Lib.hid (fun w1 hb=>make_any _ _ ys w1 (h1.below hb) h2)
  rw [h4] at HM
  clear h h1 h2 h3 h4
  go_enter Tryz.func42,Tryz.ntmps42
  go_wp2_with fail
  obtain ⟨W,eW,b1,b2,bel,hsz⟩:=alloc2 w (Obj.cells #[Value.bool (sgn z),Value.slice ao ys.length c] 61) (Obj.cells #[Value.bool false,Value.slice none 0 0] 61)
  rw [eW]
  have H2:=Lib.hid b2
  clear eW b1 b2
  refine (HM.out W bel).mono ?_
  rintro e w2 ⟨v2,rfl,hz,hb2⟩
  have hR:=(hb2.block _ hsz).trans H2.out
  obtain ⟨k0,k1,g0,g1,hlt⟩:=blk2 hR
  obtain ⟨n2,a2,l2,c2,rfl⟩:=hz.shape
  replace hz:=hz.below hb2
  rw [E.out] at hz
  have HZ:=Lib.hid (hz.far (y0:=.bool n2) (y1:=.slice a2 l2 c2) hR)
  have B2:=below_of bel hb2
  clear hz
  go_wp2
  refine bodyPost_ret (v:=.agg #[.bool n2,.slice a2 l2 c2]) ?_ rfl ⟨_,rfl,HZ.out,(B2.setCell (p:=⟨w.heap.size+1,0,none⟩) (Nat.le_add_right _ _) _).setCell (p:=⟨w.heap.size+1,1,none⟩) (Nat.le_add_right _ _) _⟩
  simp [results,Tryz.results42,go_sem, *]
end Go.Proofs.YtacbkpenohcgjaaGreat
