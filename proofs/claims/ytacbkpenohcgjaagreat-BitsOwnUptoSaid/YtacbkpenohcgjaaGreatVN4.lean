import Derived.Test.YtacbkpenohcgjaaGreatVN3
import Derived.Test.YtacbkpenohcgjaaGreatVNI9
import Derived.Test.YtacbkpenohcgjaaGreatVNJ9
import Derived.Test.YtacbkpenohcgjaaGreatVN2
set_option linter.unusedVariables false
set_option linter.unusedSimpArgs false
set_option maxHeartbeats 4000000
set_option maxRecDepth 100000
namespace Go.Proofs.YtacbkpenohcgjaaGreat
open Go.RowKit Mth
theorem fine_two {wd m n:Nat} (h1:1≤wd) (h2:wd≤4096) (hm:m<2 ^ wd) (hn:n<2 ^ wd):∀ p∈[(wd,m),(wd,n)],FineV p:=fun p hp=>by
  simp only [List.mem_cons,List.not_mem_nil,or_false] at hp
  rcases hp with rfl | rfl
  · exact ⟨h1,h2,hm⟩
  · exact ⟨h1,h2,hn⟩
theorem fine_one {wd m:Nat} (h1:1≤wd) (h2:wd≤4096) (hm:m<2 ^ wd):∀ p∈[(wd,m)],FineV p:=fun p hp=>by
  simp only [List.mem_cons,List.not_mem_nil,or_false] at hp
  subst hp
  exact ⟨h1,h2,hm⟩
theorem apply_two (kk:Int) (f:Nat) (hcf:∀ args W,(callFunc f args).run Tryz.prog W=.ok (.enter f args) W)
    (hO:∀ w1,Calls Tryz.prog 9 #[.int .i64 kk] w1 fun e w'=>e=.returned (.tuple #[.agg #[.int .i64 2,.nilFunc,.bool false,.nilFunc,.func (.func f) #[] #[]],.bool true])∧Below w1.heap.size w1 w')
    (pv av:Value) (wd m n:Nat) (z:Int) (h1:1≤wd) (h2:wd≤4096) (hm:m<2 ^ wd) (hn:n<2 ^ wd) (w:World) (hp:∃ po pn pc,pv=.slice po pn pc) (h:BvL w av [(wd,m),(wd,n)])
    (hN:∀ w1,BvL w1 av [(wd,m),(wd,n)]→Calls Tryz.prog f #[.agg #[pv,av]] w1 fun e w'=>∃ v',e=.returned v'∧IntV w' v' z∧Below w1.heap.size w1 w') :
    Calls Tryz.prog 5 #[.int .i64 kk,pv,av] w fun e w'=>∃ v',e=.returned (.tuple #[v',.int .i64 0])∧BvO w' w.heap.size v' wd (vecN wd z)∧Below w.heap.size w w':=by
  obtain ⟨ao,cap,hav⟩:=h.shape
  have hWO:∀ w1,Below w.heap.size w w1→Calls Tryz.prog 12 #[.agg #[.int .i64 2,.nilFunc,.bool false,.nilFunc,.func (.func f) #[] #[]],.agg #[pv,av]] w1 fun e w'=>e=.returned (.int .i64 (wd:Int))∧Below w1.heap.size w1 w':=fun w1 hw =>
    widthOf_nil 2 .nilFunc false f rfl pv av _ wd m w1 hp (h.below hw) rfl
  refine apply_gen kk 2 .nilFunc .nilFunc false f rfl rfl hcf pv av wd z h1 h2 w hp ⟨_,_,_,hav⟩ hO (fun w1 hw=>?_) hWO (fun w1 hw=>hN w1 (h.below hw))
  exact fault_n_0 2 _ f rfl pv av w1 hp ao 2 cap hav rfl (fun w2 hw2=>areRight_fine av _ w2 ((h.below hw).below hw2) (fine_two h1 h2 hm hn) (by simp)) wd wd m n (fun w2 hw2=>first_any pv av _ wd m w2 hp ((h.below hw).below hw2) rfl) (fun w2 hw2=>last_any pv av _ 1 wd n w2 hp ((h.below hw).below hw2) rfl (by omega) rfl) rfl wd (isW_nat h1 h2) (fun w2 hw2=>hWO w2 (below_of hw hw2))
theorem apply_one (kk:Int) (f:Nat) (hcf:∀ args W,(callFunc f args).run Tryz.prog W=.ok (.enter f args) W)
    (hO:∀ w1,Calls Tryz.prog 9 #[.int .i64 kk] w1 fun e w'=>e=.returned (.tuple #[.agg #[.int .i64 1,.nilFunc,.bool false,.nilFunc,.func (.func f) #[] #[]],.bool true])∧Below w1.heap.size w1 w')
    (pv av:Value) (wd m:Nat) (z:Int) (h1:1≤wd) (h2:wd≤4096) (hm:m<2 ^ wd) (w:World) (hp:∃ po pn pc,pv=.slice po pn pc) (h:BvL w av [(wd,m)])
    (hN:∀ w1,BvL w1 av [(wd,m)]→Calls Tryz.prog f #[.agg #[pv,av]] w1 fun e w'=>∃ v',e=.returned v'∧IntV w' v' z∧Below w1.heap.size w1 w') :
    Calls Tryz.prog 5 #[.int .i64 kk,pv,av] w fun e w'=>∃ v',e=.returned (.tuple #[v',.int .i64 0])∧BvO w' w.heap.size v' wd (vecN wd z)∧Below w.heap.size w w':=by
  obtain ⟨ao,cap,hav⟩:=h.shape
  have hWO:∀ w1,Below w.heap.size w w1→Calls Tryz.prog 12 #[.agg #[.int .i64 1,.nilFunc,.bool false,.nilFunc,.func (.func f) #[] #[]],.agg #[pv,av]] w1 fun e w'=>e=.returned (.int .i64 (wd:Int))∧Below w1.heap.size w1 w':=fun w1 hw =>
    widthOf_nil 1 .nilFunc false f rfl pv av _ wd m w1 hp (h.below hw) rfl
  refine apply_gen kk 1 .nilFunc .nilFunc false f rfl rfl hcf pv av wd z h1 h2 w hp ⟨_,_,_,hav⟩ hO (fun w1 hw=>?_) hWO (fun w1 hw=>hN w1 (h.below hw))
  exact fault_n_0 1 _ f rfl pv av w1 hp ao 1 cap hav rfl (fun w2 hw2=>areRight_fine av _ w2 ((h.below hw).below hw2) (fine_one h1 h2 hm) (by simp)) wd wd m m (fun w2 hw2=>first_any pv av _ wd m w2 hp ((h.below hw).below hw2) rfl) (fun w2 hw2=>last_any pv av _ 0 wd m w2 hp ((h.below hw).below hw2) rfl (by omega) rfl) rfl wd (isW_nat h1 h2) (fun w2 hw2=>hWO w2 (below_of hw hw2))
theorem apply_add (pv av:Value) (wd m n:Nat) (h1:1≤wd) (h2:wd≤4096) (hm:m<2 ^ wd) (hn:n<2 ^ wd) (w:World) (hp:∃ po pn pc,pv=.slice po pn pc) (h:BvL w av [(wd,m),(wd,n)]) :
    Calls Tryz.prog 5 #[.int .i64 52,pv,av] w fun e w'=>∃ v',e=.returned (.tuple #[v',.int .i64 0])∧BvO w' w.heap.size v' wd (vecN wd ((m:Int)+n))∧Below w.heap.size w w' :=
  apply_two 52 69 (fun args W=>enters_of Tryz.func69 (by kernel_rfl) rfl args W) (operatorOf_at 52 (by omega) 2 .nilFunc .nilFunc false 69 rfl rfl (by kernel_rfl) (by kernel_rfl) (by kernel_rfl) (by kernel_rfl) (by kernel_rfl)) pv av wd m n _ h1 h2 hm hn w hp h (fun w1 hw=>add_is pv av wd m n h2 hm hn w1 hp hw)
theorem apply_sub (pv av:Value) (wd m n:Nat) (h1:1≤wd) (h2:wd≤4096) (hm:m<2 ^ wd) (hn:n<2 ^ wd) (w:World) (hp:∃ po pn pc,pv=.slice po pn pc) (h:BvL w av [(wd,m),(wd,n)]) :
    Calls Tryz.prog 5 #[.int .i64 53,pv,av] w fun e w'=>∃ v',e=.returned (.tuple #[v',.int .i64 0])∧BvO w' w.heap.size v' wd (vecN wd ((m:Int) - n))∧Below w.heap.size w w' :=
  apply_two 53 70 (fun args W=>enters_of Tryz.func70 (by kernel_rfl) rfl args W) (operatorOf_at 53 (by omega) 2 .nilFunc .nilFunc false 70 rfl rfl (by kernel_rfl) (by kernel_rfl) (by kernel_rfl) (by kernel_rfl) (by kernel_rfl)) pv av wd m n _ h1 h2 hm hn w hp h (fun w1 hw=>sub_is pv av wd m n h2 hm hn w1 hp hw)
theorem apply_mul (pv av:Value) (wd m n:Nat) (h1:1≤wd) (h2:wd≤4096) (hm:m<2 ^ wd) (hn:n<2 ^ wd) (w:World) (hp:∃ po pn pc,pv=.slice po pn pc) (h:BvL w av [(wd,m),(wd,n)]) :
    Calls Tryz.prog 5 #[.int .i64 54,pv,av] w fun e w'=>∃ v',e=.returned (.tuple #[v',.int .i64 0])∧BvO w' w.heap.size v' wd (vecN wd ((m:Int)*n))∧Below w.heap.size w w' :=
  apply_two 54 71 (fun args W=>enters_of Tryz.func71 (by kernel_rfl) rfl args W) (operatorOf_at 54 (by omega) 2 .nilFunc .nilFunc false 71 rfl rfl (by kernel_rfl) (by kernel_rfl) (by kernel_rfl) (by kernel_rfl) (by kernel_rfl)) pv av wd m n _ h1 h2 hm hn w hp h (fun w1 hw=>mul_is pv av wd m n h2 hm hn w1 hp hw)
theorem apply_neg (pv av:Value) (wd m:Nat) (h1:1≤wd) (h2:wd≤4096) (hm:m<2 ^ wd) (w:World) (hp:∃ po pn pc,pv=.slice po pn pc) (h:BvL w av [(wd,m)]) :
    Calls Tryz.prog 5 #[.int .i64 44,pv,av] w fun e w'=>∃ v',e=.returned (.tuple #[v',.int .i64 0])∧BvO w' w.heap.size v' wd (vecN wd (-(m:Int)))∧Below w.heap.size w w' :=
  apply_one 44 60 (fun args W=>enters_of Tryz.func60 (by kernel_rfl) rfl args W) (operatorOf_at 44 (by omega) 1 .nilFunc .nilFunc false 60 rfl rfl (by kernel_rfl) (by kernel_rfl) (by kernel_rfl) (by kernel_rfl) (by kernel_rfl)) pv av wd m _ h1 h2 hm w hp h (fun w1 hw=>neg_is pv av _ wd m h2 hm w1 hp hw rfl)
theorem apply_not (pv av:Value) (wd m:Nat) (h1:1≤wd) (h2:wd≤4096) (hm:m<2 ^ wd) (w:World) (hp:∃ po pn pc,pv=.slice po pn pc) (h:BvL w av [(wd,m)]) :
    Calls Tryz.prog 5 #[.int .i64 43,pv,av] w fun e w'=>∃ v',e=.returned (.tuple #[v',.int .i64 0])∧BvO w' w.heap.size v' wd (vecN wd ((-1:Int) - m))∧Below w.heap.size w w' :=
  apply_one 43 59 (fun args W=>enters_of Tryz.func59 (by kernel_rfl) rfl args W) (operatorOf_at 43 (by omega) 1 .nilFunc .nilFunc false 59 rfl rfl (by kernel_rfl) (by kernel_rfl) (by kernel_rfl) (by kernel_rfl) (by kernel_rfl)) pv av wd m _ h1 h2 hm w hp h (fun w1 hw=>not_is pv av wd m h2 hm w1 hp hw)
end Go.Proofs.YtacbkpenohcgjaaGreat
namespace Go.Proofs.YtacbkpenohcgjaaGreat
open Go.RowKit Mth
def BvX (w:World) (v:Value) (x:Int) (xs:List Nat):Prop:=∃ u,v=.agg #[.int .i64 x,u]∧Sl w .u64 u xs
theorem BvX.below {w w':World} {v:Value} {x:Int} {xs:List Nat} (h:BvX w v x xs) (hb:Below w.heap.size w w'):BvX w' v x xs:=by
  obtain ⟨u,h0,h1⟩:=h; exact ⟨u,h0,h1.below hb⟩
theorem same9_wd (va vb:Value) (x y:Int) (xs ys:List Nat) (hne:x≠y) (w:World) (ha:BvX w va x xs) (hb:BvX w vb y ys) :
    Calls Tryz.prog 7 #[va,vb] w fun e w'=>e=.returned (.bool false)∧Below w.heap.size w w':=by
  obtain ⟨u1,rfl,s1⟩:=ha
  obtain ⟨u2,rfl,s2⟩:=hb
  obtain ⟨a1,c1,rfl⟩:=s1.shape
  obtain ⟨a2,c2,rfl⟩:=s2.shape
  have d1:(x != y)=true:=bne_iff_ne.2 hne
  have d2:(x == y)=false:=beq_eq_false_iff_ne.2 hne
  obtain ⟨W,eW,h1,h2,bel,hsz⟩:=alloc2 w (Obj.cells #[Value.int .i64 x,Value.slice a1 xs.length c1] 28) (Obj.cells #[Value.int .i64 y,Value.slice a2 ys.length c2] 28)
  have BL:=Lib.hid bel
  obtain ⟨p0,p1,_,_,_⟩:=blk2 h1
  obtain ⟨q0,q1,_,_,_⟩:=blk2 h2
  clear s1 s2 bel hne h1 h2
  go_enter Tryz.func7,Tryz.ntmps7
  go_wp2_with fail
  try rw [eW]
  go_wp2
  go_ret
  exact ⟨rfl,BL.out⟩
theorem same9_len (va vb:Value) (x:Int) (xs ys:List Nat) (hne:xs.length≠ys.length) (w:World) (ha:BvX w va x xs) (hb:BvX w vb x ys) :
    Calls Tryz.prog 7 #[va,vb] w fun e w'=>e=.returned (.bool false)∧Below w.heap.size w w':=by
  obtain ⟨u1,rfl,s1⟩:=ha
  obtain ⟨u2,rfl,s2⟩:=hb
  obtain ⟨a1,c1,rfl⟩:=s1.shape
  obtain ⟨a2,c2,rfl⟩:=s2.shape
  obtain ⟨W,eW,h1,h2,bel,hsz⟩:=alloc2 w (Obj.cells #[Value.int .i64 x,Value.slice a1 xs.length c1] 28) (Obj.cells #[Value.int .i64 x,Value.slice a2 ys.length c2] 28)
  have BL:=Lib.hid bel
  obtain ⟨p0,p1,_,_,_⟩:=blk2 h1
  obtain ⟨q0,q1,_,_,_⟩:=blk2 h2
  have hx:(x != x)=false:=by simp
  generalize xs.length=m at *
  generalize ys.length=n at *
  have d1:((m:Int) != (n:Int))=true:=bne_iff_ne.2 (by omega)
  have d2:((m:Int) == (n:Int))=false:=beq_eq_false_iff_ne.2 (by omega)
  clear s1 s2 bel hne h1 h2
  go_enter Tryz.func7,Tryz.ntmps7
  go_wp2_with fail
  try rw [eW]
  go_wp2
  go_ret
  exact ⟨rfl,BL.out⟩
theorem same9_yes (va vb:Value) (x:Int) (xs:List Nat) (w:World) (ha:BvX w va x xs) (hb:BvX w vb x xs) :
    Calls Tryz.prog 7 #[va,vb] w fun e w'=>e=.returned (.bool true)∧Below w.heap.size w w':=by
  obtain ⟨u1,rfl,s1⟩:=ha
  obtain ⟨u2,rfl,s2⟩:=hb
  have hlen:=s1.len
  obtain ⟨a1,c1,rfl⟩:=s1.shape
  obtain ⟨a2,c2,rfl⟩:=s2.shape
  have S1:=Lib.hid s1; have S2:=Lib.hid s2
  obtain ⟨W,eW,h1,h2,bel,hsz⟩:=alloc2 w (Obj.cells #[Value.int .i64 x,Value.slice a1 xs.length c1] 28) (Obj.cells #[Value.int .i64 x,Value.slice a2 xs.length c2] 28)
  have BL:=Lib.hid bel
  obtain ⟨p0,p1,_,_,_⟩:=blk2 h1
  obtain ⟨q0,q1,_,_,_⟩:=blk2 h2
  clear s1 s2 h1 h2
  go_enter Tryz.func7,Tryz.ntmps7
  go_wp2_with fail
  try rw [eW]
  go_loopw [5] (fun i wr=>∃ m:Nat,m≤xs.length∧i=.int .i64 (m:Int)∧Below W.heap.size W wr) (fun i _=>xs.length - (intOf i).toNat)
  case atStart=>exact ⟨0,Nat.zero_le _,rfl,Below.refl _ _⟩
  case round =>
    obtain ⟨m,hm,rfl,hbel⟩:=hrel
    have r1:=cell_to hbel p1 (by omega)
    have r2:=cell_to hbel q1 (by omega)
    have HB:=Lib.hid hbel
    by_cases hml:m<xs.length
    · obtain ⟨b1,o1,d1,e1,hc1,hc1',hlt1,k1⟩:=S1.out.pos (by omega)
      obtain ⟨b2,o2,d2,e2,hc2,hc2',hlt2,k2⟩:=S2.out.pos (by omega)
      simp only [Value.slice.injEq] at e1 e2
      obtain ⟨rfl,_,rfl⟩:=e1
      obtain ⟨rfl,_,rfl⟩:=e2
      have ck1:wr.cell? ⟨b1,o1+m,none⟩=some (.int .u64 ((xs.getD m 0:Nat):Int)):=cell_to hbel (cell_to BL.out (k1 m (by omega)) hlt1) (by have:=BL.out.size; omega)
      have ck2:wr.cell? ⟨b2,o2+m,none⟩=some (.int .u64 ((xs.getD m 0:Nat):Int)):=cell_to hbel (cell_to BL.out (k2 m (by omega)) hlt2) (by have:=BL.out.size; omega)
      generalize xs.getD m 0=x1 at *
      clear k1 k2 hbel p0 p1 q0 q1
      unfold maxLen at hc1' hc2'
      go_wp2
      go_quiet (fail)
      go_wp2
      go_roundw
      case rel=>exact ⟨m+1,by omega,by go_num,bdrawn HB.out _⟩
      case measure=>simp [intOf]; omega
    · clear hbel
      go_wp2
      go_ret
      exact ⟨rfl,below_of bel HB.out⟩
theorem same9_ne (va vb:Value) (x:Int) (xs ys:List Nat) (hl:xs.length=ys.length) (j:Nat) (hj:j<xs.length) (hne:xs.getD j 0≠ys.getD j 0) (heq:∀ k,k<j→xs.getD k 0=ys.getD k 0) (w:World) (ha:BvX w va x xs) (hb:BvX w vb x ys) :
    Calls Tryz.prog 7 #[va,vb] w fun e w'=>e=.returned (.bool false)∧Below w.heap.size w w':=by
  obtain ⟨u1,rfl,s1⟩:=ha
  obtain ⟨u2,rfl,s2⟩:=hb
  have HE:=Lib.hid heq; have HN:=Lib.hid hne; have HL:=Lib.hid hl
  clear heq hne
  have hlen:=s1.len
  obtain ⟨a1,c1,rfl⟩:=s1.shape
  obtain ⟨a2,c2,rfl⟩:=s2.shape
  rw [← hl]; clear hl
  have S1:=Lib.hid s1; have S2:=Lib.hid s2
  obtain ⟨W,eW,h1,h2,bel,hsz⟩:=alloc2 w (Obj.cells #[Value.int .i64 x,Value.slice a1 xs.length c1] 28) (Obj.cells #[Value.int .i64 x,Value.slice a2 xs.length c2] 28)
  have BL:=Lib.hid bel
  obtain ⟨p0,p1,_,_,_⟩:=blk2 h1
  obtain ⟨q0,q1,_,_,_⟩:=blk2 h2
  clear s1 s2 h1 h2
  go_enter Tryz.func7,Tryz.ntmps7
  go_wp2_with fail
  try rw [eW]
  go_loopw [5] (fun i wr=>∃ m:Nat,m≤j∧i=.int .i64 (m:Int)∧Below W.heap.size W wr) (fun i _=>xs.length - (intOf i).toNat)
  case atStart=>exact ⟨0,Nat.zero_le _,rfl,Below.refl _ _⟩
  case round =>
    obtain ⟨m,hm,rfl,hbel⟩:=hrel
    have r1:=cell_to hbel p1 (by omega)
    have r2:=cell_to hbel q1 (by omega)
    have HB:=Lib.hid hbel
    by_cases hml:m<j
    · obtain ⟨b1,o1,d1,e1,hc1,hc1',hlt1,k1⟩:=S1.out.pos (by omega)
      obtain ⟨b2,o2,d2,e2,hc2,hc2',hlt2,k2⟩:=S2.out.pos (by have:=HL.out; omega)
      simp only [Value.slice.injEq] at e1 e2
      obtain ⟨rfl,_,rfl⟩:=e1
      obtain ⟨rfl,_,rfl⟩:=e2
      have ck1:wr.cell? ⟨b1,o1+m,none⟩=some (.int .u64 ((xs.getD m 0:Nat):Int)):=cell_to hbel (cell_to BL.out (k1 m (by omega)) hlt1) (by have:=BL.out.size; omega)
      have ck2:wr.cell? ⟨b2,o2+m,none⟩=some (.int .u64 ((ys.getD m 0:Nat):Int)):=cell_to hbel (cell_to BL.out (k2 m (by have:=HL.out; omega)) hlt2) (by have:=BL.out.size; omega)
      rw [← HE.out m hml] at ck2
      generalize xs.getD m 0=x1 at *
      clear k1 k2 hbel p0 p1 q0 q1
      unfold maxLen at hc1' hc2'
      go_wp2
      go_quiet (fail)
      go_wp2
      go_roundw
      case rel=>exact ⟨m+1,by omega,by go_num,bdrawn HB.out _⟩
      case measure=>simp [intOf]; omega
    · obtain rfl:m=j:=by omega
      obtain ⟨b1,o1,d1,e1,hc1,hc1',hlt1,k1⟩:=S1.out.pos (by omega)
      obtain ⟨b2,o2,d2,e2,hc2,hc2',hlt2,k2⟩:=S2.out.pos (by have:=HL.out; omega)
      simp only [Value.slice.injEq] at e1 e2
      obtain ⟨rfl,_,rfl⟩:=e1
      obtain ⟨rfl,_,rfl⟩:=e2
      have ck1:wr.cell? ⟨b1,o1+m,none⟩=some (.int .u64 ((xs.getD m 0:Nat):Int)):=cell_to hbel (cell_to BL.out (k1 m (by omega)) hlt1) (by have:=BL.out.size; omega)
      have ck2:wr.cell? ⟨b2,o2+m,none⟩=some (.int .u64 ((ys.getD m 0:Nat):Int)):=cell_to hbel (cell_to BL.out (k2 m (by have:=HL.out; omega)) hlt2) (by have:=BL.out.size; omega)
      have hn:=HN.out
      generalize xs.getD m 0=x1 at *
      generalize ys.getD m 0=y1 at *
      have d1:((x1:Int) != (y1:Int))=true:=bne_iff_ne.2 (by omega)
      have d2:((x1:Int) == (y1:Int))=false:=beq_eq_false_iff_ne.2 (by omega)
      clear k1 k2 hbel p0 p1 q0 q1 hn
      unfold maxLen at hc1' hc2'
      go_wp2
      go_quiet (fail)
      go_wp2
      go_ret
      exact ⟨rfl,below_of bel (bdrawn HB.out _)⟩
def sameB (x y:Int) (xs ys:List Nat):Bool:=decide (x=y∧xs=ys)
theorem first_diff:∀ (xs ys:List Nat),xs.length=ys.length→xs≠ys→∃ j,j<xs.length∧xs.getD j 0≠ys.getD j 0∧∀ k,k<j→xs.getD k 0=ys.getD k 0
  | [],[],_,h=>absurd rfl h
  | [],_ :: _,h,_=>by simp at h
  | _ :: _,[],h,_=>by simp at h
  | x :: xs,y :: ys,h,hn=>by
    by_cases e:x=y
    · obtain ⟨j,h1,h2,h3⟩:=first_diff xs ys (by simpa using h) (fun e'=>hn (by rw [e,e']))
      refine ⟨j+1,by simpa using h1,by simpa using h2,fun k hk=>?_⟩
      cases k with
      | zero=>simpa using e
      | succ k=>simpa using h3 k (by omega)
    · exact ⟨0,by simp,by simpa using e,fun k hk=>absurd hk (by omega)⟩
theorem same9_any (va vb:Value) (x y:Int) (xs ys:List Nat) (w:World) (ha:BvX w va x xs) (hb:BvX w vb y ys) :
    Calls Tryz.prog 7 #[va,vb] w fun e w'=>e=.returned (.bool (sameB x y xs ys))∧Below w.heap.size w w':=by
  unfold sameB
  by_cases h1:x=y
  · subst h1
    by_cases h2:xs=ys
    · subst h2
      rw [decide_eq_true ⟨rfl,rfl⟩]
      exact same9_yes va vb x xs w ha hb
    · rw [decide_eq_false (fun h=>h2 h.2)]
      by_cases h3:xs.length=ys.length
      · obtain ⟨j,a,b,c⟩:=first_diff xs ys h3 h2
        exact same9_ne va vb x xs ys h3 j a b c w ha hb
      · exact same9_len va vb x xs ys h3 w ha hb
  · rw [decide_eq_false (fun h=>h1 h.1)]
    exact same9_wd va vb x y xs ys h1 w ha hb
end Go.Proofs.YtacbkpenohcgjaaGreat
namespace Go.Proofs.YtacbkpenohcgjaaGreat
open Go.RowKit Mth
def BvK (w:World) (wd:Nat) (a:Option Addr) (k c n:Nat):Prop:=∃ xs,xs.length=k∧Sl w .u64 (.slice a k c) xs∧Lim B64 xs∧Top xs∧val B64 xs=n∧n<2 ^ wd∧k≤4000000
theorem BvK.below {w w':World} {wd k c n:Nat} {a:Option Addr} (h:BvK w wd a k c n) (hb:Below w.heap.size w w'):BvK w' wd a k c n:=by
  obtain ⟨xs,h0,h1,h2⟩:=h; exact ⟨xs,h0,h1.below hb,h2⟩
theorem Sl.neI {w:World} {b off cap R:Nat} {xs:List Nat} {T:TypeId} {x:Int} {u:Value} (h:Sl w .u64 (.slice (some ⟨b,off,none⟩) xs.length cap) xs) (hp:0<xs.length) (hR:w.heap[R]?=some (.cells #[.int .i64 x,u] T (0,0))) (hu:∀ z,u≠.int .u64 z):b≠R:=by
  intro e
  subst e
  obtain ⟨ao,cap',e,-,-,-,-,h⟩:=h
  obtain ⟨b',off',rfl,-,hc⟩:=h hp
  simp only [Value.slice.injEq,Option.some.injEq,Addr.mk.injEq] at e
  obtain ⟨⟨rfl,rfl,-⟩,-,-⟩:=e
  have h0:=hc 0 hp
  rw [cell_of_row _ _ _ _ _ (0,0) hR] at h0
  rw [Nat.add_zero] at h0
  match off,h0 with
  | 0,h0=>simp at h0
  | 1,h0=>simp at h0; exact hu _ h0
  | n+2,h0=>simp at h0
theorem BvK.far {w:World} {wd k c n:Nat} {a:Option Addr} {y0 y1:Value} {R:Nat} {T:TypeId} {x:Int} {u:Value} (h:BvK w wd a k c n) (hR:w.heap[R]?=some (.cells #[.int .i64 x,u] T (0,0))) (hu:∀ z,u≠.int .u64 z):BvK ((w.setCell ⟨R,0,none⟩ y0).setCell ⟨R,1,none⟩ y1) wd a k c n:=by
  obtain ⟨xs,rfl,h1,h2⟩:=h
  have hne:∀ b off cap,(Value.slice a xs.length c)=.slice (some ⟨b,off,none⟩) xs.length cap→0<xs.length→b≠R:=fun b off cap e hp=>by rw [e] at h1; exact h1.neI hp hR hu
  exact ⟨xs,rfl,(h1.set_far hne).set_far hne,h2⟩
theorem BvK.x {w:World} {wd k c n:Nat} {a:Option Addr} (h:BvK w wd a k c n):BvV w (.agg #[.int .i64 (wd:Int),.slice a k c]) wd n:=by
  obtain ⟨xs,rfl,h1,h2,h3,h4,h5,h6⟩:=h; exact ⟨_,xs,rfl,h1,h2,h6,h4⟩
theorem BvK.lt {w:World} {wd k c n:Nat} {a:Option Addr} (h:BvK w wd a k c n):n<2 ^ wd:=by
  obtain ⟨xs,h0,h1,h2,h3,h4,h5,h6⟩:=h; exact h5
theorem BvO.k {w:World} {base wd n:Nat} {v:Value} (h:BvO w base v wd n) (hn:n<2 ^ wd) (h2:wd≤8192):∃ a k c,v=.agg #[.int .i64 (wd:Int),.slice a k c]∧BvK w wd a k c n:=by
  obtain ⟨u,rfl,h⟩:=h
  obtain ⟨xs,s,l,t,e⟩:=h.sl
  obtain ⟨a,c,rfl⟩:=s.shape
  exact ⟨a,xs.length,c,rfl,xs,rfl,s,l,t,e,hn,small_limbs t e hn h2⟩
theorem bvl_two {W:World} {g wd1 wd2 m n:Nat} {a0 a1:Option Addr} {k0 c0 k1 c1:Nat}
    (hg:W.heap[g]?=some (.cells #[.int .i64 (wd1:Int),.slice a0 k0 c0,.int .i64 (wd2:Int),.slice a1 k1 c1] 28 (0,0)))
    (h0:BvK W wd1 a0 k0 c0 m) (h1:BvK W wd2 a1 k1 c1 n):BvL W (.slice (some ⟨g,0,none⟩) 2 2) [(wd1,m),(wd2,n)]:=by
  refine ⟨_,2,rfl,fun _=>⟨g,0,rfl,(Array.getElem?_eq_some_iff.1 hg).1,fun i p hp=>?_⟩⟩
  match i,hp with
  | 0,hp =>
    cases hp
    obtain ⟨xs,rfl,s,l,t,e,b,f⟩:=h0
    exact ⟨_,xs,by rw [cell_of_row _ _ _ _ _ (0,0) hg]; rfl,by rw [cell_of_row _ _ _ _ _ (0,0) hg]; rfl,s,l,f,e⟩
  | 1,hp =>
    cases hp
    obtain ⟨xs,rfl,s,l,t,e,b,f⟩:=h1
    exact ⟨_,xs,by rw [cell_of_row _ _ _ _ _ (0,0) hg]; rfl,by rw [cell_of_row _ _ _ _ _ (0,0) hg]; rfl,s,l,f,e⟩
def ResB (w w':World) (e:Ending) (wd n:Nat):Prop:=∃ a k c,e=.returned (.agg #[.int .i64 (wd:Int),.slice a k c])∧BvK w' wd a k c n∧Below w.heap.size w w'
def ResBE (w w':World) (e:Ending) (wd n:Nat):Prop:=∃ a k c,e=.returned (.tuple #[.agg #[.int .i64 (wd:Int),.slice a k c],.int .i64 0])∧BvK w' wd a k c n∧Below w.heap.size w w'
theorem resBE_of {f:FuncId} {args:Array Value} {w:World} {wd n:Nat} (hn:n<2 ^ wd) (h2:wd≤8192) (h:Calls Tryz.prog f args w fun e w'=>∃ v',e=.returned (.tuple #[v',.int .i64 0])∧BvO w' w.heap.size v' wd n∧Below w.heap.size w w'):Calls Tryz.prog f args w fun e w'=>ResBE w w' e wd n :=
  h.mono fun e w' ⟨v',he,ho,hb⟩=>by
    obtain ⟨a,k,c,rfl,hk⟩:=ho.k hn h2
    exact ⟨a,k,c,he,hk,hb⟩
theorem ofK (wd n:Nat) (h1:1≤wd) (h2:wd≤4096) (hn:n<B64) (w:World):Calls Tryz.prog 50 #[.int .i64 (wd:Int),.int .u64 (n:Int)] w fun e w'=>ResBE w w' e wd (n % 2 ^ wd) :=
  resBE_of (Nat.mod_lt _ (two_pos _)) (by omega) ((of_any9 wd n h1 h2 hn w).mono fun e w' ⟨v',he,⟨u,hv,ho⟩,hb⟩=>⟨v',he,⟨u,hv,ho.mono (by omega)⟩,hb⟩)
theorem sameK {w:World} {wd wd' k c k' c' m n:Nat} {a a':Option Addr} (ha:BvK w wd a k c m) (hb:BvK w wd' a' k' c' n) :
    Calls Tryz.prog 7 #[.agg #[.int .i64 (wd:Int),.slice a k c],.agg #[.int .i64 (wd':Int),.slice a' k' c']] w fun e w'=>e=.returned (.bool (decide (wd=wd'∧m=n)))∧Below w.heap.size w w':=by
  obtain ⟨xs,rfl,s,l,t,e,-,-⟩:=ha
  obtain ⟨ys,rfl,s',l',t',e',-,-⟩:=hb
  have h:=same9_any _ _ (wd:Int) (wd':Int) xs ys w ⟨_,rfl,s⟩ ⟨_,rfl,s'⟩
  have he:sameB (wd:Int) (wd':Int) xs ys=decide (wd=wd'∧m=n):=by
    unfold sameB
    rw [decide_eq_decide]
    constructor
    · rintro ⟨h1,rfl⟩
      exact ⟨by omega,by rw [← e,e']⟩
    · rintro ⟨rfl,rfl⟩
      exact ⟨rfl,top_uniq B64_pos l l' t t' (by rw [e,e'])⟩
  rw [he] at h
  exact h
theorem sameT {w:World} {wd k c k' c' m n:Nat} {a a':Option Addr} (ha:BvK w wd a k c m) (hb:BvK w wd a' k' c' n) (hmn:m=n) :
    Calls Tryz.prog 7 #[.agg #[.int .i64 (wd:Int),.slice a k c],.agg #[.int .i64 (wd:Int),.slice a' k' c']] w fun e w'=>e=.returned (.bool true)∧Below w.heap.size w w':=by
  have h:=sameK ha hb
  rw [decide_eq_true ⟨rfl,hmn⟩] at h
  exact h
end Go.Proofs.YtacbkpenohcgjaaGreat
namespace Go.Proofs.YtacbkpenohcgjaaGreat
open Go.RowKit Mth
theorem ns_u64 {ao:Option Addr} {k c:Nat}:∀ z,(Value.slice ao k c)≠.int .u64 z:=fun z e=>by cases e
theorem b9 (wd n:Nat) (h1:1≤wd) (h2:wd≤4096) (hn:n<B64) (w:World):Calls Tryz.prog 21 #[.int .i64 (wd:Int),.int .u64 (n:Int)] w fun e w'=>ResB w w' e wd (n % 2 ^ wd):=by
  obtain ⟨W,eW,gW,bW,hWs⟩:=alloc1n w (Obj.cells #[.int .i64 0,.slice none 0 0] 28)
  have OF:=Lib.hid (ofK wd n h1 h2 hn W)
  have GW:=Lib.hid gW; have BW:=Lib.hid bW
  clear gW bW
  go_enter Tryz.func21,Tryz.ntmps21
  go_wp2_with fail
  try rw [eW]
  refine OF.out.mono ?_
  rintro e w2 ⟨a,k,c,rfl,hk2,hb2⟩
  obtain ⟨V,eV,gV,bV,hVs⟩:=alloc1n w2 (Obj.cells #[.int .i64 (wd:Int),.slice a k c] 28)
  have HK:=Lib.hid (hk2.below bV)
  have B2:=Lib.hid (below_of (below_of BW.out hb2) bV)
  have GR:=Lib.hid (car bV (car hb2 GW.out))
  obtain ⟨p0,p1,-,-,_⟩:=blk2 gV
  obtain ⟨q0,q1,r0,r1,_⟩:=blk2 GR.out
  clear hk2 hb2 bV gV
  go_upto_region 2 with fail
  try rw [eV]
  go_wp2
  exact bodyPost_ret (results_bt rfl rfl (set2_row _ _ GR.out)) rfl ⟨_,_,_,rfl,HK.out.far GR.out ns_u64,(B2.out.setCell (Nat.le_refl _) _).setCell (Nat.le_refl _) _⟩
end Go.Proofs.YtacbkpenohcgjaaGreat
