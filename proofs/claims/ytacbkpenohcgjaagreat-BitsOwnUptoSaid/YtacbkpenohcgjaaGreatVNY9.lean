import Derived.Test.YtacbkpenohcgjaaGreatVNV9
import Derived.Test.YtacbkpenohcgjaaGreatVNW3
import Derived.Test.YtacbkpenohcgjaaGreatVNZ9
import Derived.Test.YtacbkpenohcgjaaGreatVNW2
import Derived.Test.YtacbkpenohcgjaaGreatVNW6
import Derived.Test.YtacbkpenohcgjaaGreatVNW4
import Derived.Test.YtacbkpenohcgjaaGreatVNW5
import Derived.Test.YtacbkpenohcgjaaGreatVNW7
import Derived.Test.YtacbkpenohcgjaaGreatVN9
set_option linter.unusedVariables false
set_option linter.unusedSimpArgs false
namespace Go.Proofs.YtacbkpenohcgjaaGreat
open Go.RowKit Mth
theorem limb_tb (m i:Nat):(limbN m (i / 64)).testBit (i % 64)=m.testBit i:=by
  have hB:B64=2 ^ 64:=by unfold B64; rfl
  unfold limbN
  rw [b64_two,hB,tb_mod,decide_eq_true (Nat.mod_lt _ (by omega)),Bool.true_and,tb_div,show 64*(i / 64)+i % 64=i by omega]
theorem num_zip {g:Nat→Nat→Nat} {b:Bool→Bool→Bool} (gl:∀ u v,u<B64→v<B64→g u v<B64) (hg:∀ u v,u<B64→v<B64→∀ j,j<64→(g u v).testBit j=b (u.testBit j) (v.testBit j)) (m n wd:Nat) :
    bitsN (mapF (fun i=>b (m.testBit i) (n.testBit i)) wd)=vecN wd ((val B64 (zipL g m n (lbs wd)):Nat):Int):=by
  rw [vec_nat]
  refine bits_are _ (fun i hi=>?_)
  have hq:i / 64<lbs wd:=by unfold lbs; omega
  have hr:i % 64<64:=Nat.mod_lt _ (by omega)
  have hlen:(zipL g m n (lbs wd)).length=lbs wd:=by unfold zipL; simp
  have e:=bit_limb (zip_lim gl m n (lbs wd)) (q:=i / 64) (r:=i % 64) hr (by omega)
  rw [bitN_tb,show 64*(i / 64)+i % 64=i by omega] at e
  have hget:(zipL g m n (lbs wd)).getD (i / 64) 0=g (limbN m (i / 64)) (limbN n (i / 64)):=by
    unfold zipL
    rw [List.getD_eq_getElem?_getD,List.getElem?_map,List.getElem?_range hq]
    rfl
  rw [e,hget,← tb,hg _ _ (limbN_lt _ _) (limbN_lt _ _) _ hr,limb_tb,limb_tb]
theorem not_tb {x j:Nat} (hx:x<B64) (hj:j<64):(B64 - 1 - x).testBit j=!x.testBit j:=by
  have hB:B64=2 ^ 64:=by unfold B64; rfl
  rw [hB] at hx ⊢
  rw [show 2 ^ 64 - 1 - x=2 ^ 64 - (x+1) by omega,Nat.testBit_two_pow_sub_succ hx,decide_eq_true hj,Bool.true_and]
theorem num_45 (m n wd:Nat):bitsN (mapF (fun i=>eachF 45 (m.testBit i) (n.testBit i)) wd)=vecN wd ((val B64 (zipL andG m n (lbs wd)):Nat):Int) :=
  num_zip (b:=eachF 45) andG_lt (fun u v hu hv j hj=>by
    unfold andG
    rw [Nat.testBit_and]
    generalize u.testBit j=x
    generalize v.testBit j=y
    cases x<;>cases y<;>rfl) m n wd
theorem num_46 (m n wd:Nat):bitsN (mapF (fun i=>eachF 46 (m.testBit i) (n.testBit i)) wd)=vecN wd ((val B64 (zipL orG m n (lbs wd)):Nat):Int) :=
  num_zip (b:=eachF 46) orG_lt (fun u v hu hv j hj=>by
    unfold orG
    rw [Nat.testBit_or]
    generalize u.testBit j=x
    generalize v.testBit j=y
    cases x<;>cases y<;>rfl) m n wd
theorem num_47 (m n wd:Nat):bitsN (mapF (fun i=>eachF 47 (m.testBit i) (n.testBit i)) wd)=vecN wd ((val B64 (zipL xorG m n (lbs wd)):Nat):Int) :=
  num_zip (b:=eachF 47) xorG_lt (fun u v hu hv j hj=>by
    unfold xorG
    rw [Nat.testBit_xor]
    generalize u.testBit j=x
    generalize v.testBit j=y
    cases x<;>cases y<;>rfl) m n wd
theorem num_48 (m n wd:Nat):bitsN (mapF (fun i=>eachF 48 (m.testBit i) (n.testBit i)) wd)=vecN wd ((val B64 (zipL nandG m n (lbs wd)):Nat):Int) :=
  num_zip (b:=eachF 48) nandG_lt (fun u v hu hv j hj=>by
    unfold nandG
    rw [not_tb (x:=u &&& v) (andG_lt u v hu hv) hj,Nat.testBit_and]
    generalize u.testBit j=x
    generalize v.testBit j=y
    cases x<;>cases y<;>rfl) m n wd
theorem num_49 (m n wd:Nat):bitsN (mapF (fun i=>eachF 49 (m.testBit i) (n.testBit i)) wd)=vecN wd ((val B64 (zipL norG m n (lbs wd)):Nat):Int) :=
  num_zip (b:=eachF 49) norG_lt (fun u v hu hv j hj=>by
    unfold norG
    rw [not_tb (x:=u ||| v) (orG_lt u v hu hv) hj,Nat.testBit_or]
    generalize u.testBit j=x
    generalize v.testBit j=y
    cases x<;>cases y<;>rfl) m n wd
theorem num_50 (m n wd:Nat):bitsN (mapF (fun i=>eachF 50 (m.testBit i) (n.testBit i)) wd)=vecN wd ((val B64 (zipL xnorG m n (lbs wd)):Nat):Int) :=
  num_zip (b:=eachF 50) xnorG_lt (fun u v hu hv j hj=>by
    unfold xnorG
    rw [not_tb (x:=u ^^^ v) (xorG_lt u v hu hv) hj,Nat.testBit_xor]
    generalize u.testBit j=x
    generalize v.testBit j=y
    cases x<;>cases y<;>rfl) m n wd
theorem num_43 {m wd:Nat} (hm:m<2 ^ wd):bitsN (mapF (fun i=>eachF 43 (m.testBit i) (m.testBit i)) wd)=vecN wd ((-1:Int) - m):=by
  rw [show vecN wd ((-1:Int) - m)=2 ^ wd - (m+1) from (vec_of (by omega) (by rw [show ((2 ^ wd - (m+1):Nat):Int)=((-1:Int) - m)+((2 ^ wd:Nat):Int) by omega,Int.add_emod_right])).symm]
  exact bits_vec _ (by omega) (fun i hi=>by rw [Nat.testBit_two_pow_sub_succ hm,decide_eq_true hi,Bool.true_and]; rfl)
theorem num_41 {m n wd2:Nat} (hn:n<2 ^ wd2) (W:Nat):bitsN (mapF (fun i=>if i<wd2 then n.testBit i else m.testBit (i - wd2)) W)=vecN W ((m*2 ^ wd2+n:Nat):Int):=by
  rw [vec_nat]; exact bits_are _ (fun i _=>(tb_join hn i).symm)
theorem num_42 (m lo W:Nat):bitsN (mapF (fun i=>m.testBit (lo+i)) W)=vecN W ((m / 2 ^ lo:Nat):Int):=by
  rw [vec_nat]; exact bits_are _ (fun i _=>(tb_div m lo i).symm)
theorem num_60 (m s W:Nat):bitsN (mapF (fun i=>decide (s≤i)&&m.testBit (i - s)) W)=vecN W ((m*2 ^ s:Nat):Int):=by
  rw [vec_nat]; exact bits_are _ (fun i _=>(tb_up m s i).symm)
theorem num_61 {m s wd:Nat} (hm:m<2 ^ wd):bitsN (mapF (fun i=>decide (i+s<wd)&&m.testBit (i+s)) wd)=vecN wd ((m / 2 ^ s:Nat):Int):=by
  rw [vec_nat]; exact bits_are _ (fun i _=>by
    rw [tb_div,Nat.add_comm s i]
    by_cases h:i+s<wd
    · rw [decide_eq_true h,Bool.true_and]
    · rw [decide_eq_false h,Bool.false_and,tb_big hm (by omega)])
theorem num_62 {m s wd:Nat} (h1:1≤wd) (hm:m<2 ^ wd) (hs:s≤wd):bitsN (mapF (fun i=>m.testBit (if i+s<wd - 1 then i+s else wd - 1)) wd)=vecN wd (sgV wd m / ((2 ^ s:Nat):Int)):=by
  have h:=vec_lt wd (sgV wd m / ((2 ^ s:Nat):Int))
  rw [vec_ashr hm hs] at h ⊢
  exact bits_vec _ h (fun i hi=>(tb_ashr h1 hm hs hi).symm)
theorem num_63 {m wd p:Nat} (h1:1≤wd) (hm:m<2 ^ wd):bitsN (mapF (fun i=>m.testBit (i % wd)) (wd*p))=vecN (wd*p) ((repN m wd p:Nat):Int):=by
  rw [vec_nat]; exact bits_are _ (fun i hi=>(tb_rep hm h1 (repN m wd) rfl (fun _=>rfl) p i hi).symm)
theorem num_64 {m wd:Nat} (hm:m<2 ^ wd) (W:Nat):bitsN (mapF (fun i=>decide (i<wd)&&m.testBit i) W)=vecN W (m:Int):=by
  rw [vec_nat]; exact bits_are _ (fun i _=>by
    by_cases h:i<wd
    · rw [decide_eq_true h,Bool.true_and]
    · rw [decide_eq_false h,Bool.false_and,tb_big hm (by omega)])
theorem num_65 {m wd W:Nat} (h1:1≤wd) (hm:m<2 ^ wd) (hw:wd≤W):bitsN (mapF (fun i=>m.testBit (if i<wd - 1 then i else wd - 1)) W)=vecN W (sgV wd m):=by
  have h:=vec_lt W (sgV wd m)
  rw [vec_sign hm hw] at h ⊢
  exact bits_vec _ h (fun i hi=>(tb_sign h1 hm hw hi).symm)
theorem num_66 {m wd p:Nat} (h1:1≤wd) (hm:m<2 ^ wd):bitsN (mapF (fun i=>m.testBit ((i+(wd - p % wd)) % wd)) wd)=vecN wd ((rotZ wd m (p % wd):Nat):Int):=by
  have hq:=Nat.mod_lt p (show 0<wd by omega)
  rw [vec_nat]
  exact bits_vec _ (Nat.mod_lt _ (two_pos _)) (fun i hi=>by unfold rotZ; rw [tb_rot hm (by omega) hi,rot_at h1 hi])
theorem num_67 {m wd p:Nat} (h1:1≤wd) (hm:m<2 ^ wd):bitsN (mapF (fun i=>m.testBit ((i+p) % wd)) wd)=vecN wd ((rotZ wd m (wd - p % wd):Nat):Int):=by
  rw [vec_nat]
  exact bits_vec _ (Nat.mod_lt _ (two_pos _)) (fun i hi=>by unfold rotZ; rw [tb_rot hm (by omega) hi,rotR_at h1 hi])
end Go.Proofs.YtacbkpenohcgjaaGreat
namespace Go.Proofs.YtacbkpenohcgjaaGreat
open Go.RowKit Mth
def ResF (w w':World) (e:Ending) (x er:Int) (n:Nat):Prop:=∃ a k c,e=.returned (.tuple #[.agg #[.int .i64 x,.slice a k c],.int .i64 er])∧SlN w' a k c n∧(k=0∨Ow w' w.heap.size (.slice a k c) n)∧Below w.heap.size w w'
theorem ResF.n {w w':World} {e:Ending} {x er:Int} {n:Nat} (h:ResF w w' e x er n):ResN w w' e x er n:=by
  obtain ⟨a,k,c,h1,h2,-,h3⟩:=h; exact ⟨a,k,c,h1,h2,h3⟩
theorem slN_zero {w:World} {a:Option Addr} {k c:Nat} (h:SlN w a k c 0):k=0:=by
  obtain ⟨xs,rfl,-,-,t,e⟩:=h
  by_cases hp:0<xs.length
  · have:=pos_of_top t hp
    omega
  · omega
theorem resF_err {f:FuncId} {args:Array Value} {w:World} {er:Int} (h:Calls Tryz.prog f args w fun e w'=>ResN w w' e 0 er 0):Calls Tryz.prog f args w fun e w'=>ResF w w' e 0 er 0 :=
  h.mono fun e w' ⟨a,k,c,he,hs,hb⟩=>⟨a,k,c,he,hs,.inl (slN_zero hs),hb⟩
theorem resF_ok {f:FuncId} {args:Array Value} {w:World} {wd n:Nat} (h:Calls Tryz.prog f args w fun e w'=>∃ v',e=.returned (.tuple #[v',.int .i64 0])∧BvO w' w.heap.size v' wd n∧Below w.heap.size w w'):Calls Tryz.prog f args w fun e w'=>ResF w w' e (wd:Int) 0 n :=
  h.mono fun e w' ⟨v',he,⟨u,hv,ho⟩,hb⟩=>by
    obtain ⟨xs,s,l,t,ev⟩:=ho.sl
    obtain ⟨a,c,rfl⟩:=s.shape
    subst hv
    exact ⟨a,xs.length,c,he,⟨xs,rfl,s,l,t,ev⟩,.inr ho,hb⟩
def AppB (op:Int) (ps:List Int) (L:List (Int × List Nat)):Prop:=∃ (x er:Int) (n:Nat),∀ (pv av:Value) (w:World),PaL w pv ps→BvLX w av L→(Calls Tryz.prog 5 #[.int .i64 op,pv,av] w fun e w'=>ResF w w' e x er n)∧(Calls Tryz.prog 6 #[.int .i64 op,pv,av] w fun e w'=>ResN w w' e x er n)
theorem BvLX.sl {w:World} {av:Value} {L:List (Int × List Nat)} (h:BvLX w av L):∃ ao ak ac,av=.slice ao ak ac:=by obtain ⟨ao,cap,h⟩:=h.shape; exact ⟨ao,_,cap,h⟩
theorem both_err (op er:Int) (her:er≠0) (ps:List Int) (L:List (Int × List Nat))
    (P:∀ pv av w,PaL w pv ps→BvLX w av L→Calls Tryz.prog 5 #[.int .i64 op,pv,av] w fun e w'=>ResN w w' e 0 er 0)
    (C:∀ pv av w,PaL w pv ps→BvLX w av L→Calls Tryz.prog 13 #[.int .i64 op,pv,av,.int .i64 1] w fun e w'=>e=.returned (.int .i64 er)∧Below w.heap.size w w'):AppB op ps L :=
  ⟨0,er,0,fun pv av w hp ha=>⟨resF_err (P pv av w hp ha),rapply_err op er her pv av w hp.shape ha.sl (fun w1 hw=>C pv av w1 (hp.below hw) (ha.below hw))⟩⟩
theorem same_below {f:FuncId} {args:Array Value} {w:World} {v:Value} (h:Calls Tryz.prog f args w fun e w'=>e=.returned v∧w'=w):Calls Tryz.prog f args w fun e w'=>e=.returned v∧Below w.heap.size w w' :=
  h.mono fun e w' ⟨he,hw⟩=>⟨he,by rw [hw]; exact Below.refl _ _⟩
theorem both_50 (op:Int) (h:op<41∨67<op) (ps:List Int) (L:List (Int × List Nat)):AppB op ps L :=
  both_err op 50 (by decide) ps L (fun pv av w hp ha=>none_50 op (by omega) pv av w hp.shape ha.sl) (fun pv av w _ _=>same_below (check1_50 op h pv av w))
theorem right_parts {x:Int} {n:Nat} (h:rightF x n=true):1≤x∧x≤4096∧n<2 ^ x.toNat:=by
  unfold rightF isW at h
  simp only [Bool.and_eq_true,decide_eq_true_eq] at h
  obtain ⟨⟨a,b⟩,c⟩:=h
  exact ⟨a,b,Nat.lt_of_lt_of_le (lt_bl _) (Nat.pow_le_pow_right (by omega) (by omega))⟩
theorem bvlx_two {w:World} {av:Value} {wd wd':Nat} {xs ys:List Nat} (h:BvLX w av [((wd:Int),xs),((wd':Int),ys)]) (hx:rightF (wd:Int) (val B64 xs)=true) (hy:rightF (wd':Int) (val B64 ys)=true):BvL w av [(wd,val B64 xs),(wd',val B64 ys)] :=
  (h.fine (fun p hp=>by
    simp only [List.mem_cons,List.not_mem_nil,or_false] at hp
    rcases hp with rfl | rfl
    · exact hx
    · exact hy)).1
theorem bvlx_one {w:World} {av:Value} {wd:Nat} {xs:List Nat} (h:BvLX w av [((wd:Int),xs)]) (hx:rightF (wd:Int) (val B64 xs)=true):BvL w av [(wd,val B64 xs)] :=
  (h.fine (fun p hp=>by
    simp only [List.mem_cons,List.not_mem_nil,or_false] at hp
    subst hp
    exact hx)).1
theorem both_51n (op n:Int) (d:Value) (mx:Bool) (f:Nat) (hd:d.oneCell'=true) (hO:RowIs op n .nilFunc d mx f) (m:Int) (K:KindIs op n m) (ps:List Int) (L:List (Int × List Nat)) (hl:(L.length:Int)≠n):AppB op ps L :=
  both_err op 51 (by decide) ps L (fun pv av w hp ha=>by
    obtain ⟨ao,cap,hav⟩:=ha.shape
    exact err_51n op n d mx f hd hO pv av w hp.shape ao _ cap hav hl) (fun pv av w hp ha=>by
    obtain ⟨ao,cap,rfl⟩:=ha.shape
    exact same_below (check1_51 op n m K pv ao _ cap hl w))
theorem both_51p (op n:Int) (pf:Nat) (d:Value) (mx:Bool) (f:Nat) (hd:d.oneCell'=true) (hcp:∀ args W,(callFunc pf args).run Tryz.prog W=.ok (.enter pf args) W) (hO:RowIs op n (.func (.func pf) #[] #[]) d mx f) (m:Int) (K:KindIs op n m) (ps:List Int) (L:List (Int × List Nat)) (hl:(L.length:Int)≠n):AppB op ps L :=
  both_err op 51 (by decide) ps L (fun pv av w hp ha=>by
    obtain ⟨ao,cap,hav⟩:=ha.shape
    exact err_51p op n pf d mx f hd hcp hO pv av w hp.shape ao _ cap hav hl) (fun pv av w hp ha=>by
    obtain ⟨ao,cap,rfl⟩:=ha.shape
    exact same_below (check1_51 op n m K pv ao _ cap hl w))
def RefOk (op:Int) (pv av:Value) (w:World) (g:Nat):Prop:=(∀ w1,Below w.heap.size w w1→Calls Tryz.prog 13 #[.int .i64 op,pv,av,.int .i64 1] w1 fun e w'=>e=.returned (.int .i64 0)∧Below w1.heap.size w1 w')∧(∀ w1,Below w.heap.size w w1→Calls Tryz.prog 14 #[.int .i64 op,pv,av] w1 fun e w'=>e=.returned (.int .i64 (g:Int))∧Below w1.heap.size w1 w')
theorem both_two (op:Int) (h45:45≤op) (h62:op≤62) (K:KindIs op 2 0) (d:Value) (f:Nat) (hd:d.oneCell'=true) (hO:RowIs op 2 .nilFunc d false f) (G:Nat→Nat) (hG:∀ wd,wd≤4096→G wd≤4096)
    (hW:∀ (pv av:Value) (wd:Nat) (xs:List Nat) (y:Int) (ys:List Nat) (w:World),BvLX w av [((wd:Int),xs),(y,ys)]→Calls Tryz.prog 14 #[.int .i64 op,pv,av] w fun e w'=>e=.returned (.int .i64 (G wd:Int))∧Below w.heap.size w w')
    (OK:∀ wd m n,1≤wd→wd≤4096→m<2 ^ wd→n<2 ^ wd→∃ N,∀ pv av w,(∃ po pn pc,pv=.slice po pn pc)→BvL w av [(wd,m),(wd,n)]→RefOk op pv av w (G wd)→(Calls Tryz.prog 5 #[.int .i64 op,pv,av] w fun e w'=>∃ v',e=.returned (.tuple #[v',.int .i64 0])∧BvO w' w.heap.size v' (G wd) N∧Below w.heap.size w w')∧(Calls Tryz.prog 6 #[.int .i64 op,pv,av] w fun e w'=>ResN w w' e (G wd:Int) 0 N))
    (ps:List Int) (L:List (Int × List Nat)):AppB op ps L:=by
  by_cases hl:L.length=2
  · match L,hl with
    | [(x,xs),(y,ys)],_ =>
      by_cases hx:rightF x (val B64 xs)=true
      · obtain ⟨a1,a2,a3⟩:=right_parts hx
        obtain ⟨wd,rfl⟩:=Int.eq_ofNat_of_zero_le (show 0≤x by omega)
        rw [Int.toNat_natCast] at a3
        by_cases hy:rightF y (val B64 ys)=true
        · obtain ⟨b1,b2,b3⟩:=right_parts hy
          obtain ⟨wd',rfl⟩:=Int.eq_ofNat_of_zero_le (show 0≤y by omega)
          rw [Int.toNat_natCast] at b3
          by_cases hw:wd=wd'
          · subst hw
            obtain ⟨N,hN⟩:=OK wd (val B64 xs) (val B64 ys) (by omega) (by omega) a3 b3
            refine ⟨(G wd:Int),0,N,fun pv av w hp ha=>?_⟩
            have h:=hN pv av w hp.shape (bvlx_two ha hx hy) ⟨fun w1 hw1=>check2_two op h45 h62 K av _ _ xs ys 2 0 (G wd:Int) w1 pv hp.shape (ha.below hw1) (fun _ w2 hw2=>hW pv av wd xs _ ys w2 ((ha.below hw1).below hw2)) (fun _=>by have:=hG wd (by omega); omega) (.inr (.inr ⟨rfl,hx,hy,.inr ⟨rfl,rfl⟩⟩)),fun w1 hw1=>hW pv av wd xs _ ys w1 (ha.below hw1)⟩
            exact ⟨resF_ok h.1,h.2⟩
          · exact both_err op 52 (by decide) ps _ (fun pv av w hp ha=>err_52n op d f hd hO pv av wd wd' _ _ hw w hp.shape (bvlx_two ha hx hy) (fun p hpp=>by
              simp only [List.mem_cons,List.not_mem_nil,or_false] at hpp
              rcases hpp with rfl | rfl
              · exact ⟨by omega,by omega,a3⟩
              · exact ⟨by omega,by omega,b3⟩)) (fun pv av w hp ha=>check2_two op h45 h62 K av _ _ xs ys 2 52 (G wd:Int) w pv hp.shape ha (fun _ w2 hw2=>hW pv av wd xs _ ys w2 (ha.below hw2)) (fun _=>by have:=hG wd (by omega); omega) (.inr (.inr ⟨rfl,hx,hy,.inl ⟨by omega,rfl⟩⟩)))
        · rw [Bool.not_eq_true] at hy
          exact both_err op 90 (by decide) ps _ (fun pv av w hp ha=>err_90n op 2 d false f hd hO pv av _ w hp.shape ha rfl (by simp) (fun h=>by have:=h (y,ys) (by simp); unfold rightX at this; rw [hy] at this; cases this)) (fun pv av w hp ha=>check2_two op h45 h62 K av _ _ xs ys 1 90 0 w pv hp.shape ha (fun h=>absurd rfl h) (fun h=>absurd h (by decide)) (.inr (.inl ⟨rfl,hx,hy,rfl⟩)))
      · rw [Bool.not_eq_true] at hx
        exact both_err op 90 (by decide) ps _ (fun pv av w hp ha=>err_90n op 2 d false f hd hO pv av _ w hp.shape ha rfl (by simp) (fun h=>by have:=h (x,xs) (by simp); unfold rightX at this; rw [hx] at this; cases this)) (fun pv av w hp ha=>check2_two op h45 h62 K av _ _ xs ys 0 90 0 w pv hp.shape ha (fun h=>absurd rfl h) (fun h=>absurd h (by decide)) (.inl ⟨rfl,hx,rfl⟩))
  · exact both_51n op 2 d false f hd hO 0 K ps L (by omega)
theorem both_one (op:Int) (h43:op=43∨op=44) (K:KindIs op 1 0) (f:Nat) (hO:RowIs op 1 .nilFunc .nilFunc false f)
    (OK:∀ wd m,1≤wd→wd≤4096→m<2 ^ wd→∃ N,∀ pv av w,(∃ po pn pc,pv=.slice po pn pc)→BvL w av [(wd,m)]→RefOk op pv av w wd→(Calls Tryz.prog 5 #[.int .i64 op,pv,av] w fun e w'=>∃ v',e=.returned (.tuple #[v',.int .i64 0])∧BvO w' w.heap.size v' wd N∧Below w.heap.size w w')∧(Calls Tryz.prog 6 #[.int .i64 op,pv,av] w fun e w'=>ResN w w' e (wd:Int) 0 N))
    (ps:List Int) (L:List (Int × List Nat)):AppB op ps L:=by
  by_cases hl:L.length=1
  · match L,hl with
    | [(x,xs)],_ =>
      have hW:∀ (pv av:Value) (w:World),BvLX w av [(x,xs)]→Calls Tryz.prog 14 #[.int .i64 op,pv,av] w fun e w'=>e=.returned (.int .i64 x)∧Below w.heap.size w w':=fun pv av w ha=>width_same op (by omega) (by omega) (by omega) (by omega) (by omega) (by omega) pv av _ x xs rfl w ha
      by_cases hx:rightF x (val B64 xs)=true
      · obtain ⟨a1,a2,a3⟩:=right_parts hx
        obtain ⟨wd,rfl⟩:=Int.eq_ofNat_of_zero_le (show 0≤x by omega)
        rw [Int.toNat_natCast] at a3
        obtain ⟨N,hN⟩:=OK wd (val B64 xs) (by omega) (by omega) a3
        refine ⟨(wd:Int),0,N,fun pv av w hp ha=>?_⟩
        have h:=hN pv av w hp.shape (bvlx_one ha hx) ⟨fun w1 hw1=>check2_one op h43 K av _ xs 1 0 (wd:Int) w1 pv hp.shape (ha.below hw1) (fun _ w2 hw2=>hW pv av w2 ((ha.below hw1).below hw2)) (fun _=>by omega) (.inr ⟨rfl,hx,rfl⟩),fun w1 hw1=>hW pv av w1 (ha.below hw1)⟩
        exact ⟨resF_ok h.1,h.2⟩
      · rw [Bool.not_eq_true] at hx
        exact both_err op 90 (by decide) ps _ (fun pv av w hp ha=>err_90n op 1 .nilFunc false f rfl hO pv av _ w hp.shape ha rfl (by simp) (fun h=>by have:=h (x,xs) (by simp); unfold rightX at this; rw [hx] at this; cases this)) (fun pv av w hp ha=>check2_one op h43 K av _ xs 0 90 0 w pv hp.shape ha (fun h=>absurd rfl h) (fun h=>absurd h (by decide)) (.inl ⟨rfl,hx,rfl⟩))
  · exact both_51n op 1 .nilFunc false f rfl hO 0 K ps L (by omega)
end Go.Proofs.YtacbkpenohcgjaaGreat
namespace Go.Proofs.YtacbkpenohcgjaaGreat
open Go.RowKit Mth
theorem both_41 (ps:List Int) (L:List (Int × List Nat)):AppB 41 ps L:=by
  by_cases hl:L.length=2
  · match L,hl with
    | [(x,xs),(y,ys)],_ =>
      by_cases hx:rightF x (val B64 xs)=true
      · obtain ⟨a1,a2,a3⟩:=right_parts hx
        obtain ⟨wd,rfl⟩:=Int.eq_ofNat_of_zero_le (show 0≤x by omega)
        rw [Int.toNat_natCast] at a3
        by_cases hy:rightF y (val B64 ys)=true
        · obtain ⟨b1,b2,b3⟩:=right_parts hy
          obtain ⟨wd',rfl⟩:=Int.eq_ofNat_of_zero_le (show 0≤y by omega)
          rw [Int.toNat_natCast] at b3
          have hW:∀ (pv av:Value) (w:World),BvLX w av [((wd:Int),xs),((wd':Int),ys)]→Calls Tryz.prog 14 #[.int .i64 41,pv,av] w fun e w'=>e=.returned (.int .i64 ((wd+wd':Nat):Int))∧Below w.heap.size w w':=fun pv av w ha=>by
            have h:=width_41 pv av _ _ xs ys (by omega) (by omega) w ha
            rw [show ((wd+wd':Nat):Int)=(wd:Int)+(wd':Int) by omega]
            exact h
          by_cases hw:4096<wd+wd'
          · exact both_err 41 55 (by decide) ps _ (fun pv av w hp ha=>(apply_concatE pv av wd wd' _ _ (by omega) (by omega) (by omega) (by omega) hw a3 b3 w hp.shape (bvlx_two ha hx hy)).mono fun _ _ h=>resn_err h) (fun pv av w hp ha=>check2_41 av _ _ xs ys 2 55 _ w pv hp.shape ha (fun _ w2 hw2=>hW pv av w2 (ha.below hw2)) (.inr (.inr ⟨rfl,hx,hy,.inl ⟨by omega,rfl⟩⟩)))
          · refine ⟨((wd+wd':Nat):Int),0,_,fun pv av w hp ha=>⟨resF_ok (apply_concatO pv av wd wd' _ _ (by omega) (by omega) (by omega) a3 b3 w hp.shape (bvlx_two ha hx hy)),rapply_mv 41 (by decide) pv av (wd+wd') (by omega) (by omega) w hp.shape ha.sl (fun w1 hw1=>check2_41 av _ _ xs ys 2 0 _ w1 pv hp.shape (ha.below hw1) (fun _ w2 hw2=>hW pv av w2 ((ha.below hw1).below hw2)) (.inr (.inr ⟨rfl,hx,hy,.inr ⟨by omega,rfl⟩⟩))) (fun w1 hw1=>hW pv av w1 (ha.below hw1)) _ _ (fun w1 hw1=>moved_41 pv av wd wd' _ _ (wd+wd') w1 hp.shape ((bvlx_two ha hx hy).below hw1) (by omega) (by omega) rfl (by omega) (by omega)) (num_41 b3 _)⟩⟩
        · rw [Bool.not_eq_true] at hy
          exact both_err 41 90 (by decide) ps _ (fun pv av w hp ha=>err_90n 41 2 _ true _ rfl row_41 pv av _ w hp.shape ha rfl (by simp) (fun h=>by have:=h (y,ys) (by simp); unfold rightX at this; rw [hy] at this; cases this)) (fun pv av w hp ha=>check2_41 av _ _ xs ys 1 90 0 w pv hp.shape ha (fun h=>absurd rfl h) (.inr (.inl ⟨rfl,hx,hy,rfl⟩)))
      · rw [Bool.not_eq_true] at hx
        exact both_err 41 90 (by decide) ps _ (fun pv av w hp ha=>err_90n 41 2 _ true _ rfl row_41 pv av _ w hp.shape ha rfl (by simp) (fun h=>by have:=h (x,xs) (by simp); unfold rightX at this; rw [hx] at this; cases this)) (fun pv av w hp ha=>check2_41 av _ _ xs ys 0 90 0 w pv hp.shape ha (fun h=>absurd rfl h) (.inl ⟨rfl,hx,rfl⟩))
  · exact both_51n 41 2 _ true _ rfl row_41 0 kind_41 ps L (by omega)
theorem both_53 (op m:Int) (pf:Nat) (d:Value) (f:Nat) (hd:d.oneCell'=true) (hcp:∀ args W,(callFunc pf args).run Tryz.prog W=.ok (.enter pf args) W) (hO:RowIs op 1 (.func (.func pf) #[] #[]) d false f) (ps:List Int) (L:List (Int × List Nat)) (hl:L.length=1)
    (P:∀ pv w,PaL w pv ps→Calls Tryz.prog pf #[pv] w fun e w'=>e=.returned (.bool false)∧Below w.heap.size w w')
    (C:∀ pv w ao ac,PaL w pv ps→Calls Tryz.prog 13 #[.int .i64 op,pv,.slice ao 1 ac,.int .i64 1] w fun e w'=>e=.returned (.int .i64 53)∧Below w.heap.size w w'):AppB op ps L :=
  both_err op 53 (by decide) ps L (fun pv av w hp ha=>by
    obtain ⟨ao,cap,hav⟩:=ha.shape
    exact err_53p op 1 pf d false f hd hcp hO pv av w hp.shape ao _ cap hav (by omega) (fun w1 hw1=>P pv w1 (hp.below hw1))) (fun pv av w hp ha=>by
    obtain ⟨ao,cap,rfl⟩:=ha.shape
    rw [hl]
    exact C pv w ao cap hp)
theorem both_90p (op:Int) (pf:Nat) (d:Value) (f:Nat) (hd:d.oneCell'=true) (hcp:∀ args W,(callFunc pf args).run Tryz.prog W=.ok (.enter pf args) W) (hO:RowIs op 1 (.func (.func pf) #[] #[]) d false f) (ps:List Int) (x:Int) (xs:List Nat) (hx:rightF x (val B64 xs)=false)
    (P:∀ pv w,PaL w pv ps→Calls Tryz.prog pf #[pv] w fun e w'=>e=.returned (.bool true)∧Below w.heap.size w w')
    (C:∀ pv av w,PaL w pv ps→BvLX w av [(x,xs)]→Calls Tryz.prog 13 #[.int .i64 op,pv,av,.int .i64 1] w fun e w'=>e=.returned (.int .i64 90)∧Below w.heap.size w w'):AppB op ps [(x,xs)] :=
  both_err op 90 (by decide) ps _ (fun pv av w hp ha=>err_90p op 1 pf d false f hd hcp hO pv av _ w hp.shape ha rfl (by simp) (fun h=>by have:=h (x,xs) (by simp); unfold rightX at this; rw [hx] at this; cases this) (fun w1 hw1=>P pv w1 (hp.below hw1))) C
theorem both_par (op:Int) (h64:64≤op) (h67:op≤67) (K:KindIs op 1 1) (d:Value) (f:Nat) (hd:d.oneCell'=true) (hO:RowIs op 1 (.func (.func 83) #[] #[]) d false f) (G:Nat→Nat→Nat)
    (hW:∀ (pv av:Value) (wd p:Nat) (xs:List Nat) (w:World),wd≤4096→p≤4096→PaL w pv [(p:Int)]→BvLX w av [((wd:Int),xs)]→Calls Tryz.prog 14 #[.int .i64 op,pv,av] w fun e w'=>e=.returned (.int .i64 (G wd p:Int))∧Below w.heap.size w w')
    (E:∀ (pv av:Value) (wd m p:Nat) (w:World),1≤wd→wd≤4096→m<2 ^ wd→p≤4096→4096<G wd p→PaL w pv [(p:Int)]→BvL w av [(wd,m)]→Calls Tryz.prog 5 #[.int .i64 op,pv,av] w fun e w'=>e=.returned (.tuple #[BvE,.int .i64 55])∧Below w.heap.size w w')
    (OK:∀ wd m p,1≤wd→wd≤4096→m<2 ^ wd→p≤4096→G wd p≤4096→∃ N,∀ pv av w,PaL w pv [(p:Int)]→BvL w av [(wd,m)]→RefOk op pv av w (G wd p)→(Calls Tryz.prog 5 #[.int .i64 op,pv,av] w fun e w'=>∃ v',e=.returned (.tuple #[v',.int .i64 0])∧BvO w' w.heap.size v' (G wd p) N∧Below w.heap.size w w')∧(Calls Tryz.prog 6 #[.int .i64 op,pv,av] w fun e w'=>ResN w w' e (G wd p:Int) 0 N))
    (ps:List Int) (L:List (Int × List Nat)):AppB op ps L:=by
  by_cases hl:L.length=1
  · by_cases hpl:ps.length=1
    · match ps,hpl,L,hl with
      | [p0],_,[(x,xs)],_ =>
        by_cases hb:p0<0∨4096<p0
        · exact both_53 op 1 83 d f hd (fun args W=>enters_of Tryz.func83 (by kernel_rfl) rfl args W) hO [p0] _ rfl (fun pv w hp=>isCount_bad pv p0 hb w hp) (fun pv w ao ac hp=>same_below (check1_53b10 op 1 K pv p0 hb ao 1 ac rfl w hp))
        · obtain ⟨p,rfl⟩:=Int.eq_ofNat_of_zero_le (show 0≤p0 by omega)
          by_cases hx:rightF x (val B64 xs)=true
          · obtain ⟨a1,a2,a3⟩:=right_parts hx
            obtain ⟨wd,rfl⟩:=Int.eq_ofNat_of_zero_le (show 0≤x by omega)
            rw [Int.toNat_natCast] at a3
            by_cases hw:4096<G wd p
            · exact both_err op 55 (by decide) _ _ (fun pv av w hp ha=>(E pv av wd _ p w (by omega) (by omega) a3 (by omega) hw hp (bvlx_one ha hx)).mono fun _ _ h=>resn_err h) (fun pv av w hp ha=>check2_par op h64 h67 K av _ xs 1 55 (G wd p:Int) w pv _ (by omega) (by omega) hp ha (fun _ w2 hw2=>hW pv av wd p xs w2 (by omega) (by omega) (hp.below hw2) (ha.below hw2)) (.inr ⟨rfl,hx,.inl ⟨by omega,rfl⟩⟩))
            · obtain ⟨N,hN⟩:=OK wd (val B64 xs) p (by omega) (by omega) a3 (by omega) (by omega)
              refine ⟨(G wd p:Int),0,N,fun pv av w hp ha=>?_⟩
              have h:=hN pv av w hp (bvlx_one ha hx) ⟨fun w1 hw1=>check2_par op h64 h67 K av _ xs 1 0 (G wd p:Int) w1 pv _ (by omega) (by omega) (hp.below hw1) (ha.below hw1) (fun _ w2 hw2=>hW pv av wd p xs w2 (by omega) (by omega) ((hp.below hw1).below hw2) ((ha.below hw1).below hw2)) (.inr ⟨rfl,hx,.inr ⟨by omega,rfl⟩⟩),fun w1 hw1=>hW pv av wd p xs w1 (by omega) (by omega) (hp.below hw1) (ha.below hw1)⟩
              exact ⟨resF_ok h.1,h.2⟩
          · rw [Bool.not_eq_true] at hx
            exact both_90p op 83 d f hd (fun args W=>enters_of Tryz.func83 (by kernel_rfl) rfl args W) hO _ x xs hx (fun pv w hp=>isCount_yes pv _ (by omega) (by omega) w hp) (fun pv av w hp ha=>check2_par op h64 h67 K av _ xs 0 90 0 w pv _ (by omega) (by omega) hp ha (fun h=>absurd rfl h) (.inl ⟨rfl,hx,rfl⟩))
    · exact both_53 op 1 83 d f hd (fun args W=>enters_of Tryz.func83 (by kernel_rfl) rfl args W) hO ps L hl (fun pv w hp=>by
        obtain ⟨po,cap,hpv,-⟩:=hp
        exact isCount_len pv po _ cap hpv hpl w) (fun pv w ao ac hp=>by
        obtain ⟨po,cap,rfl,-⟩:=hp
        exact same_below (check1_53n op 1 1 K (by decide) po _ cap (by omega) ao 1 ac rfl w))
  · exact both_51p op 1 83 d false f hd (fun args W=>enters_of Tryz.func83 (by kernel_rfl) rfl args W) hO 1 K ps L (by omega)
theorem both_63 (ps:List Int) (L:List (Int × List Nat)):AppB 63 ps L:=by
  by_cases hl:L.length=1
  · by_cases hpl:ps.length=1
    · match ps,hpl,L,hl with
      | [p0],_,[(x,xs)],_ =>
        by_cases hb:p0<0∨4096<p0
        · exact both_53 63 1 80 _ _ rfl (fun args W=>enters_of Tryz.func80 (by kernel_rfl) rfl args W) row_63 [p0] _ rfl (fun pv w hp=>by
            obtain ⟨po,pn,pc,hpv⟩:=hp.shape
            exact isFactor_of pv po pn pc hpv w (isCount_bad pv p0 hb w hp)) (fun pv w ao ac hp=>same_below (check1_53b10 63 1 kind_63 pv p0 hb ao 1 ac rfl w hp))
        · obtain ⟨p,rfl⟩:=Int.eq_ofNat_of_zero_le (show 0≤p0 by omega)
          by_cases hz:p=0
          · subst hz
            exact both_53 63 1 80 _ _ rfl (fun args W=>enters_of Tryz.func80 (by kernel_rfl) rfl args W) row_63 _ _ rfl (fun pv w hp=>isFactor_zero pv w hp) (fun pv w ao ac hp=>check1_53o63 pv _ rfl ao ac w hp)
          by_cases hx:rightF x (val B64 xs)=true
          · obtain ⟨a1,a2,a3⟩:=right_parts hx
            obtain ⟨wd,rfl⟩:=Int.eq_ofNat_of_zero_le (show 0≤x by omega)
            rw [Int.toNat_natCast] at a3
            have hW:∀ (pv av:Value) (w:World),PaL w pv [(p:Int)]→BvLX w av [((wd:Int),xs)]→Calls Tryz.prog 14 #[.int .i64 63,pv,av] w fun e w'=>e=.returned (.int .i64 ((wd*p:Nat):Int))∧Below w.heap.size w w':=fun pv av w hp ha=>by
              have h:=width_63 pv av _ (by omega) _ _ xs (by omega) rfl w hp ha
              rw [Int.natCast_mul]
              exact h
            have hpos:1≤wd*p:=Nat.mul_pos (by omega) (by omega)
            by_cases hw:4096<wd*p
            · exact both_err 63 55 (by decide) _ _ (fun pv av w hp ha=>(apply_repeatE pv av wd _ p (by omega) (by omega) a3 (by omega) (by omega) hw w hp (bvlx_one ha hx)).mono fun _ _ h=>resn_err h) (fun pv av w hp ha=>check2_63 av _ xs 1 55 _ w pv _ (by omega) (by omega) (by omega) hp ha (fun _ w2 hw2=>hW pv av w2 (hp.below hw2) (ha.below hw2)) (.inr ⟨rfl,hx,.inl ⟨by generalize wd*p=z at hw ⊢; omega,rfl⟩⟩))
            · have hw':wd*p≤4096:=by omega
              refine ⟨((wd*p:Nat):Int),0,_,fun pv av w hp ha=>⟨resF_ok (apply_repeatO pv av wd _ p (by omega) (by omega) a3 (by omega) hw' w hp (bvlx_one ha hx)),rapply_mv 63 (by decide) pv av (wd*p) hpos hw' w hp.shape ha.sl (fun w1 hw1=>check2_63 av _ xs 1 0 _ w1 pv _ (by omega) (by omega) (by omega) (hp.below hw1) (ha.below hw1) (fun _ w2 hw2=>hW pv av w2 ((hp.below hw1).below hw2) ((ha.below hw1).below hw2)) (.inr ⟨rfl,hx,.inr ⟨by generalize wd*p=z at hw' ⊢; omega,rfl⟩⟩)) (fun w1 hw1=>hW pv av w1 (hp.below hw1) (ha.below hw1)) _ _ (fun w1 hw1=>moved_63 pv av wd _ p (wd*p) w1 (hp.below hw1) ((bvlx_one ha hx).below hw1) (by omega) (by omega) rfl hw') (num_63 (by omega) a3)⟩⟩
          · rw [Bool.not_eq_true] at hx
            exact both_90p 63 80 _ _ rfl (fun args W=>enters_of Tryz.func80 (by kernel_rfl) rfl args W) row_63 _ x xs hx (fun pv w hp=>isFactor_yes pv _ (by omega) (by omega) w hp) (fun pv av w hp ha=>check2_63 av _ xs 0 90 0 w pv _ (by omega) (by omega) (by omega) hp ha (fun h=>absurd rfl h) (.inl ⟨rfl,hx,rfl⟩))
    · exact both_53 63 1 80 _ _ rfl (fun args W=>enters_of Tryz.func80 (by kernel_rfl) rfl args W) row_63 ps L hl (fun pv w hp=>by
        obtain ⟨po,cap,hpv,-⟩:=hp
        exact isFactor_of pv po _ cap hpv w (isCount_len pv po _ cap hpv hpl w)) (fun pv w ao ac hp=>by
        obtain ⟨po,cap,rfl,-⟩:=hp
        exact same_below (check1_53n 63 1 1 kind_63 (by decide) po _ cap (by omega) ao 1 ac rfl w))
  · exact both_51p 63 1 80 _ false _ rfl (fun args W=>enters_of Tryz.func80 (by kernel_rfl) rfl args W) row_63 1 kind_63 ps L (by omega)
theorem both_42 (ps:List Int) (L:List (Int × List Nat)):AppB 42 ps L:=by
  by_cases hl:L.length=1
  · by_cases hpl:ps.length=2
    · match ps,hpl,L,hl with
      | [p0,p1],_,[(x,xs)],_ =>
        by_cases hb:p0<0∨4096<p0
        · exact both_53 42 2 56 _ _ rfl (fun args W=>enters_of Tryz.func56 (by kernel_rfl) rfl args W) row_42 [p0,p1] _ rfl (fun pv w hp=>areEnds_bad pv p0 p1 _ _ rfl rfl (.inl (decide_eq_false (by omega))) w hp) (fun pv w ao ac hp=>same_below (check1_53b20 42 1 kind_42 pv p0 p1 hb ao 1 ac rfl w hp))
        by_cases hb2:p1<0∨4096<p1
        · exact both_53 42 2 56 _ _ rfl (fun args W=>enters_of Tryz.func56 (by kernel_rfl) rfl args W) row_42 [p0,p1] _ rfl (fun pv w hp=>areEnds_bad pv p0 p1 _ _ rfl rfl (.inr (.inl (decide_eq_false (by omega)))) w hp) (fun pv w ao ac hp=>same_below (check1_53b21 42 1 kind_42 pv p0 p1 (by omega) (by omega) hb2 ao 1 ac rfl w hp))
        by_cases hb3:p0<p1
        · exact both_53 42 2 56 _ _ rfl (fun args W=>enters_of Tryz.func56 (by kernel_rfl) rfl args W) row_42 [p0,p1] _ rfl (fun pv w hp=>areEnds_bad pv p0 p1 _ _ rfl rfl (.inr (.inr hb3)) w hp) (fun pv w ao ac hp=>check1_53o42 pv p0 p1 (by omega) (by omega) (by omega) (by omega) hb3 ao ac w hp)
        obtain ⟨hi,rfl⟩:=Int.eq_ofNat_of_zero_le (show 0≤p0 by omega)
        obtain ⟨lo,rfl⟩:=Int.eq_ofNat_of_zero_le (show 0≤p1 by omega)
        by_cases hx:rightF x (val B64 xs)=true
        · obtain ⟨a1,a2,a3⟩:=right_parts hx
          obtain ⟨wd,rfl⟩:=Int.eq_ofNat_of_zero_le (show 0≤x by omega)
          rw [Int.toNat_natCast] at a3
          have hW:∀ (pv av:Value) (w:World),PaL w pv [(hi:Int),(lo:Int)]→BvLX w av [((wd:Int),xs)]→Calls Tryz.prog 14 #[.int .i64 42,pv,av] w fun e w'=>e=.returned (.int .i64 ((hi - lo+1:Nat):Int))∧Below w.heap.size w w':=fun pv av w hp ha=>by
            have h:=width_42 pv av _ _ (by omega) (by omega) _ _ xs rfl w hp ha
            rw [show ((hi - lo+1:Nat):Int)=(hi:Int) - (lo:Int)+1 by omega]
            exact h
          by_cases hw:wd≤hi
          · exact both_err 42 55 (by decide) _ _ (fun pv av w hp ha=>(apply_extractE pv av wd _ hi lo (by omega) (by omega) a3 (by omega) (by omega) hw w hp (bvlx_one ha hx)).mono fun _ _ h=>resn_err h) (fun pv av w hp ha=>check2_42 av _ xs 1 55 _ w pv _ _ (by omega) (by omega) (by omega) (by omega) (by omega) hp ha (fun _ w2 hw2=>hW pv av w2 (hp.below hw2) (ha.below hw2)) (fun h=>absurd h (by decide)) (.inr ⟨rfl,hx,.inl ⟨by omega,rfl⟩⟩))
          · refine ⟨((hi - lo+1:Nat):Int),0,_,fun pv av w hp ha=>⟨resF_ok (apply_extractO pv av wd _ hi lo (by omega) (by omega) a3 (by omega) (by omega) w hp (bvlx_one ha hx)),rapply_mv 42 (by decide) pv av (hi - lo+1) (by omega) (by omega) w hp.shape ha.sl (fun w1 hw1=>check2_42 av _ xs 1 0 _ w1 pv _ _ (by omega) (by omega) (by omega) (by omega) (by omega) (hp.below hw1) (ha.below hw1) (fun _ w2 hw2=>hW pv av w2 ((hp.below hw1).below hw2) ((ha.below hw1).below hw2)) (fun _=>by omega) (.inr ⟨rfl,hx,.inr ⟨by omega,rfl⟩⟩)) (fun w1 hw1=>hW pv av w1 (hp.below hw1) (ha.below hw1)) _ _ (fun w1 hw1=>moved_42 pv av wd _ lo hi (hi - lo+1) w1 (hp.below hw1) ((bvlx_one ha hx).below hw1) (by omega) (by omega) rfl (by omega) (by omega) (by omega)) (num_42 _ lo _)⟩⟩
        · rw [Bool.not_eq_true] at hx
          exact both_90p 42 56 _ _ rfl (fun args W=>enters_of Tryz.func56 (by kernel_rfl) rfl args W) row_42 _ x xs hx (fun pv w hp=>areEnds_yes pv _ _ (by omega) (by omega) (by omega) w hp) (fun pv av w hp ha=>check2_42 av _ xs 0 90 0 w pv _ _ (by omega) (by omega) (by omega) (by omega) (by omega) hp ha (fun h=>absurd rfl h) (fun h=>absurd h (by decide)) (.inl ⟨rfl,hx,rfl⟩))
    · exact both_53 42 2 56 _ _ rfl (fun args W=>enters_of Tryz.func56 (by kernel_rfl) rfl args W) row_42 ps L hl (fun pv w hp=>by
        obtain ⟨po,cap,hpv,-⟩:=hp
        exact areEnds_len pv po _ cap hpv hpl w) (fun pv w ao ac hp=>by
        obtain ⟨po,cap,rfl,-⟩:=hp
        exact same_below (check1_53n 42 1 2 kind_42 (by decide) po _ cap (by omega) ao 1 ac rfl w))
  · exact both_51p 42 1 56 _ false _ rfl (fun args W=>enters_of Tryz.func56 (by kernel_rfl) rfl args W) row_42 2 kind_42 ps L (by omega)
theorem both_64 (ps:List Int) (L:List (Int × List Nat)):AppB 64 ps L :=
  both_par 64 (by omega) (by omega) kind_64 _ _ rfl row_64 (fun wd p=>wd+p)
    (fun pv av wd p xs w h1 h2 hp ha=>by
      have h:=width_64 pv av _ (by omega) _ _ xs (by omega) rfl w hp ha
      rw [show ((wd+p:Nat):Int)=(wd:Int)+(p:Int) by omega]
      exact h)
    (fun pv av wd m p w h1 h2 hm hp4 hG hp h=>apply_zextE pv av wd m p h1 h2 hm hp4 hG w hp h)
    (fun wd m p h1 h2 hm hp4 hG=>⟨_,fun pv av w hp h ⟨CH,WI⟩=>⟨apply_zextO pv av wd m p h1 h2 hm hG w hp h,rapply_mv 64 (by decide) pv av (wd+p) (by omega) hG w hp.shape (by obtain ⟨ao,cap,hav⟩:=h.shape; exact ⟨ao,_,cap,hav⟩) CH WI _ _ (fun w1 hw1=>moved_64 pv av wd m p (wd+p) w1 (hp.below hw1) (h.below hw1) h1 h2 rfl hG) (num_64 hm _)⟩⟩) ps L
theorem both_65 (ps:List Int) (L:List (Int × List Nat)):AppB 65 ps L :=
  both_par 65 (by omega) (by omega) kind_65 _ _ rfl row_65 (fun wd p=>wd+p)
    (fun pv av wd p xs w h1 h2 hp ha=>by
      have h:=width_65 pv av _ (by omega) _ _ xs (by omega) rfl w hp ha
      rw [show ((wd+p:Nat):Int)=(wd:Int)+(p:Int) by omega]
      exact h)
    (fun pv av wd m p w h1 h2 hm hp4 hG hp h=>apply_sextE pv av wd m p h1 h2 hm hp4 hG w hp h)
    (fun wd m p h1 h2 hm hp4 hG=>⟨_,fun pv av w hp h ⟨CH,WI⟩=>⟨apply_sextO pv av wd m p h1 h2 hm hG w hp h,rapply_mv 65 (by decide) pv av (wd+p) (by omega) hG w hp.shape (by obtain ⟨ao,cap,hav⟩:=h.shape; exact ⟨ao,_,cap,hav⟩) CH WI _ _ (fun w1 hw1=>moved_65 pv av wd m p (wd+p) w1 (hp.below hw1) (h.below hw1) h1 h2 rfl hG) (num_65 h1 hm (by omega))⟩⟩) ps L
theorem both_66 (ps:List Int) (L:List (Int × List Nat)):AppB 66 ps L :=
  both_par 66 (by omega) (by omega) kind_66 _ _ rfl row_66 (fun wd p=>wd)
    (fun pv av wd p xs w h1 h2 hp ha=>by
      have h:=width_same 66 (by omega) (by omega) (by omega) (by omega) (by omega) (by omega) pv av _ _ xs rfl w ha
      skip
      exact h)
    (fun pv av wd m p w h1 h2 hm hp4 hG hp h=>absurd hG (by omega))
    (fun wd m p h1 h2 hm hp4 hG=>⟨_,fun pv av w hp h ⟨CH,WI⟩=>⟨apply_rotlO pv av wd m p _ rfl h1 h2 hm hp4 w hp h,rapply_mv 66 (by decide) pv av (wd) (by omega) hG w hp.shape (by obtain ⟨ao,cap,hav⟩:=h.shape; exact ⟨ao,_,cap,hav⟩) CH WI _ _ (fun w1 hw1=>moved_66 pv av wd m p (wd) w1 (hp.below hw1) (h.below hw1) h1 h2 rfl hG hp4) (num_66 h1 hm)⟩⟩) ps L
theorem both_67 (ps:List Int) (L:List (Int × List Nat)):AppB 67 ps L :=
  both_par 67 (by omega) (by omega) kind_67 _ _ rfl row_67 (fun wd p=>wd)
    (fun pv av wd p xs w h1 h2 hp ha=>by
      have h:=width_same 67 (by omega) (by omega) (by omega) (by omega) (by omega) (by omega) pv av _ _ xs rfl w ha
      skip
      exact h)
    (fun pv av wd m p w h1 h2 hm hp4 hG hp h=>absurd hG (by omega))
    (fun wd m p h1 h2 hm hp4 hG=>⟨_,fun pv av w hp h ⟨CH,WI⟩=>⟨apply_rotrO pv av wd m p _ rfl h1 h2 hm hp4 w hp h,rapply_mv 67 (by decide) pv av (wd) (by omega) hG w hp.shape (by obtain ⟨ao,cap,hav⟩:=h.shape; exact ⟨ao,_,cap,hav⟩) CH WI _ _ (fun w1 hw1=>moved_67 pv av wd m p (wd) w1 (hp.below hw1) (h.below hw1) h1 h2 rfl hG hp4) (num_67 h1 hm)⟩⟩) ps L
end Go.Proofs.YtacbkpenohcgjaaGreat
namespace Go.Proofs.YtacbkpenohcgjaaGreat
open Go.RowKit Mth
def smodR (s t:Int):Int:=if t=0 then s else s+-(qF s t*t)
theorem smod_eq (s t:Int):smodR s t=smodZ s t:=by
  unfold smodR smodZ leftZ
  by_cases ht:t=0
  · subst ht
    rw [if_pos rfl,if_pos rfl,if_neg]
    have:zcmp 0 0=0:=rfl
    rw [this]
    omega
  · rw [if_neg ht,if_neg ht]
    have h1:=cut_again s t
    have h2:=rC_bounds (a:=s) ht
    obtain ⟨h3,h4⟩:=near_rest (a:=s) ht
    have h5:qF s t=qC s t∨(qF s t=qC s t - 1∧rC s t≠0):=by
      rcases f_cases s t with ⟨_,h,_⟩ | ⟨h0,_,h,_⟩ | ⟨_,_,h,_⟩
      · exact .inl h
      · exact .inr ⟨h,h0⟩
      · exact .inl h
    rcases h5 with e | ⟨e,e0⟩
    · rw [e] at h3 h4 ⊢
      generalize rC s t=r at *
      generalize qC s t*t=p at *
      rw [show s - p=r by omega] at h3 h4
      rw [show s+-p=r by omega]
      have hz:¬ zcmp r 0*zcmp t 0<0:=by
        unfold zcmp
        rcases h4 with h | h | h<;>(repeat' split)<;>omega
      rw [if_neg hz]
    · rw [e,Int.sub_mul,Int.one_mul] at h3 h4 ⊢
      generalize rC s t=r at *
      generalize qC s t*t=p at *
      rw [show s - (p - t)=r+t by omega] at h3 h4
      rw [show s+-(p - t)=r+t by omega]
      have hz:zcmp r 0*zcmp t 0<0:=by
        unfold zcmp
        rcases h4 with h | h | h<;>(repeat' split)<;>omega
      rw [if_pos hz]
theorem is_51 (m n:Nat) (s t:Int):recZ 51 (m:Int) (n:Int) s t=compZ m n:=by
  rw [rec_51]
  unfold compZ
  by_cases h:m=n
  · rw [if_pos h,if_pos (by omega)]
  · rw [if_neg h,if_neg (by omega)]
theorem is_55 (m n:Nat) (s t:Int):recZ 55 (m:Int) (n:Int) s t=udivZ m n:=by
  rw [rec_55]
  unfold udivZ
  by_cases h:n=0
  · rw [if_pos h,if_pos (by omega)]
  · rw [if_neg h,if_neg (by omega)]
theorem is_56 (p q s t:Int):recZ 56 p q s t=leftZ p q:=rec_56 p q s t
theorem is_57 (p q s t:Int):recZ 57 p q s t=sdivZ s t:=rec_57 p q s t
theorem is_58 (p q s t:Int):recZ 58 p q s t=leftZ s t:=rec_58 p q s t
theorem is_59 (p q s t:Int):recZ 59 p q s t=smodR s t:=rec_59 p q s t
theorem zb_comp (m n:Nat):(compZ m n).natAbs<HugeD:=by
  have h1:=two_bigs (wd:=1) (by omega)
  unfold compZ
  split<;>exact big_hugeZ (by omega)
theorem qC_le (a b:Int):(qC a b).natAbs≤a.natAbs:=by rw [amt_qC]; exact Nat.div_le_self _ _
theorem sl_of {w:World} {av:Value} {L:List (Nat × Nat)} (h:BvL w av L):∃ ao ak ac,av=.slice ao ak ac:=by obtain ⟨ao,cap,h⟩:=h.shape; exact ⟨ao,_,cap,h⟩
theorem app_45 (ps:List Int) (L:List (Int × List Nat)):AppB 45 ps L :=
  both_two 45 (by omega) (by omega) (kind_two 45 (by omega) (by omega) (by omega)) _ _ rfl row_45 (fun wd=>wd) (fun _ h=>h) (fun pv av wd xs y ys w ha=>width_same 45 (by omega) (by omega) (by omega) (by omega) (by omega) (by omega) pv av _ _ xs rfl w ha)
    (fun wd m n h1 h2 hm hn=>⟨_,fun pv av w hp h ⟨CH,WI⟩=>⟨apply_andO pv av wd m n h1 h2 hm hn w hp h,rapply_bw2 45 45 (by decide) pv av wd m n h1 h2 w hp h CH WI _ (num_45 m n wd)⟩⟩) ps L
theorem app_46 (ps:List Int) (L:List (Int × List Nat)):AppB 46 ps L :=
  both_two 46 (by omega) (by omega) (kind_two 46 (by omega) (by omega) (by omega)) _ _ rfl row_46 (fun wd=>wd) (fun _ h=>h) (fun pv av wd xs y ys w ha=>width_same 46 (by omega) (by omega) (by omega) (by omega) (by omega) (by omega) pv av _ _ xs rfl w ha)
    (fun wd m n h1 h2 hm hn=>⟨_,fun pv av w hp h ⟨CH,WI⟩=>⟨apply_orO pv av wd m n h1 h2 hm hn w hp h,rapply_bw2 46 46 (by decide) pv av wd m n h1 h2 w hp h CH WI _ (num_46 m n wd)⟩⟩) ps L
theorem app_47 (ps:List Int) (L:List (Int × List Nat)):AppB 47 ps L :=
  both_two 47 (by omega) (by omega) (kind_two 47 (by omega) (by omega) (by omega)) _ _ rfl row_47 (fun wd=>wd) (fun _ h=>h) (fun pv av wd xs y ys w ha=>width_same 47 (by omega) (by omega) (by omega) (by omega) (by omega) (by omega) pv av _ _ xs rfl w ha)
    (fun wd m n h1 h2 hm hn=>⟨_,fun pv av w hp h ⟨CH,WI⟩=>⟨apply_xorO pv av wd m n h1 h2 hm hn w hp h,rapply_bw2 47 47 (by decide) pv av wd m n h1 h2 w hp h CH WI _ (num_47 m n wd)⟩⟩) ps L
theorem app_48 (ps:List Int) (L:List (Int × List Nat)):AppB 48 ps L :=
  both_two 48 (by omega) (by omega) (kind_two 48 (by omega) (by omega) (by omega)) _ _ rfl row_48 (fun wd=>wd) (fun _ h=>h) (fun pv av wd xs y ys w ha=>width_same 48 (by omega) (by omega) (by omega) (by omega) (by omega) (by omega) pv av _ _ xs rfl w ha)
    (fun wd m n h1 h2 hm hn=>⟨_,fun pv av w hp h ⟨CH,WI⟩=>⟨apply_nandO pv av wd m n h1 h2 hm hn w hp h,rapply_bw2 48 48 (by decide) pv av wd m n h1 h2 w hp h CH WI _ (num_48 m n wd)⟩⟩) ps L
theorem app_49 (ps:List Int) (L:List (Int × List Nat)):AppB 49 ps L :=
  both_two 49 (by omega) (by omega) (kind_two 49 (by omega) (by omega) (by omega)) _ _ rfl row_49 (fun wd=>wd) (fun _ h=>h) (fun pv av wd xs y ys w ha=>width_same 49 (by omega) (by omega) (by omega) (by omega) (by omega) (by omega) pv av _ _ xs rfl w ha)
    (fun wd m n h1 h2 hm hn=>⟨_,fun pv av w hp h ⟨CH,WI⟩=>⟨apply_norO pv av wd m n h1 h2 hm hn w hp h,rapply_bw2 49 49 (by decide) pv av wd m n h1 h2 w hp h CH WI _ (num_49 m n wd)⟩⟩) ps L
theorem app_50 (ps:List Int) (L:List (Int × List Nat)):AppB 50 ps L :=
  both_two 50 (by omega) (by omega) (kind_two 50 (by omega) (by omega) (by omega)) _ _ rfl row_50 (fun wd=>wd) (fun _ h=>h) (fun pv av wd xs y ys w ha=>width_same 50 (by omega) (by omega) (by omega) (by omega) (by omega) (by omega) pv av _ _ xs rfl w ha)
    (fun wd m n h1 h2 hm hn=>⟨_,fun pv av w hp h ⟨CH,WI⟩=>⟨apply_xnorO pv av wd m n h1 h2 hm hn w hp h,rapply_bw2 50 50 (by decide) pv av wd m n h1 h2 w hp h CH WI _ (num_50 m n wd)⟩⟩) ps L
theorem app_51 (ps:List Int) (L:List (Int × List Nat)):AppB 51 ps L :=
  both_two 51 (by omega) (by omega) kind_51 _ _ rfl row_51 (fun _=>1) (fun _ _=>by decide) (fun pv av wd xs y ys w ha=>width_51 pv av _ _ xs rfl w ha)
    (fun wd m n h1 h2 hm hn=>⟨_,fun pv av w hp h ⟨CH,WI⟩=>⟨apply_comp pv av wd m n h1 h2 hm hn w hp h,rapply_rk 51 (by decide) pv av 1 (by omega) (by omega) w hp (sl_of h) CH WI (compZ m n) (zb_comp m n) (fun w1 hw1=>by rw [← is_51 m n (sgV wd m) (sgV wd n)]; exact reck_all 51 (by omega) (by omega) av wd m n h1 h2 hm hn w1 (h.below hw1))⟩⟩) ps L
theorem app_52 (ps:List Int) (L:List (Int × List Nat)):AppB 52 ps L :=
  both_two 52 (by omega) (by omega) (kind_two 52 (by omega) (by omega) (by omega)) _ _ rfl row_52 (fun wd=>wd) (fun _ h=>h) (fun pv av wd xs y ys w ha=>width_same 52 (by omega) (by omega) (by omega) (by omega) (by omega) (by omega) pv av _ _ xs rfl w ha)
    (fun wd m n h1 h2 hm hn=>⟨_,fun pv av w hp h ⟨CH,WI⟩=>⟨apply_add pv av wd m n h1 h2 hm hn w hp h,rapply_rk 52 (by decide) pv av wd h1 h2 w hp (sl_of h) CH WI ((m:Int)+(n:Int)) (big_hugeZ (by have:=two_bigs h2; omega)) (fun w1 hw1=>by rw [← rec_52 (m:Int) (n:Int) (sgV wd m) (sgV wd n)]; exact reck_all 52 (by omega) (by omega) av wd m n h1 h2 hm hn w1 (h.below hw1))⟩⟩) ps L
theorem app_53 (ps:List Int) (L:List (Int × List Nat)):AppB 53 ps L :=
  both_two 53 (by omega) (by omega) (kind_two 53 (by omega) (by omega) (by omega)) _ _ rfl row_53 (fun wd=>wd) (fun _ h=>h) (fun pv av wd xs y ys w ha=>width_same 53 (by omega) (by omega) (by omega) (by omega) (by omega) (by omega) pv av _ _ xs rfl w ha)
    (fun wd m n h1 h2 hm hn=>⟨_,fun pv av w hp h ⟨CH,WI⟩=>⟨(by have h9:=apply_sub pv av wd m n h1 h2 hm hn w hp h; rw [Int.sub_eq_add_neg] at h9; exact h9),rapply_rk 53 (by decide) pv av wd h1 h2 w hp (sl_of h) CH WI ((m:Int)+-(n:Int)) (big_hugeZ (by have:=two_bigs h2; omega)) (fun w1 hw1=>by rw [← rec_53 (m:Int) (n:Int) (sgV wd m) (sgV wd n)]; exact reck_all 53 (by omega) (by omega) av wd m n h1 h2 hm hn w1 (h.below hw1))⟩⟩) ps L
theorem app_54 (ps:List Int) (L:List (Int × List Nat)):AppB 54 ps L :=
  both_two 54 (by omega) (by omega) (kind_two 54 (by omega) (by omega) (by omega)) _ _ rfl row_54 (fun wd=>wd) (fun _ h=>h) (fun pv av wd xs y ys w ha=>width_same 54 (by omega) (by omega) (by omega) (by omega) (by omega) (by omega) pv av _ _ xs rfl w ha)
    (fun wd m n h1 h2 hm hn=>⟨_,fun pv av w hp h ⟨CH,WI⟩=>⟨apply_mul pv av wd m n h1 h2 hm hn w hp h,rapply_rk 54 (by decide) pv av wd h1 h2 w hp (sl_of h) CH WI ((m:Int)*(n:Int)) (big_hugeZ (by rw [Int.natAbs_mul,Int.natAbs_natCast,Int.natAbs_natCast]; exact Nat.lt_of_le_of_lt (Nat.mul_le_mul (Nat.le_of_lt hm) (Nat.le_of_lt hn)) (two_big h2).2)) (fun w1 hw1=>by rw [← rec_54 (m:Int) (n:Int) (sgV wd m) (sgV wd n)]; exact reck_all 54 (by omega) (by omega) av wd m n h1 h2 hm hn w1 (h.below hw1))⟩⟩) ps L
theorem app_55 (ps:List Int) (L:List (Int × List Nat)):AppB 55 ps L :=
  both_two 55 (by omega) (by omega) (kind_two 55 (by omega) (by omega) (by omega)) _ _ rfl row_55 (fun wd=>wd) (fun _ h=>h) (fun pv av wd xs y ys w ha=>width_same 55 (by omega) (by omega) (by omega) (by omega) (by omega) (by omega) pv av _ _ xs rfl w ha)
    (fun wd m n h1 h2 hm hn=>⟨_,fun pv av w hp h ⟨CH,WI⟩=>⟨apply_udiv pv av wd m n h1 h2 hm hn w hp h,rapply_rk 55 (by decide) pv av wd h1 h2 w hp (sl_of h) CH WI (udivZ m n) (big_hugeZ (by have h3:=two_bigs h2; have h4:=qC_le (m:Int) (n:Int); unfold udivZ; split<;>omega)) (fun w1 hw1=>by rw [← is_55 m n (sgV wd m) (sgV wd n)]; exact reck_all 55 (by omega) (by omega) av wd m n h1 h2 hm hn w1 (h.below hw1))⟩⟩) ps L
theorem app_56 (ps:List Int) (L:List (Int × List Nat)):AppB 56 ps L :=
  both_two 56 (by omega) (by omega) (kind_two 56 (by omega) (by omega) (by omega)) _ _ rfl row_56 (fun wd=>wd) (fun _ h=>h) (fun pv av wd xs y ys w ha=>width_same 56 (by omega) (by omega) (by omega) (by omega) (by omega) (by omega) pv av _ _ xs rfl w ha)
    (fun wd m n h1 h2 hm hn=>⟨_,fun pv av w hp h ⟨CH,WI⟩=>⟨apply_urem pv av wd m n h1 h2 hm hn w hp h,rapply_rk 56 (by decide) pv av wd h1 h2 w hp (sl_of h) CH WI (leftZ (m:Int) (n:Int)) (big_hugeZ (by have h3:=two_bigs h2; have h4:=leftZ_le (m:Int) (n:Int); omega)) (fun w1 hw1=>by rw [← is_56 (m:Int) (n:Int) (sgV wd m) (sgV wd n)]; exact reck_all 56 (by omega) (by omega) av wd m n h1 h2 hm hn w1 (h.below hw1))⟩⟩) ps L
theorem app_57 (ps:List Int) (L:List (Int × List Nat)):AppB 57 ps L :=
  both_two 57 (by omega) (by omega) (kind_two 57 (by omega) (by omega) (by omega)) _ _ rfl row_57 (fun wd=>wd) (fun _ h=>h) (fun pv av wd xs y ys w ha=>width_same 57 (by omega) (by omega) (by omega) (by omega) (by omega) (by omega) pv av _ _ xs rfl w ha)
    (fun wd m n h1 h2 hm hn=>⟨_,fun pv av w hp h ⟨CH,WI⟩=>⟨apply_sdiv pv av wd m n h1 h2 hm hn w hp h,rapply_rk 57 (by decide) pv av wd h1 h2 w hp (sl_of h) CH WI (sdivZ (sgV wd m) (sgV wd n)) (big_hugeZ (by have h3:=two_bigs h2; have h4:=qC_le (sgV wd m) (sgV wd n); have h5:=sgV_le h2 hm; unfold sdivZ; (repeat' split)<;>omega)) (fun w1 hw1=>by rw [← is_57 (m:Int) (n:Int) (sgV wd m) (sgV wd n)]; exact reck_all 57 (by omega) (by omega) av wd m n h1 h2 hm hn w1 (h.below hw1))⟩⟩) ps L
theorem app_58 (ps:List Int) (L:List (Int × List Nat)):AppB 58 ps L :=
  both_two 58 (by omega) (by omega) (kind_two 58 (by omega) (by omega) (by omega)) _ _ rfl row_58 (fun wd=>wd) (fun _ h=>h) (fun pv av wd xs y ys w ha=>width_same 58 (by omega) (by omega) (by omega) (by omega) (by omega) (by omega) pv av _ _ xs rfl w ha)
    (fun wd m n h1 h2 hm hn=>⟨_,fun pv av w hp h ⟨CH,WI⟩=>⟨apply_srem pv av wd m n h1 h2 hm hn w hp h,rapply_rk 58 (by decide) pv av wd h1 h2 w hp (sl_of h) CH WI (leftZ (sgV wd m) (sgV wd n)) (big_hugeZ (by have h3:=two_bigs h2; have h4:=leftZ_le (sgV wd m) (sgV wd n); have h5:=sgV_le h2 hm; omega)) (fun w1 hw1=>by rw [← is_58 (m:Int) (n:Int) (sgV wd m) (sgV wd n)]; exact reck_all 58 (by omega) (by omega) av wd m n h1 h2 hm hn w1 (h.below hw1))⟩⟩) ps L
theorem app_59 (ps:List Int) (L:List (Int × List Nat)):AppB 59 ps L :=
  both_two 59 (by omega) (by omega) (kind_two 59 (by omega) (by omega) (by omega)) _ _ rfl row_59 (fun wd=>wd) (fun _ h=>h) (fun pv av wd xs y ys w ha=>width_same 59 (by omega) (by omega) (by omega) (by omega) (by omega) (by omega) pv av _ _ xs rfl w ha)
    (fun wd m n h1 h2 hm hn=>⟨_,fun pv av w hp h ⟨CH,WI⟩=>⟨(by rw [smod_eq]; exact apply_smod pv av wd m n h1 h2 hm hn w hp h),rapply_rk 59 (by decide) pv av wd h1 h2 w hp (sl_of h) CH WI (smodR (sgV wd m) (sgV wd n)) (big_hugeZ (by have h3:=two_bigs h2; have h5:=sgV_le h2 hm; have h6:=sgV_le h2 hn; rw [smod_eq]; have h4:=leftZ_le (sgV wd m) (sgV wd n); unfold smodZ; split<;>omega)) (fun w1 hw1=>by rw [← is_59 (m:Int) (n:Int) (sgV wd m) (sgV wd n)]; exact reck_all 59 (by omega) (by omega) av wd m n h1 h2 hm hn w1 (h.below hw1))⟩⟩) ps L
theorem app_60 (ps:List Int) (L:List (Int × List Nat)):AppB 60 ps L :=
  both_two 60 (by omega) (by omega) (kind_two 60 (by omega) (by omega) (by omega)) _ _ rfl row_60 (fun wd=>wd) (fun _ h=>h) (fun pv av wd xs y ys w ha=>width_same 60 (by omega) (by omega) (by omega) (by omega) (by omega) (by omega) pv av _ _ xs rfl w ha)
    (fun wd m n h1 h2 hm hn=>⟨_,fun pv av w hp h ⟨CH,WI⟩=>⟨apply_shlO pv av wd m n h1 h2 hm hn w hp h,rapply_mv 60 (by decide) pv av wd h1 h2 w hp (sl_of h) CH WI _ _ (fun w1 hw1=>moved_60 pv av wd m n wd w1 hp (h.below hw1) h1 h2 rfl h2) (num_60 m _ wd)⟩⟩) ps L
theorem app_61 (ps:List Int) (L:List (Int × List Nat)):AppB 61 ps L :=
  both_two 61 (by omega) (by omega) (kind_two 61 (by omega) (by omega) (by omega)) _ _ rfl row_61 (fun wd=>wd) (fun _ h=>h) (fun pv av wd xs y ys w ha=>width_same 61 (by omega) (by omega) (by omega) (by omega) (by omega) (by omega) pv av _ _ xs rfl w ha)
    (fun wd m n h1 h2 hm hn=>⟨_,fun pv av w hp h ⟨CH,WI⟩=>⟨apply_lshrO pv av wd m n h1 h2 hm hn w hp h,rapply_mv 61 (by decide) pv av wd h1 h2 w hp (sl_of h) CH WI _ _ (fun w1 hw1=>moved_61 pv av wd m n wd w1 hp (h.below hw1) h1 h2 rfl h2) (num_61 hm)⟩⟩) ps L
theorem app_62 (ps:List Int) (L:List (Int × List Nat)):AppB 62 ps L :=
  both_two 62 (by omega) (by omega) (kind_two 62 (by omega) (by omega) (by omega)) _ _ rfl row_62 (fun wd=>wd) (fun _ h=>h) (fun pv av wd xs y ys w ha=>width_same 62 (by omega) (by omega) (by omega) (by omega) (by omega) (by omega) pv av _ _ xs rfl w ha)
    (fun wd m n h1 h2 hm hn=>⟨_,fun pv av w hp h ⟨CH,WI⟩=>⟨apply_ashr pv av wd m n h1 h2 hm hn w hp h,rapply_mv 62 (by decide) pv av wd h1 h2 w hp (sl_of h) CH WI _ _ (fun w1 hw1=>moved_62 pv av wd m n wd w1 hp (h.below hw1) h1 h2 rfl h2) (num_62 h1 hm (shN_le wd n))⟩⟩) ps L
theorem app_43 (ps:List Int) (L:List (Int × List Nat)):AppB 43 ps L :=
  both_one 43 (.inl rfl) kind_43 _ row_43 (fun wd m h1 h2 hm=>⟨_,fun pv av w hp h ⟨CH,WI⟩=>⟨apply_not pv av wd m h1 h2 hm w hp h,rapply_bw1 43 43 (by decide) pv av wd m h1 h2 w hp h CH WI _ (num_43 hm)⟩⟩) ps L
theorem app_44 (ps:List Int) (L:List (Int × List Nat)):AppB 44 ps L :=
  both_one 44 (.inr rfl) kind_44 _ row_44 (fun wd m h1 h2 hm=>⟨_,fun pv av w hp h ⟨CH,WI⟩=>⟨apply_neg pv av wd m h1 h2 hm w hp h,rapply_rk 44 (by decide) pv av wd h1 h2 w hp (sl_of h) CH WI (-(m:Int)) (big_hugeZ (by have:=two_bigs h2; omega)) (fun w1 hw1=>reck_44 av wd m h1 h2 hm w1 (h.below hw1))⟩⟩) ps L
theorem both_apply (op:Int) (ps:List Int) (L:List (Int × List Nat)):AppB op ps L:=by
  by_cases h:op<41∨67<op
  · exact both_50 op h ps L
  · rcases (show op=41∨op=42∨op=43∨op=44∨op=45∨op=46∨op=47∨op=48∨op=49∨op=50∨op=51∨op=52∨op=53∨op=54∨op=55∨op=56∨op=57∨op=58∨op=59∨op=60∨op=61∨op=62∨op=63∨op=64∨op=65∨op=66∨op=67 by omega) with rfl | rfl | rfl | rfl | rfl | rfl | rfl | rfl | rfl | rfl | rfl | rfl | rfl | rfl | rfl | rfl | rfl | rfl | rfl | rfl | rfl | rfl | rfl | rfl | rfl | rfl | rfl
    · exact both_41 ps L
    · exact both_42 ps L
    · exact app_43 ps L
    · exact app_44 ps L
    · exact app_45 ps L
    · exact app_46 ps L
    · exact app_47 ps L
    · exact app_48 ps L
    · exact app_49 ps L
    · exact app_50 ps L
    · exact app_51 ps L
    · exact app_52 ps L
    · exact app_53 ps L
    · exact app_54 ps L
    · exact app_55 ps L
    · exact app_56 ps L
    · exact app_57 ps L
    · exact app_58 ps L
    · exact app_59 ps L
    · exact app_60 ps L
    · exact app_61 ps L
    · exact app_62 ps L
    · exact both_63 ps L
    · exact both_64 ps L
    · exact both_65 ps L
    · exact both_66 ps L
    · exact both_67 ps L
end Go.Proofs.YtacbkpenohcgjaaGreat
