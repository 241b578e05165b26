import Derived.Test.YtacbkpenohcgjaaGreatVNB9
import Derived.Test.YtacbkpenohcgjaaGreatVNT9
import Derived.Test.YtacbkpenohcgjaaGreatVNZ9
set_option linter.unusedVariables false
set_option linter.unusedSimpArgs false
set_option maxHeartbeats 16000000
set_option maxRecDepth 100000
namespace Go.Proofs.YtacbkpenohcgjaaGreat
open Go.RowKit Mth
def KindIs (op n m:Int):Prop:=∀ w,Calls Tryz.prog 31 #[.int .i64 op] w fun e w'=>e=.returned (.tuple #[.int .i64 1,.int .i64 n,.int .i64 m])∧w'=w
theorem kind_41:KindIs 41 2 0:=fun w=>by
  go_enter Tryz.func31,Tryz.ntmps31
  go_wp2
  go_ret3
  exact ⟨rfl,rfl⟩
theorem kind_51:KindIs 51 2 0:=fun w=>by
  go_enter Tryz.func31,Tryz.ntmps31
  go_wp2
  go_ret3
  exact ⟨rfl,rfl⟩
theorem kind_42:KindIs 42 1 2:=fun w=>by
  go_enter Tryz.func31,Tryz.ntmps31
  go_wp2
  go_ret3
  exact ⟨rfl,rfl⟩
theorem kind_43:KindIs 43 1 0:=fun w=>by
  go_enter Tryz.func31,Tryz.ntmps31
  go_wp2
  go_ret3
  exact ⟨rfl,rfl⟩
theorem kind_44:KindIs 44 1 0:=fun w=>by
  go_enter Tryz.func31,Tryz.ntmps31
  go_wp2
  go_ret3
  exact ⟨rfl,rfl⟩
theorem kind_63:KindIs 63 1 1:=fun w=>by
  go_enter Tryz.func31,Tryz.ntmps31
  go_wp2
  go_ret3
  exact ⟨rfl,rfl⟩
theorem kind_64:KindIs 64 1 1:=fun w=>by
  go_enter Tryz.func31,Tryz.ntmps31
  go_wp2
  go_ret3
  exact ⟨rfl,rfl⟩
theorem kind_65:KindIs 65 1 1:=fun w=>by
  go_enter Tryz.func31,Tryz.ntmps31
  go_wp2
  go_ret3
  exact ⟨rfl,rfl⟩
theorem kind_66:KindIs 66 1 1:=fun w=>by
  go_enter Tryz.func31,Tryz.ntmps31
  go_wp2
  go_ret3
  exact ⟨rfl,rfl⟩
theorem kind_67:KindIs 67 1 1:=fun w=>by
  go_enter Tryz.func31,Tryz.ntmps31
  go_wp2
  go_ret3
  exact ⟨rfl,rfl⟩
theorem kind_two (op:Int) (h1:45≤op) (h2:op≤62) (h3:op≠51):KindIs op 2 0:=fun w=>by
  have d41:(op == 41)=false:=beq_eq_false_iff_ne.2 (by omega)
  have d51:(op == 51)=false:=beq_eq_false_iff_ne.2 (by omega)
  have d42:(op == 42)=false:=beq_eq_false_iff_ne.2 (by omega)
  have d63:(op == 63)=false:=beq_eq_false_iff_ne.2 (by omega)
  have d64:(op == 64)=false:=beq_eq_false_iff_ne.2 (by omega)
  have d65:(op == 65)=false:=beq_eq_false_iff_ne.2 (by omega)
  have d66:(op == 66)=false:=beq_eq_false_iff_ne.2 (by omega)
  have d67:(op == 67)=false:=beq_eq_false_iff_ne.2 (by omega)
  have d43:(op == 43)=false:=beq_eq_false_iff_ne.2 (by omega)
  have d44:(op == 44)=false:=beq_eq_false_iff_ne.2 (by omega)
  clear h3
  go_enter Tryz.func31,Tryz.ntmps31
  go_wp2
  go_ret3
  exact ⟨rfl,rfl⟩
def KindN (w:World) (e:Ending) (w':World):Prop:=∃ k n m:Int,e=.returned (.tuple #[.int .i64 k,.int .i64 n,.int .i64 m])∧k≠1∧w'=w
theorem kind_no (op:Int) (h:op<41∨67<op) (w:World):Calls Tryz.prog 31 #[.int .i64 op] w (KindN w):=by
  by_cases hh:68≤op∧op≤75
  · exact (kind_in op hh.1 hh.2 w).mono fun e w' ⟨he,hw⟩=>⟨2,2,0,he,by omega,hw⟩
  · rcases (show op<41∨75<op by omega) with c1 | c1
    · clear h hh
      have d41:(op == 41)=false:=beq_eq_false_iff_ne.2 (by omega)
      have d51:(op == 51)=false:=beq_eq_false_iff_ne.2 (by omega)
      have d42:(op == 42)=false:=beq_eq_false_iff_ne.2 (by omega)
      have d63:(op == 63)=false:=beq_eq_false_iff_ne.2 (by omega)
      have d64:(op == 64)=false:=beq_eq_false_iff_ne.2 (by omega)
      have d65:(op == 65)=false:=beq_eq_false_iff_ne.2 (by omega)
      have d66:(op == 66)=false:=beq_eq_false_iff_ne.2 (by omega)
      have d67:(op == 67)=false:=beq_eq_false_iff_ne.2 (by omega)
      have d43:(op == 43)=false:=beq_eq_false_iff_ne.2 (by omega)
      have d44:(op == 44)=false:=beq_eq_false_iff_ne.2 (by omega)
      have e1:¬ 45≤op:=by omega
      have e2:¬ 68≤op:=by omega
      go_enter Tryz.func31,Tryz.ntmps31
      go_wp2
      go_ret3
      exact ⟨_,_,_,rfl,by omega,rfl⟩
    · clear h hh
      have d41:(op == 41)=false:=beq_eq_false_iff_ne.2 (by omega)
      have d51:(op == 51)=false:=beq_eq_false_iff_ne.2 (by omega)
      have d42:(op == 42)=false:=beq_eq_false_iff_ne.2 (by omega)
      have d63:(op == 63)=false:=beq_eq_false_iff_ne.2 (by omega)
      have d64:(op == 64)=false:=beq_eq_false_iff_ne.2 (by omega)
      have d65:(op == 65)=false:=beq_eq_false_iff_ne.2 (by omega)
      have d66:(op == 66)=false:=beq_eq_false_iff_ne.2 (by omega)
      have d67:(op == 67)=false:=beq_eq_false_iff_ne.2 (by omega)
      have d43:(op == 43)=false:=beq_eq_false_iff_ne.2 (by omega)
      have d44:(op == 44)=false:=beq_eq_false_iff_ne.2 (by omega)
      have e1:¬ op≤62:=by omega
      have e2:¬ op≤75:=by omega
      have e3:45≤op:=by omega
      have e4:68≤op:=by omega
      go_enter Tryz.func31,Tryz.ntmps31
      go_wp2
      go_ret3
      exact ⟨_,_,_,rfl,by omega,rfl⟩
theorem check1_50 (op:Int) (h:op<41∨67<op) (pv av:Value) (w:World):Calls Tryz.prog 13 #[.int .i64 op,pv,av,.int .i64 1] w fun e w'=>e=.returned (.int .i64 50)∧w'=w:=by
  have KO:=Lib.hid (kind_no op h w)
  clear h
  go_enter Tryz.func13,Tryz.ntmps13
  go_wp2_with fail
  refine KO.out.mono ?_
  rintro e w1 ⟨k,n,m,rfl,hk,rfl⟩
  have dk:(k != 1)=true:=bne_iff_ne.2 hk
  clear hk
  go_wp2
  go_ret
  exact ⟨rfl,rfl⟩
theorem check1_51 (op n m:Int) (K:KindIs op n m) (pv:Value) (ao:Option Addr) (ak ac:Nat) (hne:(ak:Int)≠n) (w:World):Calls Tryz.prog 13 #[.int .i64 op,pv,.slice ao ak ac,.int .i64 1] w fun e w'=>e=.returned (.int .i64 51)∧w'=w:=by
  have KI:=Lib.hid K
  have d1:((ak:Int) != n)=true:=bne_iff_ne.2 hne
  clear hne K
  go_enter Tryz.func13,Tryz.ntmps13
  go_wp2_with fail
  refine (KI.out w).mono ?_
  rintro e w1 ⟨rfl,hw1⟩
  obtain rfl:w=w1:=hw1.symm
  go_wp2
  go_ret
  exact ⟨rfl,rfl⟩
theorem check1_53n (op n m:Int) (K:KindIs op n m) (hm:0<m) (po:Option Addr) (pn pc:Nat) (hp:(pn:Int)≠m) (ao:Option Addr) (ak ac:Nat) (hn:(ak:Int)=n) (w:World):Calls Tryz.prog 13 #[.int .i64 op,.slice po pn pc,.slice ao ak ac,.int .i64 1] w fun e w'=>e=.returned (.int .i64 53)∧w'=w:=by
  subst hn
  have KI:=Lib.hid K
  have d1:((ak:Int) != (ak:Int))=false:=bne_self_eq_false _
  have d2:((pn:Int) != m)=true:=bne_iff_ne.2 hp
  have d3:decide (0<m)=true:=decide_eq_true hm
  clear hp K
  go_enter Tryz.func13,Tryz.ntmps13
  go_wp2_with fail
  refine (KI.out w).mono ?_
  rintro e w1 ⟨rfl,hw1⟩
  obtain rfl:w=w1:=hw1.symm
  go_wp2
  go_ret
  exact ⟨rfl,rfl⟩
theorem check1_53b10 (op n:Int) (K:KindIs op n 1) (pv:Value) (p0:Int)  (hbad:p0<0∨4096<p0) (ao:Option Addr) (ak ac:Nat) (hn:(ak:Int)=n) (w:World) (hp:PaL w pv [p0]):Calls Tryz.prog 13 #[.int .i64 op,pv,.slice ao ak ac,.int .i64 1] w fun e w'=>e=.returned (.int .i64 53)∧w'=w:=by
  subst hn
  have KI:=Lib.hid K
  have d1:((ak:Int) != (ak:Int))=false:=bne_self_eq_false _
  obtain ⟨po,pc,rfl,hpc⟩:=hp
  obtain ⟨pb,poff,rfl,hplt,hpc⟩:=hpc (by simp)
  have pc0:=hpc 0 p0 rfl
  rw [Nat.add_zero] at pc0
  simp only [List.length_cons,List.length_nil] at *
  clear hpc K
  go_enter Tryz.func13,Tryz.ntmps13
  go_wp2_with fail
  refine (KI.out w).mono ?_
  rintro e w1 ⟨rfl,hw1⟩
  obtain rfl:w=w1:=hw1.symm
  go_wp2_with fail
  go_loopw [12] (fun i wr=>∃ k:Nat,k≤0∧i=.int .i64 (k:Int)∧w=wr) (fun i _=>1 - (intOf i).toNat)
  case atStart=>exact ⟨0,by omega,rfl,rfl⟩
  case round =>
    obtain ⟨k,hk,rfl,rfl⟩:=hrel
    obtain rfl:k=0:=by omega
    rcases hbad with hb | hb
    all_goals
      go_wp2
      go_ret
      exact ⟨rfl,rfl⟩
theorem check1_53b20 (op n:Int) (K:KindIs op n 2) (pv:Value) (p0 p1:Int)  (hbad:p0<0∨4096<p0) (ao:Option Addr) (ak ac:Nat) (hn:(ak:Int)=n) (w:World) (hp:PaL w pv [p0,p1]):Calls Tryz.prog 13 #[.int .i64 op,pv,.slice ao ak ac,.int .i64 1] w fun e w'=>e=.returned (.int .i64 53)∧w'=w:=by
  subst hn
  have KI:=Lib.hid K
  have d1:((ak:Int) != (ak:Int))=false:=bne_self_eq_false _
  obtain ⟨po,pc,rfl,hpc⟩:=hp
  obtain ⟨pb,poff,rfl,hplt,hpc⟩:=hpc (by simp)
  have pc0:=hpc 0 p0 rfl
  have pc1:=hpc 1 p1 rfl
  rw [Nat.add_zero] at pc0
  simp only [List.length_cons,List.length_nil] at *
  clear hpc K
  go_enter Tryz.func13,Tryz.ntmps13
  go_wp2_with fail
  refine (KI.out w).mono ?_
  rintro e w1 ⟨rfl,hw1⟩
  obtain rfl:w=w1:=hw1.symm
  go_wp2_with fail
  go_loopw [12] (fun i wr=>∃ k:Nat,k≤0∧i=.int .i64 (k:Int)∧w=wr) (fun i _=>2 - (intOf i).toNat)
  case atStart=>exact ⟨0,by omega,rfl,rfl⟩
  case round =>
    obtain ⟨k,hk,rfl,rfl⟩:=hrel
    obtain rfl:k=0:=by omega
    rcases hbad with hb | hb
    all_goals
      go_wp2
      go_ret
      exact ⟨rfl,rfl⟩
theorem check1_53b21 (op n:Int) (K:KindIs op n 2) (pv:Value) (p0 p1:Int) (g00:0≤p0) (g01:p0≤4096) (hbad:p1<0∨4096<p1) (ao:Option Addr) (ak ac:Nat) (hn:(ak:Int)=n) (w:World) (hp:PaL w pv [p0,p1]):Calls Tryz.prog 13 #[.int .i64 op,pv,.slice ao ak ac,.int .i64 1] w fun e w'=>e=.returned (.int .i64 53)∧w'=w:=by
  subst hn
  have KI:=Lib.hid K
  have d1:((ak:Int) != (ak:Int))=false:=bne_self_eq_false _
  obtain ⟨po,pc,rfl,hpc⟩:=hp
  obtain ⟨pb,poff,rfl,hplt,hpc⟩:=hpc (by simp)
  have pc0:=hpc 0 p0 rfl
  have pc1:=hpc 1 p1 rfl
  rw [Nat.add_zero] at pc0
  simp only [List.length_cons,List.length_nil] at *
  clear hpc K
  go_enter Tryz.func13,Tryz.ntmps13
  go_wp2_with fail
  refine (KI.out w).mono ?_
  rintro e w1 ⟨rfl,hw1⟩
  obtain rfl:w=w1:=hw1.symm
  go_wp2_with fail
  go_loopw [12] (fun i wr=>∃ k:Nat,k≤1∧i=.int .i64 (k:Int)∧w=wr) (fun i _=>2 - (intOf i).toNat)
  case atStart=>exact ⟨0,by omega,rfl,rfl⟩
  case round =>
    obtain ⟨k,hk,rfl,rfl⟩:=hrel
    rcases (show k=0∨k=1 by omega) with rfl | rfl
    · go_wp2_with fail
      go_roundw
      case rel=>exact ⟨1,by omega,rfl,(by first | rfl | trivial)⟩
      case measure=>simp [intOf]
    · rcases hbad with hb | hb
      all_goals
        go_wp2
        go_ret
        exact ⟨rfl,rfl⟩
theorem check1_53o42 (pv:Value) (p0 p1:Int) (g00:0≤p0) (g01:p0≤4096) (g10:0≤p1) (g11:p1≤4096) (hlt:p0<p1) (ao:Option Addr) (ac:Nat) (w:World) (hp:PaL w pv [p0,p1]):Calls Tryz.prog 13 #[.int .i64 42,pv,.slice ao 1 ac,.int .i64 1] w fun e w'=>e=.returned (.int .i64 53)∧Below w.heap.size w w':=by
  have KI:=Lib.hid kind_42
  obtain ⟨po,pc,rfl,hpc⟩:=hp
  obtain ⟨pb,poff,rfl,hplt,hpc⟩:=hpc (by simp)
  have pc0:=hpc 0 p0 rfl
  have pc1:=hpc 1 p1 rfl
  rw [Nat.add_zero] at pc0
  simp only [List.length_cons,List.length_nil] at *
  clear hpc
  go_enter Tryz.func13,Tryz.ntmps13
  go_wp2_with fail
  refine (KI.out w).mono ?_
  rintro e w1 ⟨rfl,hw1⟩
  obtain rfl:w=w1:=hw1.symm
  go_wp2_with fail
  go_loopw [12] (fun i wr=>∃ k:Nat,k≤2∧i=.int .i64 (k:Int)∧w=wr) (fun i _=>2 - (intOf i).toNat)
  case atStart=>exact ⟨0,by omega,rfl,rfl⟩
  case round =>
    obtain ⟨k,hk,rfl,rfl⟩:=hrel
    rcases (show k=0∨k=1∨k=2 by omega) with rfl | rfl | rfl
    · go_wp2_with fail
      go_roundw
      case rel=>exact ⟨1,by omega,rfl,(by first | rfl | trivial)⟩
      case measure=>simp [intOf]
    · go_wp2_with fail
      go_roundw
      case rel=>exact ⟨2,by omega,rfl,(by first | rfl | trivial)⟩
      case measure=>simp [intOf]
    · go_wp2_with fail
      go_quiet (fail)
      go_wp2
      go_ret
      exact ⟨rfl,bdrawn (Below.refl _ _) _⟩
theorem check1_53o63 (pv:Value) (p0:Int)  (hz:p0=0) (ao:Option Addr) (ac:Nat) (w:World) (hp:PaL w pv [p0]):Calls Tryz.prog 13 #[.int .i64 63,pv,.slice ao 1 ac,.int .i64 1] w fun e w'=>e=.returned (.int .i64 53)∧Below w.heap.size w w':=by
  have KI:=Lib.hid kind_63
  obtain ⟨po,pc,rfl,hpc⟩:=hp
  obtain ⟨pb,poff,rfl,hplt,hpc⟩:=hpc (by simp)
  have pc0:=hpc 0 p0 rfl
  rw [Nat.add_zero] at pc0
  simp only [List.length_cons,List.length_nil] at *
  clear hpc
  subst hz
  go_enter Tryz.func13,Tryz.ntmps13
  go_wp2_with fail
  refine (KI.out w).mono ?_
  rintro e w1 ⟨rfl,hw1⟩
  obtain rfl:w=w1:=hw1.symm
  go_wp2_with fail
  go_loopw [12] (fun i wr=>∃ k:Nat,k≤1∧i=.int .i64 (k:Int)∧w=wr) (fun i _=>1 - (intOf i).toNat)
  case atStart=>exact ⟨0,by omega,rfl,rfl⟩
  case round =>
    obtain ⟨k,hk,rfl,rfl⟩:=hrel
    rcases (show k=0∨k=1 by omega) with rfl | rfl
    · go_wp2_with fail
      go_roundw
      case rel=>exact ⟨1,by omega,rfl,(by first | rfl | trivial)⟩
      case measure=>simp [intOf]
    · go_wp2_with fail
      go_quiet (fail)
      go_wp2
      go_ret
      exact ⟨rfl,bdrawn (Below.refl _ _) _⟩
end Go.Proofs.YtacbkpenohcgjaaGreat
namespace Go.Proofs.YtacbkpenohcgjaaGreat
open Go.RowKit Mth
theorem check2_two (op:Int) (h1:45≤op) (h2:op≤62) (K:KindIs op 2 0) (av:Value) (x y:Int) (xs ys:List Nat) (j:Nat) (er wx:Int) (w:World) (pv:Value) (hp:∃ po pn pc,pv=.slice po pn pc) (h:BvLX w av [(x,xs),(y,ys)])
    (hW:er≠90→∀ w1,Below w.heap.size w w1→Calls Tryz.prog 14 #[.int .i64 op,pv,av] w1 fun e w'=>e=.returned (.int .i64 wx)∧Below w1.heap.size w1 w') (hwx:er=0→wx≤4096)
    (hj:(j=0∧rightF x (val B64 xs)=false∧er=90)∨(j=1∧rightF x (val B64 xs)=true∧rightF y (val B64 ys)=false∧er=90)∨(j=2∧rightF x (val B64 xs)=true∧rightF y (val B64 ys)=true∧((x≠y∧er=52)∨(x=y∧er=0)))) :
    Calls Tryz.prog 13 #[.int .i64 op,pv,av,.int .i64 1] w fun e w'=>e=.returned (.int .i64 er)∧Below w.heap.size w w':=by
  have KI:=Lib.hid K
  have dd:((2:Int) == 2)=true:=rfl
  have d42:(op == 42)=false:=beq_eq_false_iff_ne.2 (by omega)
  have d63:(op == 63)=false:=beq_eq_false_iff_ne.2 (by omega)
  have n41:(op != 41)=true:=bne_iff_ne.2 (by omega)
  have HJ:=Lib.hid hj
  have HW:=Lib.hid hW
  obtain ⟨po,pn,pc,rfl⟩:=hp
  obtain ⟨ao,cap,rfl,hc⟩:=h
  obtain ⟨b,off,rfl,hlt,hc⟩:=hc (by simp)
  obtain ⟨u0,k1,k2,k3,k4,k5⟩:=hc 0 (x,xs) rfl
  obtain ⟨u1,l1,l2,l3,l4,l5⟩:=hc 1 (y,ys) rfl
  have R0:Hid (∀ w1,Below w.heap.size w w1→Calls Tryz.prog 32 #[.agg #[.int .i64 x,u0]] w1 fun e w'=>e=.returned (.bool (rightF x (val B64 xs)))∧Below w1.heap.size w1 w'):=Lib.hid (fun w1 hw=>rright_any x u0 xs w1 (k3.below hw) k4)
  have R1:Hid (∀ w1,Below w.heap.size w w1→Calls Tryz.prog 32 #[.agg #[.int .i64 y,u1]] w1 fun e w'=>e=.returned (.bool (rightF y (val B64 ys)))∧Below w1.heap.size w1 w'):=Lib.hid (fun w1 hw=>rright_any y u1 ys w1 (l3.below hw) l4)
  dsimp only at k1 k2 l1 l2
  simp only [Nat.zero_mul,Nat.add_zero,Nat.one_mul] at k1 k2 l1 l2
  have CL:Hid (∀ w1,Below w.heap.size w w1→w1.cell? ⟨b,off,none⟩=some (.int .i64 x)∧w1.cell? ⟨b,off+1,none⟩=some u0∧w1.cell? ⟨b,off+2,none⟩=some (.int .i64 y)∧w1.cell? ⟨b,off+2+1,none⟩=some u1):=Lib.hid (fun w1 hw =>
    ⟨(hw.cell (p:=⟨b,off,none⟩) hlt).trans k1,(hw.cell (p:=⟨b,off+1,none⟩) hlt).trans k2,(hw.cell (p:=⟨b,off+2,none⟩) hlt).trans l1,(hw.cell (p:=⟨b,off+2+1,none⟩) hlt).trans l2⟩)
  obtain ⟨o0,c0,rfl⟩:=k3.shape
  obtain ⟨o1,c1,rfl⟩:=l3.shape
  generalize rightF x (val B64 xs)=r0 at *
  generalize rightF y (val B64 ys)=r1 at *
  generalize xs.length=kx at *
  generalize ys.length=ky at *
  clear k1 k2 k3 k4 k5 l1 l2 l3 l4 l5 hc hj hlt hW
  simp only [List.length_cons,List.length_nil] at *
  go_enter Tryz.func13,Tryz.ntmps13
  go_wp2_with fail
  refine (KI.out w).mono ?_
  rintro e w1 ⟨rfl,hw1⟩
  obtain rfl:w=w1:=hw1.symm
  go_wp2_with fail
  go_loopw [12] (fun i wr=>i=.int .i64 0∧w=wr) (fun _ _=>0)
  case atStart=>exact ⟨rfl,rfl⟩
  case round =>
    obtain ⟨rfl,rfl⟩:=hrel
    go_wp2_with fail
    go_quiet (fail)
    go_wp2_with fail
    go_loopw [13] (fun i wr=>∃ k:Nat,k≤2∧k≤j∧i=.int .i64 (k:Int)∧Below w.heap.size w wr) (fun i _=>2 - (intOf i).toNat)
    case atStart=>exact ⟨0,by omega,Nat.zero_le _,rfl,bdrawn (Below.refl _ _) _⟩
    case round =>
      obtain ⟨k,hk1,hk2,rfl,hb⟩:=hrel
      obtain ⟨z0,z1,z2,z3⟩:=CL.out _ hb
      have HB:=Lib.hid hb
      clear hb
      rcases (show k=0∨k=1∨k=2 by omega) with rfl | rfl | rfl
      · go_wp2_with fail
        refine (R0.out _ HB.out).mono ?_
        rintro e w3 ⟨rfl,hb3⟩
        have H3:=Lib.hid (below_of HB.out hb3)
        clear hb3
        have hj:=HJ.out
        cases r0
        · have he:er=90:=by rcases hj with ⟨-,-,h⟩ | ⟨-,h,-⟩ | ⟨-,h,-⟩<;>first | exact h | cases h
          subst he
          clear hj
          go_wp2
          go_ret
          exact ⟨rfl,H3.out⟩
        · have hj1:1≤j:=by rcases hj with ⟨-,h,-⟩ | ⟨h,-⟩ | ⟨h,-⟩<;>first | omega | cases h
          clear hj
          go_wp2_with fail
          go_roundw
          case rel=>exact ⟨1,by omega,hj1,rfl,H3.out⟩
          case measure=>(simp [intOf]; try omega)
      · go_wp2_with fail
        refine (R1.out _ HB.out).mono ?_
        rintro e w3 ⟨rfl,hb3⟩
        have H3:=Lib.hid (below_of HB.out hb3)
        clear hb3
        have hj:=HJ.out
        cases r1
        · have he:er=90:=by rcases hj with ⟨h,-⟩ | ⟨-,-,-,h⟩ | ⟨-,-,h,-⟩<;>first | exact h | omega | cases h
          subst he
          clear hj
          go_wp2
          go_ret
          exact ⟨rfl,H3.out⟩
        · have hj1:2≤j:=by rcases hj with ⟨h,-⟩ | ⟨-,-,h,-⟩ | ⟨h,-⟩<;>first | omega | cases h
          clear hj
          go_wp2_with fail
          go_roundw
          case rel=>exact ⟨2,by omega,hj1,rfl,H3.out⟩
          case measure=>(simp [intOf]; try omega)
      · have hj:=HJ.out
        have hx:(x≠y∧er=52)∨(x=y∧er=0):=by rcases hj with ⟨h,-⟩ | ⟨h,-⟩ | ⟨-,-,-,h⟩<;>first | omega | exact h
        clear hj
        rcases hx with ⟨hne,rfl⟩ | ⟨rfl,rfl⟩
        · have dx:(x != y)=true:=bne_iff_ne.2 hne
          clear hne
          go_wp2_with fail
          go_quiet (fail)
          go_wp2
          go_ret
          exact ⟨rfl,bdrawn HB.out _⟩
        · have dx:(x != x)=false:=bne_self_eq_false x
          have hwx:=hwx rfl
          go_wp2_with fail
          go_quiet (fail)
          go_wp2_with fail
          refine (HW.out (by decide) _ (bdrawn HB.out _)).mono ?_
          rintro e w4 ⟨rfl,hb4⟩
          have H4:=Lib.hid (below_of (bdrawn HB.out _) hb4)
          clear hb4
          go_wp2
          go_ret
          exact ⟨rfl,H4.out⟩
theorem check2_41  (av:Value) (x y:Int) (xs ys:List Nat) (j:Nat) (er wx:Int) (w:World) (pv:Value) (hp:∃ po pn pc,pv=.slice po pn pc) (h:BvLX w av [(x,xs),(y,ys)])
    (hW:er≠90→∀ w1,Below w.heap.size w w1→Calls Tryz.prog 14 #[.int .i64 41,pv,av] w1 fun e w'=>e=.returned (.int .i64 wx)∧Below w1.heap.size w1 w')
    (hj:(j=0∧rightF x (val B64 xs)=false∧er=90)∨(j=1∧rightF x (val B64 xs)=true∧rightF y (val B64 ys)=false∧er=90)∨(j=2∧rightF x (val B64 xs)=true∧rightF y (val B64 ys)=true∧((4096<wx∧er=55)∨(wx≤4096∧er=0)))) :
    Calls Tryz.prog 13 #[.int .i64 41,pv,av,.int .i64 1] w fun e w'=>e=.returned (.int .i64 er)∧Below w.heap.size w w':=by
  have KI:=Lib.hid kind_41
  have HJ:=Lib.hid hj
  have HW:=Lib.hid hW
  obtain ⟨po,pn,pc,rfl⟩:=hp
  obtain ⟨ao,cap,rfl,hc⟩:=h
  obtain ⟨b,off,rfl,hlt,hc⟩:=hc (by simp)
  obtain ⟨u0,k1,k2,k3,k4,k5⟩:=hc 0 (x,xs) rfl
  obtain ⟨u1,l1,l2,l3,l4,l5⟩:=hc 1 (y,ys) rfl
  have R0:Hid (∀ w1,Below w.heap.size w w1→Calls Tryz.prog 32 #[.agg #[.int .i64 x,u0]] w1 fun e w'=>e=.returned (.bool (rightF x (val B64 xs)))∧Below w1.heap.size w1 w'):=Lib.hid (fun w1 hw=>rright_any x u0 xs w1 (k3.below hw) k4)
  have R1:Hid (∀ w1,Below w.heap.size w w1→Calls Tryz.prog 32 #[.agg #[.int .i64 y,u1]] w1 fun e w'=>e=.returned (.bool (rightF y (val B64 ys)))∧Below w1.heap.size w1 w'):=Lib.hid (fun w1 hw=>rright_any y u1 ys w1 (l3.below hw) l4)
  dsimp only at k1 k2 l1 l2
  simp only [Nat.zero_mul,Nat.add_zero,Nat.one_mul] at k1 k2 l1 l2
  have CL:Hid (∀ w1,Below w.heap.size w w1→w1.cell? ⟨b,off,none⟩=some (.int .i64 x)∧w1.cell? ⟨b,off+1,none⟩=some u0∧w1.cell? ⟨b,off+2,none⟩=some (.int .i64 y)∧w1.cell? ⟨b,off+2+1,none⟩=some u1):=Lib.hid (fun w1 hw =>
    ⟨(hw.cell (p:=⟨b,off,none⟩) hlt).trans k1,(hw.cell (p:=⟨b,off+1,none⟩) hlt).trans k2,(hw.cell (p:=⟨b,off+2,none⟩) hlt).trans l1,(hw.cell (p:=⟨b,off+2+1,none⟩) hlt).trans l2⟩)
  obtain ⟨o0,c0,rfl⟩:=k3.shape
  obtain ⟨o1,c1,rfl⟩:=l3.shape
  generalize rightF x (val B64 xs)=r0 at *
  generalize rightF y (val B64 ys)=r1 at *
  generalize xs.length=kx at *
  generalize ys.length=ky at *
  clear k1 k2 k3 k4 k5 l1 l2 l3 l4 l5 hc hj hlt hW
  simp only [List.length_cons,List.length_nil] at *
  go_enter Tryz.func13,Tryz.ntmps13
  go_wp2_with fail
  refine (KI.out w).mono ?_
  rintro e w1 ⟨rfl,hw1⟩
  obtain rfl:w=w1:=hw1.symm
  go_wp2_with fail
  go_loopw [12] (fun i wr=>i=.int .i64 0∧w=wr) (fun _ _=>0)
  case atStart=>exact ⟨rfl,rfl⟩
  case round =>
    obtain ⟨rfl,rfl⟩:=hrel
    go_wp2_with fail
    go_quiet (fail)
    go_wp2_with fail
    go_loopw [13] (fun i wr=>∃ k:Nat,k≤2∧k≤j∧i=.int .i64 (k:Int)∧Below w.heap.size w wr) (fun i _=>2 - (intOf i).toNat)
    case atStart=>exact ⟨0,by omega,Nat.zero_le _,rfl,bdrawn (Below.refl _ _) _⟩
    case round =>
      obtain ⟨k,hk1,hk2,rfl,hb⟩:=hrel
      obtain ⟨z0,z1,z2,z3⟩:=CL.out _ hb
      have HB:=Lib.hid hb
      clear hb
      rcases (show k=0∨k=1∨k=2 by omega) with rfl | rfl | rfl
      · go_wp2_with fail
        refine (R0.out _ HB.out).mono ?_
        rintro e w3 ⟨rfl,hb3⟩
        have H3:=Lib.hid (below_of HB.out hb3)
        clear hb3
        have hj:=HJ.out
        cases r0
        · have he:er=90:=by rcases hj with ⟨-,-,h⟩ | ⟨-,h,-⟩ | ⟨-,h,-⟩<;>first | exact h | cases h
          subst he
          clear hj
          go_wp2
          go_ret
          exact ⟨rfl,H3.out⟩
        · have hj1:1≤j:=by rcases hj with ⟨-,h,-⟩ | ⟨h,-⟩ | ⟨h,-⟩<;>first | omega | cases h
          clear hj
          go_wp2_with fail
          go_roundw
          case rel=>exact ⟨1,by omega,hj1,rfl,H3.out⟩
          case measure=>(simp [intOf]; try omega)
      · go_wp2_with fail
        refine (R1.out _ HB.out).mono ?_
        rintro e w3 ⟨rfl,hb3⟩
        have H3:=Lib.hid (below_of HB.out hb3)
        clear hb3
        have hj:=HJ.out
        cases r1
        · have he:er=90:=by rcases hj with ⟨h,-⟩ | ⟨-,-,-,h⟩ | ⟨-,-,h,-⟩<;>first | exact h | omega | cases h
          subst he
          clear hj
          go_wp2
          go_ret
          exact ⟨rfl,H3.out⟩
        · have hj1:2≤j:=by rcases hj with ⟨h,-⟩ | ⟨-,-,h,-⟩ | ⟨h,-⟩<;>first | omega | cases h
          clear hj
          go_wp2_with fail
          go_roundw
          case rel=>exact ⟨2,by omega,hj1,rfl,H3.out⟩
          case measure=>(simp [intOf]; try omega)
      · have hj:=HJ.out
        have hx:(4096<wx∧er=55)∨(wx≤4096∧er=0):=by rcases hj with ⟨h,-⟩ | ⟨h,-⟩ | ⟨-,-,-,h⟩<;>first | omega | exact h
        clear hj
        rcases hx with ⟨hgt,rfl⟩ | ⟨hle,rfl⟩
        · go_wp2_with fail
          go_quiet (fail)
          go_wp2_with fail
          refine (HW.out (by decide) _ (bdrawn HB.out _)).mono ?_
          rintro e w4 ⟨rfl,hb4⟩
          have H4:=Lib.hid (below_of (bdrawn HB.out _) hb4)
          clear hb4
          go_wp2
          go_ret
          exact ⟨rfl,H4.out⟩
        · go_wp2_with fail
          go_quiet (fail)
          go_wp2_with fail
          refine (HW.out (by decide) _ (bdrawn HB.out _)).mono ?_
          rintro e w4 ⟨rfl,hb4⟩
          have H4:=Lib.hid (below_of (bdrawn HB.out _) hb4)
          clear hb4
          go_wp2
          go_ret
          exact ⟨rfl,H4.out⟩
theorem check2_one (op:Int) (h1:op=43∨op=44) (K:KindIs op 1 0) (av:Value) (x:Int) (xs:List Nat) (j:Nat) (er wx:Int) (w:World) (pv:Value) (hp:∃ po pn pc,pv=.slice po pn pc) (h:BvLX w av [(x,xs)])
    (hW:er≠90→∀ w1,Below w.heap.size w w1→Calls Tryz.prog 14 #[.int .i64 op,pv,av] w1 fun e w'=>e=.returned (.int .i64 wx)∧Below w1.heap.size w1 w') (hwx:er=0→wx≤4096)
    (hj:(j=0∧rightF x (val B64 xs)=false∧er=90)∨(j=1∧rightF x (val B64 xs)=true∧(er=0))) :
    Calls Tryz.prog 13 #[.int .i64 op,pv,av,.int .i64 1] w fun e w'=>e=.returned (.int .i64 er)∧Below w.heap.size w w':=by
  have KI:=Lib.hid K
  have d42:(op == 42)=false:=beq_eq_false_iff_ne.2 (by omega)
  have d63:(op == 63)=false:=beq_eq_false_iff_ne.2 (by omega)
  have HJ:=Lib.hid hj
  have HW:=Lib.hid hW
  obtain ⟨po,pn,pc,rfl⟩:=hp
  obtain ⟨ao,cap,rfl,hc⟩:=h
  obtain ⟨b,off,rfl,hlt,hc⟩:=hc (by simp)
  obtain ⟨u0,k1,k2,k3,k4,k5⟩:=hc 0 (x,xs) rfl
  have R0:Hid (∀ w1,Below w.heap.size w w1→Calls Tryz.prog 32 #[.agg #[.int .i64 x,u0]] w1 fun e w'=>e=.returned (.bool (rightF x (val B64 xs)))∧Below w1.heap.size w1 w'):=Lib.hid (fun w1 hw=>rright_any x u0 xs w1 (k3.below hw) k4)
  dsimp only at k1 k2
  simp only [Nat.zero_mul,Nat.add_zero] at k1 k2
  have CL:Hid (∀ w1,Below w.heap.size w w1→w1.cell? ⟨b,off,none⟩=some (.int .i64 x)∧w1.cell? ⟨b,off+1,none⟩=some u0):=Lib.hid (fun w1 hw =>
    ⟨(hw.cell (p:=⟨b,off,none⟩) hlt).trans k1,(hw.cell (p:=⟨b,off+1,none⟩) hlt).trans k2⟩)
  obtain ⟨o0,c0,rfl⟩:=k3.shape
  generalize rightF x (val B64 xs)=r0 at *
  generalize xs.length=kx at *
  clear k1 k2 k3 k4 k5 hc hj hlt hW
  simp only [List.length_cons,List.length_nil] at *
  go_enter Tryz.func13,Tryz.ntmps13
  go_wp2_with fail
  refine (KI.out w).mono ?_
  rintro e w1 ⟨rfl,hw1⟩
  obtain rfl:w=w1:=hw1.symm
  go_wp2_with fail
  go_loopw [12] (fun i wr=>i=.int .i64 0∧w=wr) (fun _ _=>0)
  case atStart=>exact ⟨rfl,rfl⟩
  case round =>
    obtain ⟨rfl,rfl⟩:=hrel
    go_wp2_with fail
    go_quiet (fail)
    go_wp2_with fail
    go_loopw [13] (fun i wr=>∃ k:Nat,k≤1∧k≤j∧i=.int .i64 (k:Int)∧Below w.heap.size w wr) (fun i _=>1 - (intOf i).toNat)
    case atStart=>exact ⟨0,by omega,Nat.zero_le _,rfl,bdrawn (Below.refl _ _) _⟩
    case round =>
      obtain ⟨k,hk1,hk2,rfl,hb⟩:=hrel
      obtain ⟨z0,z1⟩:=CL.out _ hb
      have HB:=Lib.hid hb
      clear hb
      rcases (show k=0∨k=1 by omega) with rfl | rfl
      · go_wp2_with fail
        refine (R0.out _ HB.out).mono ?_
        rintro e w3 ⟨rfl,hb3⟩
        have H3:=Lib.hid (below_of HB.out hb3)
        clear hb3
        have hj:=HJ.out
        cases r0
        · have he:er=90:=by rcases hj with ⟨-,-,h⟩ | ⟨-,h,-⟩<;>first | exact h | cases h
          subst he
          clear hj
          go_wp2
          go_ret
          exact ⟨rfl,H3.out⟩
        · have hj1:1≤j:=by rcases hj with ⟨-,h,-⟩ | ⟨h,-⟩<;>first | omega | cases h
          clear hj
          go_wp2_with fail
          go_roundw
          case rel=>exact ⟨1,by omega,hj1,rfl,H3.out⟩
          case measure=>(simp [intOf]; try omega)
      · have hj:=HJ.out
        have hx:er=0:=by rcases hj with ⟨h,-⟩ | ⟨-,-,h⟩<;>first | omega | exact h
        clear hj
        subst hx
        have hwx:=hwx rfl
        go_wp2_with fail
        go_quiet (fail)
        go_wp2_with fail
        refine (HW.out (by decide) _ (bdrawn HB.out _)).mono ?_
        rintro e w4 ⟨rfl,hb4⟩
        have H4:=Lib.hid (below_of (bdrawn HB.out _) hb4)
        clear hb4
        go_wp2
        go_ret
        exact ⟨rfl,H4.out⟩
theorem check2_par (op:Int) (h1:64≤op) (h2:op≤67) (K:KindIs op 1 1) (av:Value) (x:Int) (xs:List Nat) (j:Nat) (er wx:Int) (w:World) (pv:Value) (p0:Int) (g00:0≤p0) (g01:p0≤4096) (hp:PaL w pv [p0]) (h:BvLX w av [(x,xs)])
    (hW:er≠90→∀ w1,Below w.heap.size w w1→Calls Tryz.prog 14 #[.int .i64 op,pv,av] w1 fun e w'=>e=.returned (.int .i64 wx)∧Below w1.heap.size w1 w')
    (hj:(j=0∧rightF x (val B64 xs)=false∧er=90)∨(j=1∧rightF x (val B64 xs)=true∧((4096<wx∧er=55)∨(wx≤4096∧er=0)))) :
    Calls Tryz.prog 13 #[.int .i64 op,pv,av,.int .i64 1] w fun e w'=>e=.returned (.int .i64 er)∧Below w.heap.size w w':=by
  have KI:=Lib.hid K
  have d42:(op == 42)=false:=beq_eq_false_iff_ne.2 (by omega)
  have d63:(op == 63)=false:=beq_eq_false_iff_ne.2 (by omega)
  have HJ:=Lib.hid hj
  have HW:=Lib.hid hW
  obtain ⟨po,pc,rfl,hpc⟩:=hp
  obtain ⟨pb,poff,rfl,hplt,hpc⟩:=hpc (by simp)
  have pc0:=hpc 0 p0 rfl
  rw [Nat.add_zero] at pc0
  have PCS:Hid (∀ w1,Below w.heap.size w w1→w1.cell? ⟨pb,poff,none⟩=some (.int .i64 p0)):=Lib.hid (fun w1 hw=>(hw.cell (p:=⟨pb,poff,none⟩) hplt).trans pc0)
  obtain ⟨ao,cap,rfl,hc⟩:=h
  obtain ⟨b,off,rfl,hlt,hc⟩:=hc (by simp)
  obtain ⟨u0,k1,k2,k3,k4,k5⟩:=hc 0 (x,xs) rfl
  have R0:Hid (∀ w1,Below w.heap.size w w1→Calls Tryz.prog 32 #[.agg #[.int .i64 x,u0]] w1 fun e w'=>e=.returned (.bool (rightF x (val B64 xs)))∧Below w1.heap.size w1 w'):=Lib.hid (fun w1 hw=>rright_any x u0 xs w1 (k3.below hw) k4)
  dsimp only at k1 k2
  simp only [Nat.zero_mul,Nat.add_zero] at k1 k2
  have CL:Hid (∀ w1,Below w.heap.size w w1→w1.cell? ⟨b,off,none⟩=some (.int .i64 x)∧w1.cell? ⟨b,off+1,none⟩=some u0):=Lib.hid (fun w1 hw =>
    ⟨(hw.cell (p:=⟨b,off,none⟩) hlt).trans k1,(hw.cell (p:=⟨b,off+1,none⟩) hlt).trans k2⟩)
  obtain ⟨o0,c0,rfl⟩:=k3.shape
  generalize rightF x (val B64 xs)=r0 at *
  generalize xs.length=kx at *
  clear k1 k2 k3 k4 k5 hc hj hlt hW hpc
  simp only [List.length_cons,List.length_nil] at *
  go_enter Tryz.func13,Tryz.ntmps13
  go_wp2_with fail
  refine (KI.out w).mono ?_
  rintro e w1 ⟨rfl,hw1⟩
  obtain rfl:w=w1:=hw1.symm
  go_wp2_with fail
  go_loopw [12] (fun i wr=>∃ k:Nat,k≤1∧i=.int .i64 (k:Int)∧w=wr) (fun i _=>1 - (intOf i).toNat)
  case atStart=>exact ⟨0,by omega,rfl,rfl⟩
  case round =>
    obtain ⟨k,hk,rfl,rfl⟩:=hrel
    rcases (show k=0∨k=1 by omega) with rfl | rfl
    · go_wp2_with fail
      go_roundw
      case rel=>exact ⟨1,by omega,rfl,(by first | rfl | trivial)⟩
      case measure=>simp [intOf]
    · try simp only [show ((1:Nat):Int)=1 from rfl]
      go_wp2_with fail
      go_quiet (fail)
      go_wp2_with fail
      go_loopw [13] (fun i wr=>∃ k:Nat,k≤1∧k≤j∧i=.int .i64 (k:Int)∧Below w.heap.size w wr) (fun i _=>1 - (intOf i).toNat)
      case atStart=>exact ⟨0,by omega,Nat.zero_le _,rfl,bdrawn (Below.refl _ _) _⟩
      case round =>
        obtain ⟨k,hk1,hk2,rfl,hb⟩:=hrel
        obtain ⟨z0,z1⟩:=CL.out _ hb
        have y0:=PCS.out _ hb
        have HB:=Lib.hid hb
        clear hb pc0
        rcases (show k=0∨k=1 by omega) with rfl | rfl
        · go_wp2_with fail
          refine (R0.out _ HB.out).mono ?_
          rintro e w3 ⟨rfl,hb3⟩
          have H3:=Lib.hid (below_of HB.out hb3)
          clear hb3
          have hj:=HJ.out
          cases r0
          · have he:er=90:=by rcases hj with ⟨-,-,h⟩ | ⟨-,h,-⟩<;>first | exact h | cases h
            subst he
            clear hj
            go_wp2
            go_ret
            exact ⟨rfl,H3.out⟩
          · have hj1:1≤j:=by rcases hj with ⟨-,h,-⟩ | ⟨h,-⟩<;>first | omega | cases h
            clear hj
            go_wp2_with fail
            go_roundw
            case rel=>exact ⟨1,by omega,hj1,rfl,H3.out⟩
            case measure=>(simp [intOf]; try omega)
        · have hj:=HJ.out
          have hx:(4096<wx∧er=55)∨(wx≤4096∧er=0):=by rcases hj with ⟨h,-⟩ | ⟨-,-,h⟩<;>first | omega | exact h
          clear hj
          rcases hx with ⟨hgt,rfl⟩ | ⟨hle,rfl⟩
          · go_wp2_with fail
            go_quiet (fail)
            go_wp2_with fail
            refine (HW.out (by decide) _ (bdrawn HB.out _)).mono ?_
            rintro e w4 ⟨rfl,hb4⟩
            have H4:=Lib.hid (below_of (bdrawn HB.out _) hb4)
            clear hb4
            go_wp2
            go_ret
            exact ⟨rfl,H4.out⟩
          · go_wp2_with fail
            go_quiet (fail)
            go_wp2_with fail
            refine (HW.out (by decide) _ (bdrawn HB.out _)).mono ?_
            rintro e w4 ⟨rfl,hb4⟩
            have H4:=Lib.hid (below_of (bdrawn HB.out _) hb4)
            clear hb4
            go_wp2
            go_ret
            exact ⟨rfl,H4.out⟩
theorem check2_63  (av:Value) (x:Int) (xs:List Nat) (j:Nat) (er wx:Int) (w:World) (pv:Value) (p0:Int) (g00:0≤p0) (g01:p0≤4096) (hp0:p0≠0) (hp:PaL w pv [p0]) (h:BvLX w av [(x,xs)])
    (hW:er≠90→∀ w1,Below w.heap.size w w1→Calls Tryz.prog 14 #[.int .i64 63,pv,av] w1 fun e w'=>e=.returned (.int .i64 wx)∧Below w1.heap.size w1 w')
    (hj:(j=0∧rightF x (val B64 xs)=false∧er=90)∨(j=1∧rightF x (val B64 xs)=true∧((4096<wx∧er=55)∨(wx≤4096∧er=0)))) :
    Calls Tryz.prog 13 #[.int .i64 63,pv,av,.int .i64 1] w fun e w'=>e=.returned (.int .i64 er)∧Below w.heap.size w w':=by
  have KI:=Lib.hid kind_63
  have dp0:(p0 == 0)=false:=beq_eq_false_iff_ne.2 hp0
  have HJ:=Lib.hid hj
  have HW:=Lib.hid hW
  obtain ⟨po,pc,rfl,hpc⟩:=hp
  obtain ⟨pb,poff,rfl,hplt,hpc⟩:=hpc (by simp)
  have pc0:=hpc 0 p0 rfl
  rw [Nat.add_zero] at pc0
  have PCS:Hid (∀ w1,Below w.heap.size w w1→w1.cell? ⟨pb,poff,none⟩=some (.int .i64 p0)):=Lib.hid (fun w1 hw=>(hw.cell (p:=⟨pb,poff,none⟩) hplt).trans pc0)
  obtain ⟨ao,cap,rfl,hc⟩:=h
  obtain ⟨b,off,rfl,hlt,hc⟩:=hc (by simp)
  obtain ⟨u0,k1,k2,k3,k4,k5⟩:=hc 0 (x,xs) rfl
  have R0:Hid (∀ w1,Below w.heap.size w w1→Calls Tryz.prog 32 #[.agg #[.int .i64 x,u0]] w1 fun e w'=>e=.returned (.bool (rightF x (val B64 xs)))∧Below w1.heap.size w1 w'):=Lib.hid (fun w1 hw=>rright_any x u0 xs w1 (k3.below hw) k4)
  dsimp only at k1 k2
  simp only [Nat.zero_mul,Nat.add_zero] at k1 k2
  have CL:Hid (∀ w1,Below w.heap.size w w1→w1.cell? ⟨b,off,none⟩=some (.int .i64 x)∧w1.cell? ⟨b,off+1,none⟩=some u0):=Lib.hid (fun w1 hw =>
    ⟨(hw.cell (p:=⟨b,off,none⟩) hlt).trans k1,(hw.cell (p:=⟨b,off+1,none⟩) hlt).trans k2⟩)
  obtain ⟨o0,c0,rfl⟩:=k3.shape
  generalize rightF x (val B64 xs)=r0 at *
  generalize xs.length=kx at *
  clear k1 k2 k3 k4 k5 hc hj hlt hW hpc
  simp only [List.length_cons,List.length_nil] at *
  go_enter Tryz.func13,Tryz.ntmps13
  go_wp2_with fail
  refine (KI.out w).mono ?_
  rintro e w1 ⟨rfl,hw1⟩
  obtain rfl:w=w1:=hw1.symm
  go_wp2_with fail
  go_loopw [12] (fun i wr=>∃ k:Nat,k≤1∧i=.int .i64 (k:Int)∧w=wr) (fun i _=>1 - (intOf i).toNat)
  case atStart=>exact ⟨0,by omega,rfl,rfl⟩
  case round =>
    obtain ⟨k,hk,rfl,rfl⟩:=hrel
    rcases (show k=0∨k=1 by omega) with rfl | rfl
    · go_wp2_with fail
      go_roundw
      case rel=>exact ⟨1,by omega,rfl,(by first | rfl | trivial)⟩
      case measure=>simp [intOf]
    · try simp only [show ((1:Nat):Int)=1 from rfl]
      go_wp2_with fail
      go_quiet (fail)
      go_wp2_with fail
      go_loopw [13] (fun i wr=>∃ k:Nat,k≤1∧k≤j∧i=.int .i64 (k:Int)∧Below w.heap.size w wr) (fun i _=>1 - (intOf i).toNat)
      case atStart=>exact ⟨0,by omega,Nat.zero_le _,rfl,bdrawn (Below.refl _ _) _⟩
      case round =>
        obtain ⟨k,hk1,hk2,rfl,hb⟩:=hrel
        obtain ⟨z0,z1⟩:=CL.out _ hb
        have y0:=PCS.out _ hb
        have HB:=Lib.hid hb
        clear hb pc0
        rcases (show k=0∨k=1 by omega) with rfl | rfl
        · go_wp2_with fail
          refine (R0.out _ HB.out).mono ?_
          rintro e w3 ⟨rfl,hb3⟩
          have H3:=Lib.hid (below_of HB.out hb3)
          clear hb3
          have hj:=HJ.out
          cases r0
          · have he:er=90:=by rcases hj with ⟨-,-,h⟩ | ⟨-,h,-⟩<;>first | exact h | cases h
            subst he
            clear hj
            go_wp2
            go_ret
            exact ⟨rfl,H3.out⟩
          · have hj1:1≤j:=by rcases hj with ⟨-,h,-⟩ | ⟨h,-⟩<;>first | omega | cases h
            clear hj
            go_wp2_with fail
            go_roundw
            case rel=>exact ⟨1,by omega,hj1,rfl,H3.out⟩
            case measure=>(simp [intOf]; try omega)
        · have hj:=HJ.out
          have hx:(4096<wx∧er=55)∨(wx≤4096∧er=0):=by rcases hj with ⟨h,-⟩ | ⟨-,-,h⟩<;>first | omega | exact h
          clear hj
          rcases hx with ⟨hgt,rfl⟩ | ⟨hle,rfl⟩
          · go_wp2_with fail
            go_quiet (fail)
            go_wp2_with fail
            refine (HW.out (by decide) _ (bdrawn HB.out _)).mono ?_
            rintro e w4 ⟨rfl,hb4⟩
            have H4:=Lib.hid (below_of (bdrawn HB.out _) hb4)
            clear hb4
            go_wp2
            go_ret
            exact ⟨rfl,H4.out⟩
          · go_wp2_with fail
            go_quiet (fail)
            go_wp2_with fail
            refine (HW.out (by decide) _ (bdrawn HB.out _)).mono ?_
            rintro e w4 ⟨rfl,hb4⟩
            have H4:=Lib.hid (below_of (bdrawn HB.out _) hb4)
            clear hb4
            go_wp2
            go_ret
            exact ⟨rfl,H4.out⟩
theorem check2_42  (av:Value) (x:Int) (xs:List Nat) (j:Nat) (er wx:Int) (w:World) (pv:Value) (p0 p1:Int) (g00:0≤p0) (g01:p0≤4096) (g10:0≤p1) (g11:p1≤4096) (hpq:p1≤p0) (hp:PaL w pv [p0,p1]) (h:BvLX w av [(x,xs)])
    (hW:er≠90→∀ w1,Below w.heap.size w w1→Calls Tryz.prog 14 #[.int .i64 42,pv,av] w1 fun e w'=>e=.returned (.int .i64 wx)∧Below w1.heap.size w1 w') (hwx:er=0→wx≤4096)
    (hj:(j=0∧rightF x (val B64 xs)=false∧er=90)∨(j=1∧rightF x (val B64 xs)=true∧((x≤p0∧er=55)∨(p0<x∧er=0)))) :
    Calls Tryz.prog 13 #[.int .i64 42,pv,av,.int .i64 1] w fun e w'=>e=.returned (.int .i64 er)∧Below w.heap.size w w':=by
  have KI:=Lib.hid kind_42
  have HJ:=Lib.hid hj
  have HW:=Lib.hid hW
  obtain ⟨po,pc,rfl,hpc⟩:=hp
  obtain ⟨pb,poff,rfl,hplt,hpc⟩:=hpc (by simp)
  have pc0:=hpc 0 p0 rfl
  have pc1:=hpc 1 p1 rfl
  rw [Nat.add_zero] at pc0
  have PCS:Hid (∀ w1,Below w.heap.size w w1→w1.cell? ⟨pb,poff,none⟩=some (.int .i64 p0)∧w1.cell? ⟨pb,poff+1,none⟩=some (.int .i64 p1)):=Lib.hid (fun w1 hw=>⟨(hw.cell (p:=⟨pb,poff,none⟩) hplt).trans pc0,(hw.cell (p:=⟨pb,poff+1,none⟩) hplt).trans pc1⟩)
  obtain ⟨ao,cap,rfl,hc⟩:=h
  obtain ⟨b,off,rfl,hlt,hc⟩:=hc (by simp)
  obtain ⟨u0,k1,k2,k3,k4,k5⟩:=hc 0 (x,xs) rfl
  have R0:Hid (∀ w1,Below w.heap.size w w1→Calls Tryz.prog 32 #[.agg #[.int .i64 x,u0]] w1 fun e w'=>e=.returned (.bool (rightF x (val B64 xs)))∧Below w1.heap.size w1 w'):=Lib.hid (fun w1 hw=>rright_any x u0 xs w1 (k3.below hw) k4)
  dsimp only at k1 k2
  simp only [Nat.zero_mul,Nat.add_zero] at k1 k2
  have CL:Hid (∀ w1,Below w.heap.size w w1→w1.cell? ⟨b,off,none⟩=some (.int .i64 x)∧w1.cell? ⟨b,off+1,none⟩=some u0):=Lib.hid (fun w1 hw =>
    ⟨(hw.cell (p:=⟨b,off,none⟩) hlt).trans k1,(hw.cell (p:=⟨b,off+1,none⟩) hlt).trans k2⟩)
  obtain ⟨o0,c0,rfl⟩:=k3.shape
  generalize rightF x (val B64 xs)=r0 at *
  generalize xs.length=kx at *
  clear k1 k2 k3 k4 k5 hc hj hlt hW hpc
  simp only [List.length_cons,List.length_nil] at *
  go_enter Tryz.func13,Tryz.ntmps13
  go_wp2_with fail
  refine (KI.out w).mono ?_
  rintro e w1 ⟨rfl,hw1⟩
  obtain rfl:w=w1:=hw1.symm
  go_wp2_with fail
  go_loopw [12] (fun i wr=>∃ k:Nat,k≤2∧i=.int .i64 (k:Int)∧w=wr) (fun i _=>2 - (intOf i).toNat)
  case atStart=>exact ⟨0,by omega,rfl,rfl⟩
  case round =>
    obtain ⟨k,hk,rfl,rfl⟩:=hrel
    rcases (show k=0∨k=1∨k=2 by omega) with rfl | rfl | rfl
    · go_wp2_with fail
      go_roundw
      case rel=>exact ⟨1,by omega,rfl,(by first | rfl | trivial)⟩
      case measure=>simp [intOf]
    · go_wp2_with fail
      go_roundw
      case rel=>exact ⟨2,by omega,rfl,(by first | rfl | trivial)⟩
      case measure=>simp [intOf]
    · try simp only [show ((2:Nat):Int)=2 from rfl]
      go_wp2_with fail
      go_quiet (fail)
      go_wp2_with fail
      go_loopw [13] (fun i wr=>∃ k:Nat,k≤1∧k≤j∧i=.int .i64 (k:Int)∧Below w.heap.size w wr) (fun i _=>1 - (intOf i).toNat)
      case atStart=>exact ⟨0,by omega,Nat.zero_le _,rfl,bdrawn (Below.refl _ _) _⟩
      case round =>
        obtain ⟨k,hk1,hk2,rfl,hb⟩:=hrel
        obtain ⟨z0,z1⟩:=CL.out _ hb
        obtain ⟨y0,y1⟩:=PCS.out _ hb
        have HB:=Lib.hid hb
        clear hb pc0 pc1
        rcases (show k=0∨k=1 by omega) with rfl | rfl
        · go_wp2_with fail
          refine (R0.out _ HB.out).mono ?_
          rintro e w3 ⟨rfl,hb3⟩
          have H3:=Lib.hid (below_of HB.out hb3)
          clear hb3
          have hj:=HJ.out
          cases r0
          · have he:er=90:=by rcases hj with ⟨-,-,h⟩ | ⟨-,h,-⟩<;>first | exact h | cases h
            subst he
            clear hj
            go_wp2
            go_ret
            exact ⟨rfl,H3.out⟩
          · have hj1:1≤j:=by rcases hj with ⟨-,h,-⟩ | ⟨h,-⟩<;>first | omega | cases h
            clear hj
            go_wp2_with fail
            go_roundw
            case rel=>exact ⟨1,by omega,hj1,rfl,H3.out⟩
            case measure=>(simp [intOf]; try omega)
        · have hj:=HJ.out
          have hx:(x≤p0∧er=55)∨(p0<x∧er=0):=by rcases hj with ⟨h,-⟩ | ⟨-,-,h⟩<;>first | omega | exact h
          clear hj
          rcases hx with ⟨hge,rfl⟩ | ⟨hlt2,rfl⟩
          · go_wp2_with fail
            go_quiet (fail)
            go_wp2
            go_ret
            exact ⟨rfl,bdrawn HB.out _⟩
          · have hwx:=hwx rfl
            go_wp2_with fail
            go_quiet (fail)
            go_wp2_with fail
            refine (HW.out (by decide) _ (bdrawn HB.out _)).mono ?_
            rintro e w4 ⟨rfl,hb4⟩
            have H4:=Lib.hid (below_of (bdrawn HB.out _) hb4)
            clear hb4
            go_wp2
            go_ret
            exact ⟨rfl,H4.out⟩
end Go.Proofs.YtacbkpenohcgjaaGreat
namespace Go.Proofs.YtacbkpenohcgjaaGreat
open Go.RowKit Mth
theorem width_same (op:Int) (h41:op≠41) (h42:op≠42) (h51:op≠51) (h63:op≠63) (h64:op≠64) (h65:op≠65) (pv av:Value) (L:List (Int × List Nat)) (x:Int) (xs:List Nat) (h0:L[0]?=some (x,xs)) (w:World) (h:BvLX w av L) :
    Calls Tryz.prog 14 #[.int .i64 op,pv,av] w fun e w'=>e=.returned (.int .i64 x)∧Below w.heap.size w w':=by
  have hl:0<L.length:=by rw [List.getElem?_eq_some_iff] at h0; exact h0.1
  obtain ⟨ao,cap,rfl,hc⟩:=h
  obtain ⟨b,off,rfl,hlt,hc⟩:=hc (fun e=>by rw [e] at hl; simp at hl)
  obtain ⟨u0,k1,-,-,-,-⟩:=hc 0 (x,xs) h0
  dsimp only at k1
  simp only [Nat.zero_mul,Nat.add_zero] at k1
  generalize L.length=m at *
  have d41:(op == 41)=false:=beq_eq_false_iff_ne.2 h41
  have d42:(op == 42)=false:=beq_eq_false_iff_ne.2 h42
  have d51:(op == 51)=false:=beq_eq_false_iff_ne.2 h51
  have d63:(op == 63)=false:=beq_eq_false_iff_ne.2 h63
  have d64:(op == 64)=false:=beq_eq_false_iff_ne.2 h64
  have d65:(op == 65)=false:=beq_eq_false_iff_ne.2 h65
  clear h41 h42 h51 h63 h64 h65 hc h0
  go_enter Tryz.func14,Tryz.ntmps14
  go_wp2
  go_ret
  exact ⟨rfl,Below.refl _ _⟩
theorem width_51 (pv av:Value) (L:List (Int × List Nat)) (x:Int) (xs:List Nat) (h0:L[0]?=some (x,xs)) (w:World) (h:BvLX w av L) :
    Calls Tryz.prog 14 #[.int .i64 51,pv,av] w fun e w'=>e=.returned (.int .i64 1)∧Below w.heap.size w w':=by
  have hl:0<L.length:=by rw [List.getElem?_eq_some_iff] at h0; exact h0.1
  obtain ⟨ao,cap,rfl,hc⟩:=h
  obtain ⟨b,off,rfl,hlt,hc⟩:=hc (fun e=>by rw [e] at hl; simp at hl)
  obtain ⟨u0,k1,-,-,-,-⟩:=hc 0 (x,xs) h0
  dsimp only at k1
  simp only [Nat.zero_mul,Nat.add_zero] at k1
  generalize L.length=m at *
  clear hc h0
  go_enter Tryz.func14,Tryz.ntmps14
  go_wp2
  go_ret
  exact ⟨rfl,Below.refl _ _⟩
theorem width_41 (pv av:Value) (x y:Int) (xs ys:List Nat) (h1:-8192≤x∧x≤8192) (h2:-8192≤y∧y≤8192) (w:World) (h:BvLX w av [(x,xs),(y,ys)]) :
    Calls Tryz.prog 14 #[.int .i64 41,pv,av] w fun e w'=>e=.returned (.int .i64 (x+y))∧Below w.heap.size w w':=by
  obtain ⟨ao,cap,rfl,hc⟩:=h
  obtain ⟨b,off,rfl,hlt,hc⟩:=hc (by simp)
  obtain ⟨u0,k1,-,-,-,-⟩:=hc 0 (x,xs) rfl
  obtain ⟨u1,l1,-,-,-,-⟩:=hc 1 (y,ys) rfl
  dsimp only at k1 l1
  simp only [Nat.zero_mul,Nat.add_zero,Nat.one_mul] at k1 l1
  simp only [List.length_cons,List.length_nil] at *
  have hwr:IntKind.i64.wrap (x+y)=x+y:=IntWalk.i64_in _ (by omega)
  clear hc
  go_enter Tryz.func14,Tryz.ntmps14
  go_wp2
  go_ret
  exact ⟨rfl,Below.refl _ _⟩
theorem width_42 (pv av:Value) (p0 p1:Int) (g0:0≤p0∧p0≤4096) (g1:0≤p1∧p1≤4096) (L:List (Int × List Nat)) (x:Int) (xs:List Nat) (h0:L[0]?=some (x,xs)) (w:World) (hp:PaL w pv [p0,p1]) (h:BvLX w av L) :
    Calls Tryz.prog 14 #[.int .i64 42,pv,av] w fun e w'=>e=.returned (.int .i64 (p0 - p1+1))∧Below w.heap.size w w':=by
  have hl:0<L.length:=by rw [List.getElem?_eq_some_iff] at h0; exact h0.1
  obtain ⟨ao,cap,rfl,hc⟩:=h
  obtain ⟨b,off,rfl,hlt,hc⟩:=hc (fun e=>by rw [e] at hl; simp at hl)
  obtain ⟨u0,k1,-,-,-,-⟩:=hc 0 (x,xs) h0
  dsimp only at k1
  simp only [Nat.zero_mul,Nat.add_zero] at k1
  obtain ⟨po,pc,rfl,hpc⟩:=hp
  obtain ⟨pb,poff,rfl,hplt,hpc⟩:=hpc (by simp)
  have pc0:=hpc 0 p0 rfl
  have pc1:=hpc 1 p1 rfl
  rw [Nat.add_zero] at pc0
  generalize L.length=m at *
  simp only [List.length_cons,List.length_nil] at *
  have hwr:IntKind.i64.wrap (p0 - p1)=p0 - p1:=IntWalk.i64_in _ (by omega)
  have hwr2:IntKind.i64.wrap (p0 - p1+1)=p0 - p1+1:=IntWalk.i64_in _ (by omega)
  clear hc hpc h0
  go_enter Tryz.func14,Tryz.ntmps14
  go_wp2_with fail
  go_region
  all_goals
    go_wp2
    go_ret
    exact ⟨rfl,bel_d (Below.refl _ _)⟩
theorem width_63 (pv av:Value) (p0:Int) (g0:0≤p0∧p0≤4096) (L:List (Int × List Nat)) (x:Int) (xs:List Nat) (h1:0≤x∧x≤4096) (h0:L[0]?=some (x,xs)) (w:World) (hp:PaL w pv [p0]) (h:BvLX w av L) :
    Calls Tryz.prog 14 #[.int .i64 63,pv,av] w fun e w'=>e=.returned (.int .i64 (x*p0))∧Below w.heap.size w w':=by
  have hl:0<L.length:=by rw [List.getElem?_eq_some_iff] at h0; exact h0.1
  obtain ⟨ao,cap,rfl,hc⟩:=h
  obtain ⟨b,off,rfl,hlt,hc⟩:=hc (fun e=>by rw [e] at hl; simp at hl)
  obtain ⟨u0,k1,-,-,-,-⟩:=hc 0 (x,xs) h0
  dsimp only at k1
  simp only [Nat.zero_mul,Nat.add_zero] at k1
  obtain ⟨po,pc,rfl,hpc⟩:=hp
  obtain ⟨pb,poff,rfl,hplt,hpc⟩:=hpc (by simp)
  have pc0:=hpc 0 p0 rfl
  rw [Nat.add_zero] at pc0
  generalize L.length=m at *
  simp only [List.length_cons,List.length_nil] at *
  have hm1:x*p0≤4096*4096:=Int.mul_le_mul h1.2 g0.2 g0.1 (by omega)
  have hm0:0≤x*p0:=Int.mul_nonneg h1.1 g0.1
  have hwr:IntKind.i64.wrap (x*p0)=x*p0:=IntWalk.i64_in _ (by omega)
  clear hc hpc h0
  go_enter Tryz.func14,Tryz.ntmps14
  go_wp2
  go_ret
  exact ⟨rfl,Below.refl _ _⟩
theorem width_64 (pv av:Value) (p0:Int) (g0:0≤p0∧p0≤4096) (L:List (Int × List Nat)) (x:Int) (xs:List Nat) (h1:0≤x∧x≤4096) (h0:L[0]?=some (x,xs)) (w:World) (hp:PaL w pv [p0]) (h:BvLX w av L) :
    Calls Tryz.prog 14 #[.int .i64 64,pv,av] w fun e w'=>e=.returned (.int .i64 (x+p0))∧Below w.heap.size w w':=by
  have hl:0<L.length:=by rw [List.getElem?_eq_some_iff] at h0; exact h0.1
  obtain ⟨ao,cap,rfl,hc⟩:=h
  obtain ⟨b,off,rfl,hlt,hc⟩:=hc (fun e=>by rw [e] at hl; simp at hl)
  obtain ⟨u0,k1,-,-,-,-⟩:=hc 0 (x,xs) h0
  dsimp only at k1
  simp only [Nat.zero_mul,Nat.add_zero] at k1
  obtain ⟨po,pc,rfl,hpc⟩:=hp
  obtain ⟨pb,poff,rfl,hplt,hpc⟩:=hpc (by simp)
  have pc0:=hpc 0 p0 rfl
  rw [Nat.add_zero] at pc0
  generalize L.length=m at *
  simp only [List.length_cons,List.length_nil] at *
  have hwr:IntKind.i64.wrap (x+p0)=x+p0:=IntWalk.i64_in _ (by omega)
  clear hc hpc h0
  go_enter Tryz.func14,Tryz.ntmps14
  go_wp2
  go_ret
  exact ⟨rfl,Below.refl _ _⟩
theorem width_65 (pv av:Value) (p0:Int) (g0:0≤p0∧p0≤4096) (L:List (Int × List Nat)) (x:Int) (xs:List Nat) (h1:0≤x∧x≤4096) (h0:L[0]?=some (x,xs)) (w:World) (hp:PaL w pv [p0]) (h:BvLX w av L) :
    Calls Tryz.prog 14 #[.int .i64 65,pv,av] w fun e w'=>e=.returned (.int .i64 (x+p0))∧Below w.heap.size w w':=by
  have hl:0<L.length:=by rw [List.getElem?_eq_some_iff] at h0; exact h0.1
  obtain ⟨ao,cap,rfl,hc⟩:=h
  obtain ⟨b,off,rfl,hlt,hc⟩:=hc (fun e=>by rw [e] at hl; simp at hl)
  obtain ⟨u0,k1,-,-,-,-⟩:=hc 0 (x,xs) h0
  dsimp only at k1
  simp only [Nat.zero_mul,Nat.add_zero] at k1
  obtain ⟨po,pc,rfl,hpc⟩:=hp
  obtain ⟨pb,poff,rfl,hplt,hpc⟩:=hpc (by simp)
  have pc0:=hpc 0 p0 rfl
  rw [Nat.add_zero] at pc0
  generalize L.length=m at *
  simp only [List.length_cons,List.length_nil] at *
  have hwr:IntKind.i64.wrap (x+p0)=x+p0:=IntWalk.i64_in _ (by omega)
  clear hc hpc h0
  go_enter Tryz.func14,Tryz.ntmps14
  go_wp2
  go_ret
  exact ⟨rfl,Below.refl _ _⟩
theorem least_any (a b:Nat) (w:World):Calls Tryz.prog 35 #[.int .i64 (a:Int),.int .i64 (b:Int)] w fun e w'=>e=.returned (.int .i64 ((if a<b then a else b:Nat):Int))∧Below w.heap.size w w':=by
  by_cases h:a<b
  · rw [if_pos h]
    have h':(a:Int)<(b:Int):=by omega
    clear h
    go_enter Tryz.func35,Tryz.ntmps35
    go_wp2
    go_ret
    exact ⟨rfl,Below.refl _ _⟩
  · rw [if_neg h]
    have h':¬ (a:Int)<(b:Int):=by omega
    clear h
    go_enter Tryz.func35,Tryz.ntmps35
    go_wp2
    go_ret
    exact ⟨rfl,Below.refl _ _⟩
end Go.Proofs.YtacbkpenohcgjaaGreat
