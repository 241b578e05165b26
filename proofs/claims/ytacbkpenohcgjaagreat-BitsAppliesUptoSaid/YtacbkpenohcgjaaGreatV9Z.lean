import Derived.Test.YtacbkpenohcgjaaGreatVNY9
import Derived.Test.YtacbkpenohcgjaaGreatV9M
import Derived.Test.YtacbkpenohcgjaaGreatVN5
import Derived.Test.YtacbkpenohcgjaaGreatVN3
set_option linter.unusedVariables false
set_option linter.unusedSimpArgs false
set_option maxHeartbeats 8000000
set_option maxRecDepth 100000
namespace Go.Proofs.YtacbkpenohcgjaaGreat
open Go.RowKit Mth
theorem applies9_walk (op:Int) (pv av:Value) (ps:List Int) (L:List (Int × List Nat)) (w:World) (hp:PaL w pv ps∧ps.length≤1048576) (ha:BvLX w av L∧L.length≤1048576):Calls Tryz.prog 3 #[.int .i64 op,pv,av] w fun e w'=>e=.returned (.bool true)∧Below w.heap.size w w':=by
  obtain ⟨x,er,n,P⟩:=both_apply op ps L
  have P1:=Lib.hid ((P pv av w hp.1 ha.1).1)
  have P2:Hid (∀ w1,Below w.heap.size w w1→Calls Tryz.prog 6 #[.int .i64 op,pv,av] w1 fun e w'=>ResN w1 w' e x er n):=Lib.hid (fun w1 hw=>(P pv av w1 (hp.1.below hw) (ha.1.below hw)).2)
  have de:(er == er)=true:=beq_self_eq_true er
  obtain ⟨po,pn,pc,rfl⟩:=hp.1.shape
  obtain ⟨ao,ak,ac,rfl⟩:=ha.1.sl
  clear P hp ha
  go_enter Tryz.func3,Tryz.ntmps3
  go_wp2_with fail
  refine P1.out.mono ?_
  rintro e w1 ⟨a1,k1,c1,rfl,hs1,-,hb1⟩
  obtain ⟨V1,eV1,gV,bV,-⟩:=alloc1n w1 (Obj.cells #[.int .i64 x,.slice a1 k1 c1] 28)
  have S1:=Lib.hid (hs1.below bV); have B1:=Lib.hid (below_of hb1 bV); have G1:=Lib.hid gV; have E1:=Lib.hid eV1
  clear hs1 hb1 gV bV eV1
  go_upto_region 2 with fail
  rw [E1.out]
  go_wp2_with fail
  refine (P2.out _ B1.out).mono ?_
  rintro e w2 ⟨a2,k2,c2,rfl,hs2,hb2⟩
  obtain ⟨V2,eV2,gV,bV,-⟩:=alloc1n w2 (Obj.cells #[.int .i64 x,.slice a2 k2 c2] 28)
  have S2:=Lib.hid (hs2.below bV); have S1':=Lib.hid (S1.out.below (below_to9 bV hb2)); have B2:=Lib.hid (below_of B1.out (below_to9 bV hb2)); have G2:=Lib.hid gV; have G1':=Lib.hid (car bV (car hb2 G1.out)); have E2:=Lib.hid eV2
  clear hs2 hb2 gV bV eV2
  go_upto_region 3 with fail
  rw [E2.out]
  obtain ⟨p0,p1,-,-,_⟩:=blk2 G1'.out
  obtain ⟨q0,q1,-,-,_⟩:=blk2 G2.out
  go_wp2_with fail
  refine (sameN S1'.out S2.out).mono ?_
  rintro e w3 ⟨rfl,hb⟩
  have B3:=Lib.hid (below_of B2.out hb)
  clear hb p0 p1 q0 q1
  go_wp2_with fail
  refine (alive9 _).mono ?_
  rintro e w4 ⟨rfl,hb⟩
  have B4:=Lib.hid (below_of B3.out hb)
  clear hb
  go_wp2
  go_ret
  exact ⟨rfl,B4.out⟩
end Go.Proofs.YtacbkpenohcgjaaGreat
