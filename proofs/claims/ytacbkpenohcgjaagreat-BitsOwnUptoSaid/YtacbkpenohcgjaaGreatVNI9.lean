import Derived.Test.YtacbkpenohcgjaaGreatVN3
set_option linter.unusedVariables false
set_option linter.unusedSimpArgs false
set_option maxHeartbeats 8000000
set_option maxRecDepth 100000
namespace Go.Proofs.YtacbkpenohcgjaaGreat
open Go.RowKit Mth
theorem fault_n_51 (n:Int) (d:Value) (f:Nat) (hd:d.oneCell'=true) (mx:Bool) (pv av:Value) (w:World) (hpv:∃ po pn pc,pv=.slice po pn pc) (ao:Option Addr) (ak ac:Nat) (hav:av=.slice ao ak ac) (hne:(ak:Int)≠n) :
    Calls Tryz.prog 10 #[.agg #[.int .i64 n,.nilFunc,.bool mx,d,.func (.func f) #[] #[]],.agg #[pv,av]] w fun e w'=>e=.returned (.int .i64 51)∧Below w.heap.size w w':=by
  obtain ⟨po,pn,pc,rfl⟩:=hpv
  subst hav
  obtain ⟨W,eW,g1,g2,bel,hsz⟩:=alloc2 w (Obj.cells #[.int .i64 n,.nilFunc,.bool mx,d,.func (.func f) #[] #[]] 42) (Obj.cells #[.slice po pn pc,.slice ao ak ac] 46)
  have G1:=Lib.hid g1; have G2:=Lib.hid g2; have BL:=Lib.hid bel
  obtain ⟨c0,c1,c2,c3,c4⟩:=blk5o g1
  obtain ⟨q0,q1,r0,r1,_⟩:=blk2 g2
  have d1:((ak:Int) != n)=true:=bne_iff_ne.2 hne
  have hbn:∀ W,Sem.run Tryz.prog (binOp BinOp.neq 38 Value.nilFunc Value.nilFunc) W=.ok (.bool false) W:=fun W=>by kernel_rfl
  have hfl:=field0_bits
  clear g1 g2 bel hne
  go_enter Tryz.func10,Tryz.ntmps10
  go_wp2_with fail
  try rw [eW]
  go_wp2
  go_ret
  exact ⟨rfl,BL.out⟩
theorem fault_p_51 (n:Int) (d:Value) (f:Nat) (hd:d.oneCell'=true) (pf:Nat) (hcf:∀ args W,(callFunc pf args).run Tryz.prog W=.ok (.enter pf args) W) (mx:Bool) (pv av:Value) (w:World) (hpv:∃ po pn pc,pv=.slice po pn pc) (ao:Option Addr) (ak ac:Nat) (hav:av=.slice ao ak ac) (hne:(ak:Int)≠n) :
    Calls Tryz.prog 10 #[.agg #[.int .i64 n,.func (.func pf) #[] #[],.bool mx,d,.func (.func f) #[] #[]],.agg #[pv,av]] w fun e w'=>e=.returned (.int .i64 51)∧Below w.heap.size w w':=by
  obtain ⟨po,pn,pc,rfl⟩:=hpv
  subst hav
  obtain ⟨W,eW,g1,g2,bel,hsz⟩:=alloc2 w (Obj.cells #[.int .i64 n,.func (.func pf) #[] #[],.bool mx,d,.func (.func f) #[] #[]] 42) (Obj.cells #[.slice po pn pc,.slice ao ak ac] 46)
  have G1:=Lib.hid g1; have G2:=Lib.hid g2; have BL:=Lib.hid bel
  obtain ⟨c0,c1,c2,c3,c4⟩:=blk5o g1
  obtain ⟨q0,q1,r0,r1,_⟩:=blk2 g2
  have d1:((ak:Int) != n)=true:=bne_iff_ne.2 hne
  have hbn:∀ W,Sem.run Tryz.prog (binOp BinOp.neq 38 (Value.func (Fn.func pf) #[] #[]) Value.nilFunc) W=.ok (.bool true) W:=fun W=>by kernel_rfl
  have hfl:=field0_bits
  clear g1 g2 bel hne
  go_enter Tryz.func10,Tryz.ntmps10
  go_wp2_with fail
  try rw [eW]
  go_wp2
  go_ret
  exact ⟨rfl,BL.out⟩
theorem fault_p_53 (n:Int) (d:Value) (f:Nat) (hd:d.oneCell'=true) (pf:Nat) (hcf:∀ args W,(callFunc pf args).run Tryz.prog W=.ok (.enter pf args) W) (mx:Bool) (pv av:Value) (w:World) (hpv:∃ po pn pc,pv=.slice po pn pc) (ao:Option Addr) (ak ac:Nat) (hav:av=.slice ao ak ac) (hne:(ak:Int)=n) (hP:∀ w1,Below w.heap.size w w1→Calls Tryz.prog pf #[pv] w1 fun e w'=>e=.returned (.bool false)∧Below w1.heap.size w1 w') :
    Calls Tryz.prog 10 #[.agg #[.int .i64 n,.func (.func pf) #[] #[],.bool mx,d,.func (.func f) #[] #[]],.agg #[pv,av]] w fun e w'=>e=.returned (.int .i64 53)∧Below w.heap.size w w':=by
  obtain ⟨po,pn,pc,rfl⟩:=hpv
  subst hav
  obtain ⟨W,eW,g1,g2,bel,hsz⟩:=alloc2 w (Obj.cells #[.int .i64 n,.func (.func pf) #[] #[],.bool mx,d,.func (.func f) #[] #[]] 42) (Obj.cells #[.slice po pn pc,.slice ao ak ac] 46)
  have G1:=Lib.hid g1; have G2:=Lib.hid g2; have BL:=Lib.hid bel
  obtain ⟨c0,c1,c2,c3,c4⟩:=blk5o g1
  obtain ⟨q0,q1,r0,r1,_⟩:=blk2 g2
  subst hne
  have d1:((ak:Int) != (ak:Int))=false:=bne_self_eq_false _
  have HP:Hid (∀ w1,Below W.heap.size W w1→_):=Lib.hid (fun w1 h=>hP w1 (below_of bel h))
  have hbn:∀ W,Sem.run Tryz.prog (binOp BinOp.neq 38 (Value.func (Fn.func pf) #[] #[]) Value.nilFunc) W=.ok (.bool true) W:=fun W=>by kernel_rfl
  have hfl:=field0_bits
  clear g1 g2 bel hP
  go_enter Tryz.func10,Tryz.ntmps10
  go_wp2_with fail
  try rw [eW]
  refine (HP.out _ (Below.refl _ _)).mono ?_
  rintro e u1 ⟨rfl,hb⟩
  have B1:=Lib.hid (below_of (Below.refl _ _) hb)
  have GA1:=Lib.hid (car hb G1.out); have GB1:=Lib.hid (car hb G2.out)
  clear c0 c1 c2 c3 c4 q0 q1 r0 r1
  obtain ⟨x10,x11,x12,x13,x14⟩:=blk5o GA1.out
  obtain ⟨y10,y11,-,-,_⟩:=blk2 GB1.out
  clear hb
  go_wp2
  go_ret
  exact ⟨rfl,below_of BL.out B1.out⟩
theorem fault_n_90 (n:Int) (d:Value) (f:Nat) (hd:d.oneCell'=true) (mx:Bool) (pv av:Value) (w:World) (hpv:∃ po pn pc,pv=.slice po pn pc) (ao:Option Addr) (ak ac:Nat) (hav:av=.slice ao ak ac) (hne:(ak:Int)=n) (hR:∀ w1,Below w.heap.size w w1→Calls Tryz.prog 24 #[av] w1 fun e w'=>e=.returned (.bool false)∧Below w1.heap.size w1 w') :
    Calls Tryz.prog 10 #[.agg #[.int .i64 n,.nilFunc,.bool mx,d,.func (.func f) #[] #[]],.agg #[pv,av]] w fun e w'=>e=.returned (.int .i64 90)∧Below w.heap.size w w':=by
  obtain ⟨po,pn,pc,rfl⟩:=hpv
  subst hav
  obtain ⟨W,eW,g1,g2,bel,hsz⟩:=alloc2 w (Obj.cells #[.int .i64 n,.nilFunc,.bool mx,d,.func (.func f) #[] #[]] 42) (Obj.cells #[.slice po pn pc,.slice ao ak ac] 46)
  have G1:=Lib.hid g1; have G2:=Lib.hid g2; have BL:=Lib.hid bel
  obtain ⟨c0,c1,c2,c3,c4⟩:=blk5o g1
  obtain ⟨q0,q1,r0,r1,_⟩:=blk2 g2
  subst hne
  have d1:((ak:Int) != (ak:Int))=false:=bne_self_eq_false _
  have HR:Hid (∀ w1,Below W.heap.size W w1→_):=Lib.hid (fun w1 h=>hR w1 (below_of bel h))
  have hbn:∀ W,Sem.run Tryz.prog (binOp BinOp.neq 38 Value.nilFunc Value.nilFunc) W=.ok (.bool false) W:=fun W=>by kernel_rfl
  have hfl:=field0_bits
  clear g1 g2 bel hR
  go_enter Tryz.func10,Tryz.ntmps10
  go_wp2_with fail
  try rw [eW]
  refine (HR.out _ (Below.refl _ _)).mono ?_
  rintro e u1 ⟨rfl,hb⟩
  have B1:=Lib.hid (below_of (Below.refl _ _) hb)
  have GA1:=Lib.hid (car hb G1.out); have GB1:=Lib.hid (car hb G2.out)
  clear c0 c1 c2 c3 c4 q0 q1 r0 r1
  obtain ⟨x10,x11,x12,x13,x14⟩:=blk5o GA1.out
  obtain ⟨y10,y11,-,-,_⟩:=blk2 GB1.out
  clear hb
  go_wp2
  go_ret
  exact ⟨rfl,below_of BL.out B1.out⟩
theorem fault_p_90 (n:Int) (d:Value) (f:Nat) (hd:d.oneCell'=true) (pf:Nat) (hcf:∀ args W,(callFunc pf args).run Tryz.prog W=.ok (.enter pf args) W) (mx:Bool) (pv av:Value) (w:World) (hpv:∃ po pn pc,pv=.slice po pn pc) (ao:Option Addr) (ak ac:Nat) (hav:av=.slice ao ak ac) (hne:(ak:Int)=n) (hP:∀ w1,Below w.heap.size w w1→Calls Tryz.prog pf #[pv] w1 fun e w'=>e=.returned (.bool true)∧Below w1.heap.size w1 w') (hR:∀ w1,Below w.heap.size w w1→Calls Tryz.prog 24 #[av] w1 fun e w'=>e=.returned (.bool false)∧Below w1.heap.size w1 w') :
    Calls Tryz.prog 10 #[.agg #[.int .i64 n,.func (.func pf) #[] #[],.bool mx,d,.func (.func f) #[] #[]],.agg #[pv,av]] w fun e w'=>e=.returned (.int .i64 90)∧Below w.heap.size w w':=by
  obtain ⟨po,pn,pc,rfl⟩:=hpv
  subst hav
  obtain ⟨W,eW,g1,g2,bel,hsz⟩:=alloc2 w (Obj.cells #[.int .i64 n,.func (.func pf) #[] #[],.bool mx,d,.func (.func f) #[] #[]] 42) (Obj.cells #[.slice po pn pc,.slice ao ak ac] 46)
  have G1:=Lib.hid g1; have G2:=Lib.hid g2; have BL:=Lib.hid bel
  obtain ⟨c0,c1,c2,c3,c4⟩:=blk5o g1
  obtain ⟨q0,q1,r0,r1,_⟩:=blk2 g2
  subst hne
  have d1:((ak:Int) != (ak:Int))=false:=bne_self_eq_false _
  have HP:Hid (∀ w1,Below W.heap.size W w1→_):=Lib.hid (fun w1 h=>hP w1 (below_of bel h))
  have HR:Hid (∀ w1,Below W.heap.size W w1→_):=Lib.hid (fun w1 h=>hR w1 (below_of bel h))
  have hbn:∀ W,Sem.run Tryz.prog (binOp BinOp.neq 38 (Value.func (Fn.func pf) #[] #[]) Value.nilFunc) W=.ok (.bool true) W:=fun W=>by kernel_rfl
  have hfl:=field0_bits
  clear g1 g2 bel hP hR
  go_enter Tryz.func10,Tryz.ntmps10
  go_wp2_with fail
  try rw [eW]
  refine (HP.out _ (Below.refl _ _)).mono ?_
  rintro e u1 ⟨rfl,hb⟩
  have B1:=Lib.hid (below_of (Below.refl _ _) hb)
  have GA1:=Lib.hid (car hb G1.out); have GB1:=Lib.hid (car hb G2.out)
  clear c0 c1 c2 c3 c4 q0 q1 r0 r1
  obtain ⟨x10,x11,x12,x13,x14⟩:=blk5o GA1.out
  obtain ⟨y10,y11,-,-,_⟩:=blk2 GB1.out
  clear hb
  go_wp2_with fail
  try rw [eW]
  refine (HR.out _ B1.out).mono ?_
  rintro e u2 ⟨rfl,hb⟩
  have B2:=Lib.hid (below_of B1.out hb)
  have GA2:=Lib.hid (car hb GA1.out); have GB2:=Lib.hid (car hb GB1.out)
  clear x10 x11 x12 x13 x14 y10 y11
  obtain ⟨x20,x21,x22,x23,x24⟩:=blk5o GA2.out
  obtain ⟨y20,y21,-,-,_⟩:=blk2 GB2.out
  clear hb
  go_wp2
  go_ret
  exact ⟨rfl,below_of BL.out B2.out⟩
end Go.Proofs.YtacbkpenohcgjaaGreat
namespace Go.Proofs.YtacbkpenohcgjaaGreat
open Go.RowKit Mth
theorem fault_n_52 (n:Int) (d:Value) (f:Nat) (hd:d.oneCell'=true) (pv av:Value) (w:World) (hpv:∃ po pn pc,pv=.slice po pn pc) (ao:Option Addr) (ak ac:Nat) (hav:av=.slice ao ak ac) (hne:(ak:Int)=n) (hR:∀ w1,Below w.heap.size w w1→Calls Tryz.prog 24 #[av] w1 fun e w'=>e=.returned (.bool true)∧Below w1.heap.size w1 w') (wd wd' i j:Nat) (hF:∀ w1,Below w.heap.size w w1→Calls Tryz.prog 25 #[.agg #[pv,av]] w1 fun e w'=>∃ v',e=.returned v'∧BvV w' v' wd i∧Below w1.heap.size w1 w') (hL:∀ w1,Below w.heap.size w w1→Calls Tryz.prog 26 #[.agg #[pv,av]] w1 fun e w'=>∃ v',e=.returned v'∧BvV w' v' wd' j∧Below w1.heap.size w1 w') (hww:wd≠wd') :
    Calls Tryz.prog 10 #[.agg #[.int .i64 n,.nilFunc,.bool false,d,.func (.func f) #[] #[]],.agg #[pv,av]] w fun e w'=>e=.returned (.int .i64 52)∧Below w.heap.size w w':=by
  obtain ⟨po,pn,pc,rfl⟩:=hpv
  subst hav
  obtain ⟨W,eW,g1,g2,bel,hsz⟩:=alloc2 w (Obj.cells #[.int .i64 n,.nilFunc,.bool false,d,.func (.func f) #[] #[]] 42) (Obj.cells #[.slice po pn pc,.slice ao ak ac] 46)
  have G1:=Lib.hid g1; have G2:=Lib.hid g2; have BL:=Lib.hid bel
  obtain ⟨c0,c1,c2,c3,c4⟩:=blk5o g1
  obtain ⟨q0,q1,r0,r1,_⟩:=blk2 g2
  subst hne
  have d1:((ak:Int) != (ak:Int))=false:=bne_self_eq_false _
  have HR:Hid (∀ w1,Below W.heap.size W w1→_):=Lib.hid (fun w1 h=>hR w1 (below_of bel h))
  have HF:Hid (∀ w1,Below W.heap.size W w1→_):=Lib.hid (fun w1 h=>hF w1 (below_of bel h))
  have HL:Hid (∀ w1,Below W.heap.size W w1→_):=Lib.hid (fun w1 h=>hL w1 (below_of bel h))
  have dd:((wd:Int) != (wd':Int))=true:=bne_iff_ne.2 (by omega)
  have hbn:∀ W,Sem.run Tryz.prog (binOp BinOp.neq 38 Value.nilFunc Value.nilFunc) W=.ok (.bool false) W:=fun W=>by kernel_rfl
  have hfl:=field0_bits
  clear g1 g2 bel hR hF hL hww
  go_enter Tryz.func10,Tryz.ntmps10
  go_wp2_with fail
  try rw [eW]
  refine (HR.out _ (Below.refl _ _)).mono ?_
  rintro e u1 ⟨rfl,hb⟩
  have B1:=Lib.hid (below_of (Below.refl _ _) hb)
  have GA1:=Lib.hid (car hb G1.out); have GB1:=Lib.hid (car hb G2.out)
  clear c0 c1 c2 c3 c4 q0 q1 r0 r1
  obtain ⟨x10,x11,x12,x13,x14⟩:=blk5o GA1.out
  obtain ⟨y10,y11,-,-,_⟩:=blk2 GB1.out
  clear hb
  go_wp2_with fail
  go_region_with (first
    | (go_at_call 25; refine Calls.mono (HF.out _ ?_) ?_; (first | exact B1.out | exact B1.out.drew); rintro e w3 ⟨v3,rfl,hv3,hb3⟩; have hb3':Below u1.heap.size u1 w3:=(by first | exact hb3 | exact bel_d hb3); obtain ⟨u3,xs3,rfl,s3,-⟩:=hv3; obtain ⟨a3,k3,rfl⟩:=s3.shape; have BB3:=Lib.hid (below_of B1.out hb3'); have GA3':=Lib.hid (car hb3' GA1.out); have GB3':=Lib.hid (car hb3' GB1.out); obtain ⟨z0',z1',z2',z3',z4'⟩:=blk5o GA3'.out; obtain ⟨t0',t1',-,-,_⟩:=blk2 GB3'.out; clear hb3 hb3' s3)
    | (go_at_call 26; refine Calls.mono (HL.out _ ?_) ?_; (exact BB3.out); rintro e w4 ⟨v4,rfl,hv4,hb4⟩; obtain ⟨u4,xs4,rfl,s4,-⟩:=hv4; obtain ⟨a4,k4,rfl⟩:=s4.shape; have BB4:=Lib.hid (below_of BB3.out hb4); have GA4':=Lib.hid (car hb4 GA3'.out); have GB4':=Lib.hid (car hb4 GB3'.out); obtain ⟨z0'',z1'',z2'',z3'',z4''⟩:=blk5o GA4'.out; obtain ⟨t0'',t1'',-,-,_⟩:=blk2 GB4'.out; clear hb4 s4))
  all_goals
    go_wp2
    go_ret
    exact ⟨rfl,below_of BL.out (BB4.out)⟩
theorem fault_n_0 (n:Int) (d:Value) (f:Nat) (hd:d.oneCell'=true) (pv av:Value) (w:World) (hpv:∃ po pn pc,pv=.slice po pn pc) (ao:Option Addr) (ak ac:Nat) (hav:av=.slice ao ak ac) (hne:(ak:Int)=n) (hR:∀ w1,Below w.heap.size w w1→Calls Tryz.prog 24 #[av] w1 fun e w'=>e=.returned (.bool true)∧Below w1.heap.size w1 w') (wd wd' i j:Nat) (hF:∀ w1,Below w.heap.size w w1→Calls Tryz.prog 25 #[.agg #[pv,av]] w1 fun e w'=>∃ v',e=.returned v'∧BvV w' v' wd i∧Below w1.heap.size w1 w') (hL:∀ w1,Below w.heap.size w w1→Calls Tryz.prog 26 #[.agg #[pv,av]] w1 fun e w'=>∃ v',e=.returned v'∧BvV w' v' wd' j∧Below w1.heap.size w1 w') (hww:wd=wd') (x:Int) (hx:isW x=true) (hW:∀ w1,Below w.heap.size w w1→Calls Tryz.prog 12 #[.agg #[.int .i64 n,.nilFunc,.bool false,d,.func (.func f) #[] #[]],.agg #[pv,av]] w1 fun e w'=>e=.returned (.int .i64 x)∧Below w1.heap.size w1 w') :
    Calls Tryz.prog 10 #[.agg #[.int .i64 n,.nilFunc,.bool false,d,.func (.func f) #[] #[]],.agg #[pv,av]] w fun e w'=>e=.returned (.int .i64 0)∧Below w.heap.size w w':=by
  obtain ⟨po,pn,pc,rfl⟩:=hpv
  subst hav
  obtain ⟨W,eW,g1,g2,bel,hsz⟩:=alloc2 w (Obj.cells #[.int .i64 n,.nilFunc,.bool false,d,.func (.func f) #[] #[]] 42) (Obj.cells #[.slice po pn pc,.slice ao ak ac] 46)
  have G1:=Lib.hid g1; have G2:=Lib.hid g2; have BL:=Lib.hid bel
  obtain ⟨c0,c1,c2,c3,c4⟩:=blk5o g1
  obtain ⟨q0,q1,r0,r1,_⟩:=blk2 g2
  subst hne
  have d1:((ak:Int) != (ak:Int))=false:=bne_self_eq_false _
  have HR:Hid (∀ w1,Below W.heap.size W w1→_):=Lib.hid (fun w1 h=>hR w1 (below_of bel h))
  have HF:Hid (∀ w1,Below W.heap.size W w1→_):=Lib.hid (fun w1 h=>hF w1 (below_of bel h))
  have HL:Hid (∀ w1,Below W.heap.size W w1→_):=Lib.hid (fun w1 h=>hL w1 (below_of bel h))
  subst hww
  have dd:((wd:Int) != (wd:Int))=false:=bne_self_eq_false _
  have HW:Hid (∀ w1,Below W.heap.size W w1→_):=Lib.hid (fun w1 h=>hW w1 (below_of bel h))
  have IW:Hid (∀ w1,Calls Tryz.prog 27 #[.int .i64 x] w1 fun e w'=>e=.returned (.bool true)∧w'=w1):=Lib.hid (fun w1=>by
    have h:=isWidth_any x w1
    rw [hx] at h
    exact h)
  have hbn:∀ W,Sem.run Tryz.prog (binOp BinOp.neq 38 Value.nilFunc Value.nilFunc) W=.ok (.bool false) W:=fun W=>by kernel_rfl
  have hfl:=field0_bits
  clear g1 g2 bel hR hF hL hW hx
  go_enter Tryz.func10,Tryz.ntmps10
  go_wp2_with fail
  try rw [eW]
  refine (HR.out _ (Below.refl _ _)).mono ?_
  rintro e u1 ⟨rfl,hb⟩
  have B1:=Lib.hid (below_of (Below.refl _ _) hb)
  have GA1:=Lib.hid (car hb G1.out); have GB1:=Lib.hid (car hb G2.out)
  clear c0 c1 c2 c3 c4 q0 q1 r0 r1
  obtain ⟨x10,x11,x12,x13,x14⟩:=blk5o GA1.out
  obtain ⟨y10,y11,-,-,_⟩:=blk2 GB1.out
  clear hb
  go_wp2_with fail
  go_region_with (first
    | (go_at_call 25; refine Calls.mono (HF.out _ ?_) ?_; (first | exact B1.out | exact B1.out.drew); rintro e w3 ⟨v3,rfl,hv3,hb3⟩; have hb3':Below u1.heap.size u1 w3:=(by first | exact hb3 | exact bel_d hb3); obtain ⟨u3,xs3,rfl,s3,-⟩:=hv3; obtain ⟨a3,k3,rfl⟩:=s3.shape; have BB3:=Lib.hid (below_of B1.out hb3'); have GA3':=Lib.hid (car hb3' GA1.out); have GB3':=Lib.hid (car hb3' GB1.out); obtain ⟨z0',z1',z2',z3',z4'⟩:=blk5o GA3'.out; obtain ⟨t0',t1',-,-,_⟩:=blk2 GB3'.out; clear hb3 hb3' s3)
    | (go_at_call 26; refine Calls.mono (HL.out _ ?_) ?_; (exact BB3.out); rintro e w4 ⟨v4,rfl,hv4,hb4⟩; obtain ⟨u4,xs4,rfl,s4,-⟩:=hv4; obtain ⟨a4,k4,rfl⟩:=s4.shape; have BB4:=Lib.hid (below_of BB3.out hb4); have GA4':=Lib.hid (car hb4 GA3'.out); have GB4':=Lib.hid (car hb4 GB3'.out); obtain ⟨z0'',z1'',z2'',z3'',z4''⟩:=blk5o GA4'.out; obtain ⟨t0'',t1'',-,-,_⟩:=blk2 GB4'.out; clear hb4 s4))
  all_goals
    go_wp2_with fail
    refine (HW.out _ (BB4.out)).mono ?_
    rintro e w5 ⟨rfl,hb5⟩
    have B5:=Lib.hid (below_of BL.out (below_of (BB4.out) hb5))
    clear hb5
    go_wp2_with fail
    refine (IW.out w5).mono ?_
    rintro e w6 ⟨rfl,rfl⟩
    go_wp2
    go_ret
    exact ⟨rfl,B5.out⟩
end Go.Proofs.YtacbkpenohcgjaaGreat
namespace Go.Proofs.YtacbkpenohcgjaaGreat
open Go.RowKit Mth
theorem fault_p_0 (n:Int) (d:Value) (f:Nat) (hd:d.oneCell'=true) (pf:Nat) (hcf:∀ args W,(callFunc pf args).run Tryz.prog W=.ok (.enter pf args) W) (pv av:Value) (w:World) (hpv:∃ po pn pc,pv=.slice po pn pc) (ao:Option Addr) (ak ac:Nat) (hav:av=.slice ao ak ac) (hne:(ak:Int)=n) (hP:∀ w1,Below w.heap.size w w1→Calls Tryz.prog pf #[pv] w1 fun e w'=>e=.returned (.bool true)∧Below w1.heap.size w1 w') (hR:∀ w1,Below w.heap.size w w1→Calls Tryz.prog 24 #[av] w1 fun e w'=>e=.returned (.bool true)∧Below w1.heap.size w1 w') (wd wd' i j:Nat) (hF:∀ w1,Below w.heap.size w w1→Calls Tryz.prog 25 #[.agg #[pv,av]] w1 fun e w'=>∃ v',e=.returned v'∧BvV w' v' wd i∧Below w1.heap.size w1 w') (hL:∀ w1,Below w.heap.size w w1→Calls Tryz.prog 26 #[.agg #[pv,av]] w1 fun e w'=>∃ v',e=.returned v'∧BvV w' v' wd' j∧Below w1.heap.size w1 w') (hww:wd=wd') (x:Int) (hx:isW x=true) (hW:∀ w1,Below w.heap.size w w1→Calls Tryz.prog 12 #[.agg #[.int .i64 n,.func (.func pf) #[] #[],.bool false,d,.func (.func f) #[] #[]],.agg #[pv,av]] w1 fun e w'=>e=.returned (.int .i64 x)∧Below w1.heap.size w1 w') :
    Calls Tryz.prog 10 #[.agg #[.int .i64 n,.func (.func pf) #[] #[],.bool false,d,.func (.func f) #[] #[]],.agg #[pv,av]] w fun e w'=>e=.returned (.int .i64 0)∧Below w.heap.size w w':=by
  obtain ⟨po,pn,pc,rfl⟩:=hpv
  subst hav
  obtain ⟨W,eW,g1,g2,bel,hsz⟩:=alloc2 w (Obj.cells #[.int .i64 n,.func (.func pf) #[] #[],.bool false,d,.func (.func f) #[] #[]] 42) (Obj.cells #[.slice po pn pc,.slice ao ak ac] 46)
  have G1:=Lib.hid g1; have G2:=Lib.hid g2; have BL:=Lib.hid bel
  obtain ⟨c0,c1,c2,c3,c4⟩:=blk5o g1
  obtain ⟨q0,q1,r0,r1,_⟩:=blk2 g2
  subst hne
  have d1:((ak:Int) != (ak:Int))=false:=bne_self_eq_false _
  have HP:Hid (∀ w1,Below W.heap.size W w1→_):=Lib.hid (fun w1 h=>hP w1 (below_of bel h))
  have HR:Hid (∀ w1,Below W.heap.size W w1→_):=Lib.hid (fun w1 h=>hR w1 (below_of bel h))
  have HF:Hid (∀ w1,Below W.heap.size W w1→_):=Lib.hid (fun w1 h=>hF w1 (below_of bel h))
  have HL:Hid (∀ w1,Below W.heap.size W w1→_):=Lib.hid (fun w1 h=>hL w1 (below_of bel h))
  subst hww
  have dd:((wd:Int) != (wd:Int))=false:=bne_self_eq_false _
  have HW:Hid (∀ w1,Below W.heap.size W w1→_):=Lib.hid (fun w1 h=>hW w1 (below_of bel h))
  have IW:Hid (∀ w1,Calls Tryz.prog 27 #[.int .i64 x] w1 fun e w'=>e=.returned (.bool true)∧w'=w1):=Lib.hid (fun w1=>by
    have h:=isWidth_any x w1
    rw [hx] at h
    exact h)
  have hbn:∀ W,Sem.run Tryz.prog (binOp BinOp.neq 38 (Value.func (Fn.func pf) #[] #[]) Value.nilFunc) W=.ok (.bool true) W:=fun W=>by kernel_rfl
  have hfl:=field0_bits
  clear g1 g2 bel hP hR hF hL hW hx
  go_enter Tryz.func10,Tryz.ntmps10
  go_wp2_with fail
  try rw [eW]
  refine (HP.out _ (Below.refl _ _)).mono ?_
  rintro e u1 ⟨rfl,hb⟩
  have B1:=Lib.hid (below_of (Below.refl _ _) hb)
  have GA1:=Lib.hid (car hb G1.out); have GB1:=Lib.hid (car hb G2.out)
  clear c0 c1 c2 c3 c4 q0 q1 r0 r1
  obtain ⟨x10,x11,x12,x13,x14⟩:=blk5o GA1.out
  obtain ⟨y10,y11,-,-,_⟩:=blk2 GB1.out
  clear hb
  go_wp2_with fail
  try rw [eW]
  refine (HR.out _ B1.out).mono ?_
  rintro e u2 ⟨rfl,hb⟩
  have B2:=Lib.hid (below_of B1.out hb)
  have GA2:=Lib.hid (car hb GA1.out); have GB2:=Lib.hid (car hb GB1.out)
  clear x10 x11 x12 x13 x14 y10 y11
  obtain ⟨x20,x21,x22,x23,x24⟩:=blk5o GA2.out
  obtain ⟨y20,y21,-,-,_⟩:=blk2 GB2.out
  clear hb
  go_wp2_with fail
  go_region_with (first
    | (go_at_call 25; refine Calls.mono (HF.out _ ?_) ?_; (first | exact B2.out | exact B2.out.drew); rintro e w3 ⟨v3,rfl,hv3,hb3⟩; have hb3':Below u2.heap.size u2 w3:=(by first | exact hb3 | exact bel_d hb3); obtain ⟨u3,xs3,rfl,s3,-⟩:=hv3; obtain ⟨a3,k3,rfl⟩:=s3.shape; have BB3:=Lib.hid (below_of B2.out hb3'); have GA3':=Lib.hid (car hb3' GA2.out); have GB3':=Lib.hid (car hb3' GB2.out); obtain ⟨z0',z1',z2',z3',z4'⟩:=blk5o GA3'.out; obtain ⟨t0',t1',-,-,_⟩:=blk2 GB3'.out; clear hb3 hb3' s3)
    | (go_at_call 26; refine Calls.mono (HL.out _ ?_) ?_; (exact BB3.out); rintro e w4 ⟨v4,rfl,hv4,hb4⟩; obtain ⟨u4,xs4,rfl,s4,-⟩:=hv4; obtain ⟨a4,k4,rfl⟩:=s4.shape; have BB4:=Lib.hid (below_of BB3.out hb4); have GA4':=Lib.hid (car hb4 GA3'.out); have GB4':=Lib.hid (car hb4 GB3'.out); obtain ⟨z0'',z1'',z2'',z3'',z4''⟩:=blk5o GA4'.out; obtain ⟨t0'',t1'',-,-,_⟩:=blk2 GB4'.out; clear hb4 s4))
  all_goals
    go_wp2_with fail
    refine (HW.out _ (BB4.out)).mono ?_
    rintro e w5 ⟨rfl,hb5⟩
    have B5:=Lib.hid (below_of BL.out (below_of (BB4.out) hb5))
    clear hb5
    go_wp2_with fail
    refine (IW.out w5).mono ?_
    rintro e w6 ⟨rfl,rfl⟩
    go_wp2
    go_ret
    exact ⟨rfl,B5.out⟩
theorem fault_p_55 (n:Int) (d:Value) (f:Nat) (hd:d.oneCell'=true) (pf:Nat) (hcf:∀ args W,(callFunc pf args).run Tryz.prog W=.ok (.enter pf args) W) (pv av:Value) (w:World) (hpv:∃ po pn pc,pv=.slice po pn pc) (ao:Option Addr) (ak ac:Nat) (hav:av=.slice ao ak ac) (hne:(ak:Int)=n) (hP:∀ w1,Below w.heap.size w w1→Calls Tryz.prog pf #[pv] w1 fun e w'=>e=.returned (.bool true)∧Below w1.heap.size w1 w') (hR:∀ w1,Below w.heap.size w w1→Calls Tryz.prog 24 #[av] w1 fun e w'=>e=.returned (.bool true)∧Below w1.heap.size w1 w') (wd wd' i j:Nat) (hF:∀ w1,Below w.heap.size w w1→Calls Tryz.prog 25 #[.agg #[pv,av]] w1 fun e w'=>∃ v',e=.returned v'∧BvV w' v' wd i∧Below w1.heap.size w1 w') (hL:∀ w1,Below w.heap.size w w1→Calls Tryz.prog 26 #[.agg #[pv,av]] w1 fun e w'=>∃ v',e=.returned v'∧BvV w' v' wd' j∧Below w1.heap.size w1 w') (hww:wd=wd') (x:Int) (hx:isW x=false) (hW:∀ w1,Below w.heap.size w w1→Calls Tryz.prog 12 #[.agg #[.int .i64 n,.func (.func pf) #[] #[],.bool false,d,.func (.func f) #[] #[]],.agg #[pv,av]] w1 fun e w'=>e=.returned (.int .i64 x)∧Below w1.heap.size w1 w') :
    Calls Tryz.prog 10 #[.agg #[.int .i64 n,.func (.func pf) #[] #[],.bool false,d,.func (.func f) #[] #[]],.agg #[pv,av]] w fun e w'=>e=.returned (.int .i64 55)∧Below w.heap.size w w':=by
  obtain ⟨po,pn,pc,rfl⟩:=hpv
  subst hav
  obtain ⟨W,eW,g1,g2,bel,hsz⟩:=alloc2 w (Obj.cells #[.int .i64 n,.func (.func pf) #[] #[],.bool false,d,.func (.func f) #[] #[]] 42) (Obj.cells #[.slice po pn pc,.slice ao ak ac] 46)
  have G1:=Lib.hid g1; have G2:=Lib.hid g2; have BL:=Lib.hid bel
  obtain ⟨c0,c1,c2,c3,c4⟩:=blk5o g1
  obtain ⟨q0,q1,r0,r1,_⟩:=blk2 g2
  subst hne
  have d1:((ak:Int) != (ak:Int))=false:=bne_self_eq_false _
  have HP:Hid (∀ w1,Below W.heap.size W w1→_):=Lib.hid (fun w1 h=>hP w1 (below_of bel h))
  have HR:Hid (∀ w1,Below W.heap.size W w1→_):=Lib.hid (fun w1 h=>hR w1 (below_of bel h))
  have HF:Hid (∀ w1,Below W.heap.size W w1→_):=Lib.hid (fun w1 h=>hF w1 (below_of bel h))
  have HL:Hid (∀ w1,Below W.heap.size W w1→_):=Lib.hid (fun w1 h=>hL w1 (below_of bel h))
  subst hww
  have dd:((wd:Int) != (wd:Int))=false:=bne_self_eq_false _
  have HW:Hid (∀ w1,Below W.heap.size W w1→_):=Lib.hid (fun w1 h=>hW w1 (below_of bel h))
  have IW:Hid (∀ w1,Calls Tryz.prog 27 #[.int .i64 x] w1 fun e w'=>e=.returned (.bool false)∧w'=w1):=Lib.hid (fun w1=>by
    have h:=isWidth_any x w1
    rw [hx] at h
    exact h)
  have hbn:∀ W,Sem.run Tryz.prog (binOp BinOp.neq 38 (Value.func (Fn.func pf) #[] #[]) Value.nilFunc) W=.ok (.bool true) W:=fun W=>by kernel_rfl
  have hfl:=field0_bits
  clear g1 g2 bel hP hR hF hL hW hx
  go_enter Tryz.func10,Tryz.ntmps10
  go_wp2_with fail
  try rw [eW]
  refine (HP.out _ (Below.refl _ _)).mono ?_
  rintro e u1 ⟨rfl,hb⟩
  have B1:=Lib.hid (below_of (Below.refl _ _) hb)
  have GA1:=Lib.hid (car hb G1.out); have GB1:=Lib.hid (car hb G2.out)
  clear c0 c1 c2 c3 c4 q0 q1 r0 r1
  obtain ⟨x10,x11,x12,x13,x14⟩:=blk5o GA1.out
  obtain ⟨y10,y11,-,-,_⟩:=blk2 GB1.out
  clear hb
  go_wp2_with fail
  try rw [eW]
  refine (HR.out _ B1.out).mono ?_
  rintro e u2 ⟨rfl,hb⟩
  have B2:=Lib.hid (below_of B1.out hb)
  have GA2:=Lib.hid (car hb GA1.out); have GB2:=Lib.hid (car hb GB1.out)
  clear x10 x11 x12 x13 x14 y10 y11
  obtain ⟨x20,x21,x22,x23,x24⟩:=blk5o GA2.out
  obtain ⟨y20,y21,-,-,_⟩:=blk2 GB2.out
  clear hb
  go_wp2_with fail
  go_region_with (first
    | (go_at_call 25; refine Calls.mono (HF.out _ ?_) ?_; (first | exact B2.out | exact B2.out.drew); rintro e w3 ⟨v3,rfl,hv3,hb3⟩; have hb3':Below u2.heap.size u2 w3:=(by first | exact hb3 | exact bel_d hb3); obtain ⟨u3,xs3,rfl,s3,-⟩:=hv3; obtain ⟨a3,k3,rfl⟩:=s3.shape; have BB3:=Lib.hid (below_of B2.out hb3'); have GA3':=Lib.hid (car hb3' GA2.out); have GB3':=Lib.hid (car hb3' GB2.out); obtain ⟨z0',z1',z2',z3',z4'⟩:=blk5o GA3'.out; obtain ⟨t0',t1',-,-,_⟩:=blk2 GB3'.out; clear hb3 hb3' s3)
    | (go_at_call 26; refine Calls.mono (HL.out _ ?_) ?_; (exact BB3.out); rintro e w4 ⟨v4,rfl,hv4,hb4⟩; obtain ⟨u4,xs4,rfl,s4,-⟩:=hv4; obtain ⟨a4,k4,rfl⟩:=s4.shape; have BB4:=Lib.hid (below_of BB3.out hb4); have GA4':=Lib.hid (car hb4 GA3'.out); have GB4':=Lib.hid (car hb4 GB3'.out); obtain ⟨z0'',z1'',z2'',z3'',z4''⟩:=blk5o GA4'.out; obtain ⟨t0'',t1'',-,-,_⟩:=blk2 GB4'.out; clear hb4 s4))
  all_goals
    go_wp2_with fail
    refine (HW.out _ (BB4.out)).mono ?_
    rintro e w5 ⟨rfl,hb5⟩
    have B5:=Lib.hid (below_of BL.out (below_of (BB4.out) hb5))
    clear hb5
    go_wp2_with fail
    refine (IW.out w5).mono ?_
    rintro e w6 ⟨rfl,rfl⟩
    go_wp2
    go_ret
    exact ⟨rfl,B5.out⟩
end Go.Proofs.YtacbkpenohcgjaaGreat
namespace Go.Proofs.YtacbkpenohcgjaaGreat
open Go.RowKit Mth
theorem fault_n_0m (n:Int) (d:Value) (f:Nat) (hd:d.oneCell'=true) (pv av:Value) (w:World) (hpv:∃ po pn pc,pv=.slice po pn pc) (ao:Option Addr) (ak ac:Nat) (hav:av=.slice ao ak ac) (hne:(ak:Int)=n) (hR:∀ w1,Below w.heap.size w w1→Calls Tryz.prog 24 #[av] w1 fun e w'=>e=.returned (.bool true)∧Below w1.heap.size w1 w') (x:Int) (hx:isW x=true) (hW:∀ w1,Below w.heap.size w w1→Calls Tryz.prog 12 #[.agg #[.int .i64 n,.nilFunc,.bool true,d,.func (.func f) #[] #[]],.agg #[pv,av]] w1 fun e w'=>e=.returned (.int .i64 x)∧Below w1.heap.size w1 w') :
    Calls Tryz.prog 10 #[.agg #[.int .i64 n,.nilFunc,.bool true,d,.func (.func f) #[] #[]],.agg #[pv,av]] w fun e w'=>e=.returned (.int .i64 0)∧Below w.heap.size w w':=by
  obtain ⟨po,pn,pc,rfl⟩:=hpv
  subst hav
  obtain ⟨W,eW,g1,g2,bel,hsz⟩:=alloc2 w (Obj.cells #[.int .i64 n,.nilFunc,.bool true,d,.func (.func f) #[] #[]] 42) (Obj.cells #[.slice po pn pc,.slice ao ak ac] 46)
  have G1:=Lib.hid g1; have G2:=Lib.hid g2; have BL:=Lib.hid bel
  obtain ⟨c0,c1,c2,c3,c4⟩:=blk5o g1
  obtain ⟨q0,q1,r0,r1,_⟩:=blk2 g2
  subst hne
  have d1:((ak:Int) != (ak:Int))=false:=bne_self_eq_false _
  have HR:Hid (∀ w1,Below W.heap.size W w1→_):=Lib.hid (fun w1 h=>hR w1 (below_of bel h))
  have HW:Hid (∀ w1,Below W.heap.size W w1→_):=Lib.hid (fun w1 h=>hW w1 (below_of bel h))
  have IW:Hid (∀ w1,Calls Tryz.prog 27 #[.int .i64 x] w1 fun e w'=>e=.returned (.bool true)∧w'=w1):=Lib.hid (fun w1=>by
    have h:=isWidth_any x w1
    rw [hx] at h
    exact h)
  have hbn:∀ W,Sem.run Tryz.prog (binOp BinOp.neq 38 Value.nilFunc Value.nilFunc) W=.ok (.bool false) W:=fun W=>by kernel_rfl
  have hfl:=field0_bits
  clear g1 g2 bel hR hW hx
  go_enter Tryz.func10,Tryz.ntmps10
  go_wp2_with fail
  try rw [eW]
  refine (HR.out _ (Below.refl _ _)).mono ?_
  rintro e u1 ⟨rfl,hb⟩
  have B1:=Lib.hid (below_of (Below.refl _ _) hb)
  have GA1:=Lib.hid (car hb G1.out); have GB1:=Lib.hid (car hb G2.out)
  clear c0 c1 c2 c3 c4 q0 q1 r0 r1
  obtain ⟨x10,x11,x12,x13,x14⟩:=blk5o GA1.out
  obtain ⟨y10,y11,-,-,_⟩:=blk2 GB1.out
  clear hb
  go_wp2_with fail
  go_region_with fail
  all_goals
    go_wp2_with fail
    refine (HW.out _ (by first | exact B1.out | exact B1.out.drew | exact B1.out.drew.drew)).mono ?_
    rintro e w5 ⟨rfl,hb5⟩
    have B5:=Lib.hid (below_of BL.out (below_of (by first | exact B1.out | exact B1.out.drew | exact B1.out.drew.drew) hb5))
    clear hb5
    go_wp2_with fail
    refine (IW.out w5).mono ?_
    rintro e w6 ⟨rfl,rfl⟩
    go_wp2
    go_ret
    exact ⟨rfl,B5.out⟩
theorem fault_n_55m (n:Int) (d:Value) (f:Nat) (hd:d.oneCell'=true) (pv av:Value) (w:World) (hpv:∃ po pn pc,pv=.slice po pn pc) (ao:Option Addr) (ak ac:Nat) (hav:av=.slice ao ak ac) (hne:(ak:Int)=n) (hR:∀ w1,Below w.heap.size w w1→Calls Tryz.prog 24 #[av] w1 fun e w'=>e=.returned (.bool true)∧Below w1.heap.size w1 w') (x:Int) (hx:isW x=false) (hW:∀ w1,Below w.heap.size w w1→Calls Tryz.prog 12 #[.agg #[.int .i64 n,.nilFunc,.bool true,d,.func (.func f) #[] #[]],.agg #[pv,av]] w1 fun e w'=>e=.returned (.int .i64 x)∧Below w1.heap.size w1 w') :
    Calls Tryz.prog 10 #[.agg #[.int .i64 n,.nilFunc,.bool true,d,.func (.func f) #[] #[]],.agg #[pv,av]] w fun e w'=>e=.returned (.int .i64 55)∧Below w.heap.size w w':=by
  obtain ⟨po,pn,pc,rfl⟩:=hpv
  subst hav
  obtain ⟨W,eW,g1,g2,bel,hsz⟩:=alloc2 w (Obj.cells #[.int .i64 n,.nilFunc,.bool true,d,.func (.func f) #[] #[]] 42) (Obj.cells #[.slice po pn pc,.slice ao ak ac] 46)
  have G1:=Lib.hid g1; have G2:=Lib.hid g2; have BL:=Lib.hid bel
  obtain ⟨c0,c1,c2,c3,c4⟩:=blk5o g1
  obtain ⟨q0,q1,r0,r1,_⟩:=blk2 g2
  subst hne
  have d1:((ak:Int) != (ak:Int))=false:=bne_self_eq_false _
  have HR:Hid (∀ w1,Below W.heap.size W w1→_):=Lib.hid (fun w1 h=>hR w1 (below_of bel h))
  have HW:Hid (∀ w1,Below W.heap.size W w1→_):=Lib.hid (fun w1 h=>hW w1 (below_of bel h))
  have IW:Hid (∀ w1,Calls Tryz.prog 27 #[.int .i64 x] w1 fun e w'=>e=.returned (.bool false)∧w'=w1):=Lib.hid (fun w1=>by
    have h:=isWidth_any x w1
    rw [hx] at h
    exact h)
  have hbn:∀ W,Sem.run Tryz.prog (binOp BinOp.neq 38 Value.nilFunc Value.nilFunc) W=.ok (.bool false) W:=fun W=>by kernel_rfl
  have hfl:=field0_bits
  clear g1 g2 bel hR hW hx
  go_enter Tryz.func10,Tryz.ntmps10
  go_wp2_with fail
  try rw [eW]
  refine (HR.out _ (Below.refl _ _)).mono ?_
  rintro e u1 ⟨rfl,hb⟩
  have B1:=Lib.hid (below_of (Below.refl _ _) hb)
  have GA1:=Lib.hid (car hb G1.out); have GB1:=Lib.hid (car hb G2.out)
  clear c0 c1 c2 c3 c4 q0 q1 r0 r1
  obtain ⟨x10,x11,x12,x13,x14⟩:=blk5o GA1.out
  obtain ⟨y10,y11,-,-,_⟩:=blk2 GB1.out
  clear hb
  go_wp2_with fail
  go_region_with fail
  all_goals
    go_wp2_with fail
    refine (HW.out _ (by first | exact B1.out | exact B1.out.drew | exact B1.out.drew.drew)).mono ?_
    rintro e w5 ⟨rfl,hb5⟩
    have B5:=Lib.hid (below_of BL.out (below_of (by first | exact B1.out | exact B1.out.drew | exact B1.out.drew.drew) hb5))
    clear hb5
    go_wp2_with fail
    refine (IW.out w5).mono ?_
    rintro e w6 ⟨rfl,rfl⟩
    go_wp2
    go_ret
    exact ⟨rfl,B5.out⟩
end Go.Proofs.YtacbkpenohcgjaaGreat
