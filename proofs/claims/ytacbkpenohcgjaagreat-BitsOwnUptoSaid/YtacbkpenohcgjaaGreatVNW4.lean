import Derived.Test.YtacbkpenohcgjaaGreatVNW3
import Derived.Test.YtacbkpenohcgjaaGreatVNT9
set_option linter.unusedVariables false
set_option linter.unusedSimpArgs false
set_option maxHeartbeats 16000000
set_option maxRecDepth 100000
namespace Go.Proofs.YtacbkpenohcgjaaGreat
open Go.RowKit Mth
theorem moved_42 (pv av:Value) (wd m:Nat) (p q:Nat) (wx:Nat) (w:World) (hp:PaL w pv [(q:Int),(p:Int)]) (h:BvL w av [(wd,m)]) (hw1:1≤wd) (hw4:wd≤4096) (hwx:wx=q - p+1) (hwx4:wx≤4096) (hpq:p≤q) (hq:q<wd) :
    Calls Tryz.prog 18 #[.int .i64 42,pv,av,.int .i64 (wx:Int)] w fun e w'=>∃ v',e=.returned v'∧BoL w' v' (mapF (fun i=>m.testBit (p+i)) wx)∧Below w.heap.size w w':=by
  have HWX:=Lib.hid hwx
  clear hwx
  obtain ⟨po,pc,rfl,hpc⟩:=hp
  obtain ⟨pb,poff,rfl,hplt,hpc⟩:=hpc (by simp)
  have PC:Hid (∀ w1,Below w.heap.size w w1→w1.cell? ⟨pb,poff+1,none⟩=some (.int .i64 (p:Int))):=Lib.hid (fun w1 hw=>(hw.cell (p:=⟨pb,poff+1,none⟩) hplt).trans (hpc 1 (p:Int) rfl))
  clear hpc
  obtain ⟨ao,cap,rfl,hc⟩:=h
  obtain ⟨b,off,rfl,hlt,hc⟩:=hc (by simp)
  obtain ⟨u0,xs,k1,k2,k3,k4,k5,rfl⟩:=hc 0 (wd,m) rfl
  dsimp only at k1 k2
  simp only [Nat.zero_mul,Nat.add_zero] at k1 k2
  have DG:Hid (∀ w1,Below w.heap.size w w1→Calls Tryz.prog 34 #[.agg #[.int .i64 (wd:Int),u0]] w1 fun e w'=>∃ ao cap,e=.returned (.slice ao wd cap)∧BoF w' (.slice ao wd cap) wd (val B64 xs)∧Below w1.heap.size w1 w'):=Lib.hid (fun w1 hw=>digits_any wd hw4 u0 xs w1 (k3.below hw) k4)
  have CL:Hid (∀ w1,Below w.heap.size w w1→w1.cell? ⟨b,off,none⟩=some (.int .i64 (wd:Int))∧w1.cell? ⟨b,off+1,none⟩=some u0):=Lib.hid (fun w1 hw =>
    ⟨(hw.cell (p:=⟨b,off,none⟩) hlt).trans k1,(hw.cell (p:=⟨b,off+1,none⟩) hlt).trans k2⟩)
  obtain ⟨o0,c0,rfl⟩:=k3.shape
  generalize val B64 xs=m at *
  generalize xs.length=kx at *
  clear k1 k2 k3 k4 k5 hc hlt
  simp only [List.length_cons,List.length_nil] at *
  obtain ⟨z0,z1⟩:=CL.out w (Below.refl _ _)
  have HW4:(0:Int)<(wd:Int):=by omega
  go_enter Tryz.func18,Tryz.ntmps18
  go_wp2_with fail
  refine (DG.out w (Below.refl _ _)).mono ?_
  rintro e W ⟨ao',cap',rfl,hF,hb⟩
  have HF:=Lib.hid hF
  have BW:=Lib.hid hb
  clear hF hb z0 z1
  go_wp2_with fail
  go_loopw [11,12] (fun v i wr=>BwO W wr (fun i=>m.testBit (p+i)) wx v i) (fun _ i _=>wx - (intOf i).toNat)
  case atStart=>exact ⟨0,Nat.zero_le _,rfl,World.ownsRow_nil _ _ _ _,Below.refl _ _⟩
  case round =>
    obtain ⟨k,hk,rfl,hown,hB⟩:=hrel
    have HB:=Lib.hid hB; have HO:=Lib.hid hown
    obtain ⟨z0,z1⟩:=CL.out wr (below_of BW.out hB)
    have y0:=PC.out wr (below_of BW.out hB)
    clear hB hown
    by_cases hlt:k<wx
    · have MS:=Lib.hid (mapF_succ (fun i=>m.testBit (p+i)) k)
      have HLN:Hid ((mapF (fun i=>m.testBit (p+i)) k).length≤16777216):=Lib.hid (by rw [mapF_len]; omega)
      obtain ⟨aa,ac,ea,ha⟩:=HF.out.below HB.out
      simp only [Value.slice.injEq] at ea
      obtain ⟨rfl,-,rfl⟩:=ea
      obtain ⟨ab,aof,rfl,halt,ha⟩:=ha (by omega)
      have hwx:=HWX.out
      have hix:(p:Int)+(k:Int)=((p+k:Nat):Int):=by omega
      have hj:p+k<wd:=by omega
      have ca:=ha (p+k) hj
      clear ha
      generalize p+k=j at *
      generalize m.testBit j=t at *
      clear hwx
      go_wp2_with (refine append_bool (o:=⟨some 174,_,_,_,_,_⟩) rfl _ _ rfl W.heap.size _ _ (t) ⟨wr.heap.size,0,none⟩ rfl rfl (HO.out.alloc _) (World.cell?_alloc_new _ _ _ _) HLN.out (by have:=HB.out.size; simp; omega) ?_; intro v' w9 hown9 hg9; have HO9:=Lib.hid hown9; have HB9:=Lib.hid (below_own (HB.out.alloc HB.out.size _) (HO.out.alloc _) hg9 (by have:=HB.out.size; simp; omega)); clear hown9 hg9)
      go_roundw
      case rel=>exact ⟨k+1,hlt,by go_num,by rw [MS.out]; exact HO9.out,HB9.out⟩
      case measure=>simp [intOf]; omega
    · obtain rfl:k=wx:=by omega
      have BL:=own_bol HO.out
      obtain ⟨a1,c1',e1,-⟩:=BL
      have HBL:=Lib.hid (own_bol HO.out)
      subst e1
      rw [mapF_len] at HBL
      rw [mapF_len]
      go_wp2
      go_ret
      exact ⟨_,rfl,HBL.out,below_of BW.out HB.out⟩
theorem moved_63 (pv av:Value) (wd m:Nat) (p:Nat) (wx:Nat) (w:World) (hp:PaL w pv [(p:Int)]) (h:BvL w av [(wd,m)]) (hw1:1≤wd) (hw4:wd≤4096) (hwx:wx=wd*p) (hwx4:wx≤4096)  :
    Calls Tryz.prog 18 #[.int .i64 63,pv,av,.int .i64 (wx:Int)] w fun e w'=>∃ v',e=.returned v'∧BoL w' v' (mapF (fun i=>m.testBit (i % wd)) wx)∧Below w.heap.size w w':=by
  have HWX:=Lib.hid hwx
  clear hwx
  obtain ⟨po,pc,rfl,hpc⟩:=hp
  obtain ⟨pb,poff,rfl,hplt,hpc⟩:=hpc (by simp)
  have PC:Hid (∀ w1,Below w.heap.size w w1→w1.cell? ⟨pb,poff,none⟩=some (.int .i64 (p:Int))):=Lib.hid (fun w1 hw=>(hw.cell (p:=⟨pb,poff,none⟩) hplt).trans (by have:=hpc 0 (p:Int) rfl; rwa [Nat.add_zero] at this))
  clear hpc
  obtain ⟨ao,cap,rfl,hc⟩:=h
  obtain ⟨b,off,rfl,hlt,hc⟩:=hc (by simp)
  obtain ⟨u0,xs,k1,k2,k3,k4,k5,rfl⟩:=hc 0 (wd,m) rfl
  dsimp only at k1 k2
  simp only [Nat.zero_mul,Nat.add_zero] at k1 k2
  have DG:Hid (∀ w1,Below w.heap.size w w1→Calls Tryz.prog 34 #[.agg #[.int .i64 (wd:Int),u0]] w1 fun e w'=>∃ ao cap,e=.returned (.slice ao wd cap)∧BoF w' (.slice ao wd cap) wd (val B64 xs)∧Below w1.heap.size w1 w'):=Lib.hid (fun w1 hw=>digits_any wd hw4 u0 xs w1 (k3.below hw) k4)
  have CL:Hid (∀ w1,Below w.heap.size w w1→w1.cell? ⟨b,off,none⟩=some (.int .i64 (wd:Int))∧w1.cell? ⟨b,off+1,none⟩=some u0):=Lib.hid (fun w1 hw =>
    ⟨(hw.cell (p:=⟨b,off,none⟩) hlt).trans k1,(hw.cell (p:=⟨b,off+1,none⟩) hlt).trans k2⟩)
  obtain ⟨o0,c0,rfl⟩:=k3.shape
  generalize val B64 xs=m at *
  generalize xs.length=kx at *
  clear k1 k2 k3 k4 k5 hc hlt
  simp only [List.length_cons,List.length_nil] at *
  obtain ⟨z0,z1⟩:=CL.out w (Below.refl _ _)
  have HW4:(0:Int)<(wd:Int):=by omega
  go_enter Tryz.func18,Tryz.ntmps18
  go_wp2_with fail
  refine (DG.out w (Below.refl _ _)).mono ?_
  rintro e W ⟨ao',cap',rfl,hF,hb⟩
  have HF:=Lib.hid hF
  have BW:=Lib.hid hb
  clear hF hb z0 z1
  go_wp2_with fail
  go_loopw [11,12] (fun v i wr=>BwO W wr (fun i=>m.testBit (i % wd)) wx v i) (fun _ i _=>wx - (intOf i).toNat)
  case atStart=>exact ⟨0,Nat.zero_le _,rfl,World.ownsRow_nil _ _ _ _,Below.refl _ _⟩
  case round =>
    obtain ⟨k,hk,rfl,hown,hB⟩:=hrel
    have HB:=Lib.hid hB; have HO:=Lib.hid hown
    obtain ⟨z0,z1⟩:=CL.out wr (below_of BW.out hB)
    have y0:=PC.out wr (below_of BW.out hB)
    clear hB hown
    by_cases hlt:k<wx
    · have MS:=Lib.hid (mapF_succ (fun i=>m.testBit (i % wd)) k)
      have HLN:Hid ((mapF (fun i=>m.testBit (i % wd)) k).length≤16777216):=Lib.hid (by rw [mapF_len]; omega)
      obtain ⟨aa,ac,ea,ha⟩:=HF.out.below HB.out
      simp only [Value.slice.injEq] at ea
      obtain ⟨rfl,-,rfl⟩:=ea
      obtain ⟨ab,aof,rfl,halt,ha⟩:=ha (by omega)
      have hj:k % wd<wd:=Nat.mod_lt _ (by omega)
      have ca:=ha (k % wd) hj
      clear ha
      have hr1:(k:Int) % (wd:Int)=((k % wd:Nat):Int):=by rw [Int.natCast_emod]
      have hr2:(k:Int).tmod (wd:Int)=((k % wd:Nat):Int):=by rw [Int.tmod_eq_emod_of_nonneg (by omega),hr1]
      generalize k % wd=j at *
      generalize m.testBit j=t at *
      go_wp2_with (refine append_bool (o:=⟨some 174,_,_,_,_,_⟩) rfl _ _ rfl W.heap.size _ _ (t) ⟨wr.heap.size,0,none⟩ rfl rfl (HO.out.alloc _) (World.cell?_alloc_new _ _ _ _) HLN.out (by have:=HB.out.size; simp; omega) ?_; intro v' w9 hown9 hg9; have HO9:=Lib.hid hown9; have HB9:=Lib.hid (below_own (HB.out.alloc HB.out.size _) (HO.out.alloc _) hg9 (by have:=HB.out.size; simp; omega)); clear hown9 hg9)
      go_roundw
      case rel=>exact ⟨k+1,hlt,by go_num,by rw [MS.out]; exact HO9.out,HB9.out⟩
      case measure=>simp [intOf]; omega
    · obtain rfl:k=wx:=by omega
      have BL:=own_bol HO.out
      obtain ⟨a1,c1',e1,-⟩:=BL
      have HBL:=Lib.hid (own_bol HO.out)
      subst e1
      rw [mapF_len] at HBL
      rw [mapF_len]
      go_wp2
      go_ret
      exact ⟨_,rfl,HBL.out,below_of BW.out HB.out⟩
theorem moved_64 (pv av:Value) (wd m:Nat) (p:Nat) (wx:Nat) (w:World) (hp:PaL w pv [(p:Int)]) (h:BvL w av [(wd,m)]) (hw1:1≤wd) (hw4:wd≤4096) (hwx:wx=wd+p) (hwx4:wx≤4096)  :
    Calls Tryz.prog 18 #[.int .i64 64,pv,av,.int .i64 (wx:Int)] w fun e w'=>∃ v',e=.returned v'∧BoL w' v' (mapF (fun i=>decide (i<wd)&&m.testBit i) wx)∧Below w.heap.size w w':=by
  have HWX:=Lib.hid hwx
  clear hwx
  obtain ⟨po,pc,rfl,hpc⟩:=hp
  obtain ⟨pb,poff,rfl,hplt,hpc⟩:=hpc (by simp)
  have PC:Hid (∀ w1,Below w.heap.size w w1→w1.cell? ⟨pb,poff,none⟩=some (.int .i64 (p:Int))):=Lib.hid (fun w1 hw=>(hw.cell (p:=⟨pb,poff,none⟩) hplt).trans (by have:=hpc 0 (p:Int) rfl; rwa [Nat.add_zero] at this))
  clear hpc
  obtain ⟨ao,cap,rfl,hc⟩:=h
  obtain ⟨b,off,rfl,hlt,hc⟩:=hc (by simp)
  obtain ⟨u0,xs,k1,k2,k3,k4,k5,rfl⟩:=hc 0 (wd,m) rfl
  dsimp only at k1 k2
  simp only [Nat.zero_mul,Nat.add_zero] at k1 k2
  have DG:Hid (∀ w1,Below w.heap.size w w1→Calls Tryz.prog 34 #[.agg #[.int .i64 (wd:Int),u0]] w1 fun e w'=>∃ ao cap,e=.returned (.slice ao wd cap)∧BoF w' (.slice ao wd cap) wd (val B64 xs)∧Below w1.heap.size w1 w'):=Lib.hid (fun w1 hw=>digits_any wd hw4 u0 xs w1 (k3.below hw) k4)
  have CL:Hid (∀ w1,Below w.heap.size w w1→w1.cell? ⟨b,off,none⟩=some (.int .i64 (wd:Int))∧w1.cell? ⟨b,off+1,none⟩=some u0):=Lib.hid (fun w1 hw =>
    ⟨(hw.cell (p:=⟨b,off,none⟩) hlt).trans k1,(hw.cell (p:=⟨b,off+1,none⟩) hlt).trans k2⟩)
  obtain ⟨o0,c0,rfl⟩:=k3.shape
  generalize val B64 xs=m at *
  generalize xs.length=kx at *
  clear k1 k2 k3 k4 k5 hc hlt
  simp only [List.length_cons,List.length_nil] at *
  obtain ⟨z0,z1⟩:=CL.out w (Below.refl _ _)
  have HW4:(0:Int)<(wd:Int):=by omega
  go_enter Tryz.func18,Tryz.ntmps18
  go_wp2_with fail
  refine (DG.out w (Below.refl _ _)).mono ?_
  rintro e W ⟨ao',cap',rfl,hF,hb⟩
  have HF:=Lib.hid hF
  have BW:=Lib.hid hb
  clear hF hb z0 z1
  go_wp2_with fail
  go_loopw [11,12] (fun v i wr=>BwO W wr (fun i=>decide (i<wd)&&m.testBit i) wx v i) (fun _ i _=>wx - (intOf i).toNat)
  case atStart=>exact ⟨0,Nat.zero_le _,rfl,World.ownsRow_nil _ _ _ _,Below.refl _ _⟩
  case round =>
    obtain ⟨k,hk,rfl,hown,hB⟩:=hrel
    have HB:=Lib.hid hB; have HO:=Lib.hid hown
    obtain ⟨z0,z1⟩:=CL.out wr (below_of BW.out hB)
    have y0:=PC.out wr (below_of BW.out hB)
    clear hB hown
    by_cases hlt:k<wx
    · have MS:=Lib.hid (mapF_succ (fun i=>decide (i<wd)&&m.testBit i) k)
      have HLN:Hid ((mapF (fun i=>decide (i<wd)&&m.testBit i) k).length≤16777216):=Lib.hid (by rw [mapF_len]; omega)
      obtain ⟨aa,ac,ea,ha⟩:=HF.out.below HB.out
      simp only [Value.slice.injEq] at ea
      obtain ⟨rfl,-,rfl⟩:=ea
      obtain ⟨ab,aof,rfl,halt,ha⟩:=ha (by omega)
      by_cases hkw:k<wd
      · have ca:=ha k hkw
        clear ha
        have hkI:(k:Int)<(wd:Int):=by omega
        rw [show (decide (k<wd)&&m.testBit k)=m.testBit k by rw [decide_eq_true hkw]; rfl] at MS
        generalize m.testBit k=t at *
        go_wp2_with (refine append_bool (o:=⟨some 174,_,_,_,_,_⟩) rfl _ _ rfl W.heap.size _ _ (t) ⟨wr.heap.size,0,none⟩ rfl rfl (HO.out.alloc _) (World.cell?_alloc_new _ _ _ _) HLN.out (by have:=HB.out.size; simp; omega) ?_; intro v' w9 hown9 hg9; have HO9:=Lib.hid hown9; have HB9:=Lib.hid (below_own (HB.out.alloc HB.out.size _) (HO.out.alloc _) hg9 (by have:=HB.out.size; simp; omega)); clear hown9 hg9)
        go_roundw
        case rel=>exact ⟨k+1,hlt,by go_num,by rw [MS.out]; exact HO9.out,HB9.out⟩
        case measure=>simp [intOf]; omega
      · have hkI:¬ (k:Int)<(wd:Int):=by omega
        rw [show (decide (k<wd)&&m.testBit k)=false by rw [decide_eq_false hkw]; rfl] at MS
        go_wp2_with (refine append_bool (o:=⟨some 174,_,_,_,_,_⟩) rfl _ _ rfl W.heap.size _ _ (false) ⟨wr.heap.size,0,none⟩ rfl rfl (HO.out.alloc _) (World.cell?_alloc_new _ _ _ _) HLN.out (by have:=HB.out.size; simp; omega) ?_; intro v' w9 hown9 hg9; have HO9:=Lib.hid hown9; have HB9:=Lib.hid (below_own (HB.out.alloc HB.out.size _) (HO.out.alloc _) hg9 (by have:=HB.out.size; simp; omega)); clear hown9 hg9)
        go_roundw
        case rel=>exact ⟨k+1,hlt,by go_num,by rw [MS.out]; exact HO9.out,HB9.out⟩
        case measure=>simp [intOf]; omega
    · obtain rfl:k=wx:=by omega
      have BL:=own_bol HO.out
      obtain ⟨a1,c1',e1,-⟩:=BL
      have HBL:=Lib.hid (own_bol HO.out)
      subst e1
      rw [mapF_len] at HBL
      rw [mapF_len]
      go_wp2
      go_ret
      exact ⟨_,rfl,HBL.out,below_of BW.out HB.out⟩
end Go.Proofs.YtacbkpenohcgjaaGreat
namespace Go.Proofs.YtacbkpenohcgjaaGreat
open Go.RowKit Mth
theorem moved_66 (pv av:Value) (wd m:Nat) (p:Nat) (wx:Nat) (w:World) (hp:PaL w pv [(p:Int)]) (h:BvL w av [(wd,m)]) (hw1:1≤wd) (hw4:wd≤4096) (hwx:wx=wd) (hwx4:wx≤4096) (hp4:p≤4096) :
    Calls Tryz.prog 18 #[.int .i64 66,pv,av,.int .i64 (wx:Int)] w fun e w'=>∃ v',e=.returned v'∧BoL w' v' (mapF (fun i=>m.testBit ((i+(wd - p % wd)) % wd)) wx)∧Below w.heap.size w w':=by
  have HWX:=Lib.hid hwx
  clear hwx
  obtain ⟨po,pc,rfl,hpc⟩:=hp
  obtain ⟨pb,poff,rfl,hplt,hpc⟩:=hpc (by simp)
  have PC:Hid (∀ w1,Below w.heap.size w w1→w1.cell? ⟨pb,poff,none⟩=some (.int .i64 (p:Int))):=Lib.hid (fun w1 hw=>(hw.cell (p:=⟨pb,poff,none⟩) hplt).trans (by have:=hpc 0 (p:Int) rfl; rwa [Nat.add_zero] at this))
  clear hpc
  obtain ⟨ao,cap,rfl,hc⟩:=h
  obtain ⟨b,off,rfl,hlt,hc⟩:=hc (by simp)
  obtain ⟨u0,xs,k1,k2,k3,k4,k5,rfl⟩:=hc 0 (wd,m) rfl
  dsimp only at k1 k2
  simp only [Nat.zero_mul,Nat.add_zero] at k1 k2
  have DG:Hid (∀ w1,Below w.heap.size w w1→Calls Tryz.prog 34 #[.agg #[.int .i64 (wd:Int),u0]] w1 fun e w'=>∃ ao cap,e=.returned (.slice ao wd cap)∧BoF w' (.slice ao wd cap) wd (val B64 xs)∧Below w1.heap.size w1 w'):=Lib.hid (fun w1 hw=>digits_any wd hw4 u0 xs w1 (k3.below hw) k4)
  have CL:Hid (∀ w1,Below w.heap.size w w1→w1.cell? ⟨b,off,none⟩=some (.int .i64 (wd:Int))∧w1.cell? ⟨b,off+1,none⟩=some u0):=Lib.hid (fun w1 hw =>
    ⟨(hw.cell (p:=⟨b,off,none⟩) hlt).trans k1,(hw.cell (p:=⟨b,off+1,none⟩) hlt).trans k2⟩)
  obtain ⟨o0,c0,rfl⟩:=k3.shape
  generalize val B64 xs=m at *
  generalize xs.length=kx at *
  clear k1 k2 k3 k4 k5 hc hlt
  simp only [List.length_cons,List.length_nil] at *
  obtain ⟨z0,z1⟩:=CL.out w (Below.refl _ _)
  have HW4:(0:Int)<(wd:Int):=by omega
  go_enter Tryz.func18,Tryz.ntmps18
  go_wp2_with fail
  refine (DG.out w (Below.refl _ _)).mono ?_
  rintro e W ⟨ao',cap',rfl,hF,hb⟩
  have HF:=Lib.hid hF
  have BW:=Lib.hid hb
  clear hF hb z0 z1
  go_wp2_with fail
  go_loopw [11,12] (fun v i wr=>BwO W wr (fun i=>m.testBit ((i+(wd - p % wd)) % wd)) wx v i) (fun _ i _=>wx - (intOf i).toNat)
  case atStart=>exact ⟨0,Nat.zero_le _,rfl,World.ownsRow_nil _ _ _ _,Below.refl _ _⟩
  case round =>
    obtain ⟨k,hk,rfl,hown,hB⟩:=hrel
    have HB:=Lib.hid hB; have HO:=Lib.hid hown
    obtain ⟨z0,z1⟩:=CL.out wr (below_of BW.out hB)
    have y0:=PC.out wr (below_of BW.out hB)
    clear hB hown
    by_cases hlt:k<wx
    · have MS:=Lib.hid (mapF_succ (fun i=>m.testBit ((i+(wd - p % wd)) % wd)) k)
      have HLN:Hid ((mapF (fun i=>m.testBit ((i+(wd - p % wd)) % wd)) k).length≤16777216):=Lib.hid (by rw [mapF_len]; omega)
      obtain ⟨aa,ac,ea,ha⟩:=HF.out.below HB.out
      simp only [Value.slice.injEq] at ea
      obtain ⟨rfl,-,rfl⟩:=ea
      obtain ⟨ab,aof,rfl,halt,ha⟩:=ha (by omega)
      have hj:(k+(wd - p % wd)) % wd<wd:=Nat.mod_lt _ (by omega)
      have ca:=ha ((k+(wd - p % wd)) % wd) hj
      clear ha
      have hr2:=rotL_int (wd:=wd) (p:=p) (i:=k) (by omega)
      have e1:-(wd:Int)<((k:Int) - (p:Int)).tmod (wd:Int):=Int.lt_tmod_of_pos _ (by omega)
      have e2:((k:Int) - (p:Int)).tmod (wd:Int)<(wd:Int):=Int.tmod_lt_of_pos _ (by omega)
      have hr1:((k:Int) - (p:Int)).tmod (wd:Int)=((k:Int) - (p:Int)).tmod (wd:Int):=rfl
      generalize hY:((k:Int) - (p:Int)).tmod (wd:Int)=y at *
      clear hr1
      generalize (k+(wd - p % wd)) % wd=j at *
      generalize m.testBit j=t at *
      go_wp2_with (refine append_bool (o:=⟨some 174,_,_,_,_,_⟩) rfl _ _ rfl W.heap.size _ _ (t) ⟨wr.heap.size,0,none⟩ rfl rfl (HO.out.alloc _) (World.cell?_alloc_new _ _ _ _) HLN.out (by have:=HB.out.size; simp; omega) ?_; intro v' w9 hown9 hg9; have HO9:=Lib.hid hown9; have HB9:=Lib.hid (below_own (HB.out.alloc HB.out.size _) (HO.out.alloc _) hg9 (by have:=HB.out.size; simp; omega)); clear hown9 hg9)
      go_roundw
      case rel=>exact ⟨k+1,hlt,by go_num,by rw [MS.out]; exact HO9.out,HB9.out⟩
      case measure=>simp [intOf]; omega
    · obtain rfl:k=wx:=by omega
      have BL:=own_bol HO.out
      obtain ⟨a1,c1',e1,-⟩:=BL
      have HBL:=Lib.hid (own_bol HO.out)
      subst e1
      rw [mapF_len] at HBL
      rw [mapF_len]
      go_wp2
      go_ret
      exact ⟨_,rfl,HBL.out,below_of BW.out HB.out⟩
end Go.Proofs.YtacbkpenohcgjaaGreat
namespace Go.Proofs.YtacbkpenohcgjaaGreat
open Go.RowKit Mth
theorem moved_60 (pv av:Value) (wd m n:Nat)  (wx:Nat) (w:World) (hp:∃ po pn pc,pv=.slice po pn pc) (h:BvL w av [(wd,m),(wd,n)]) (hw1:1≤wd) (hw4:wd≤4096) (hwx:wx=wd) (hwx4:wx≤4096)  :
    Calls Tryz.prog 18 #[.int .i64 60,pv,av,.int .i64 (wx:Int)] w fun e w'=>∃ v',e=.returned v'∧BoL w' v' (mapF (fun i=>decide (shN wd n≤i)&&m.testBit (i - shN wd n)) wx)∧Below w.heap.size w w':=by
  have HWX:=Lib.hid hwx
  clear hwx
  obtain ⟨po,pn,pc,rfl⟩:=hp
  obtain ⟨ao,cap,rfl,hc⟩:=h
  obtain ⟨b,off,rfl,hlt,hc⟩:=hc (by simp)
  obtain ⟨u0,xs,k1,k2,k3,k4,k5,rfl⟩:=hc 0 (wd,m) rfl
  obtain ⟨u1,ys,l1,l2,l3,l4,l5,rfl⟩:=hc 1 (wd,n) rfl
  dsimp only at k1 k2 l1 l2
  simp only [Nat.zero_mul,Nat.add_zero,Nat.one_mul] at k1 k2 l1 l2
  have DG:Hid (∀ w1,Below w.heap.size w w1→Calls Tryz.prog 34 #[.agg #[.int .i64 (wd:Int),u0]] w1 fun e w'=>∃ ao cap,e=.returned (.slice ao wd cap)∧BoF w' (.slice ao wd cap) wd (val B64 xs)∧Below w1.heap.size w1 w'):=Lib.hid (fun w1 hw=>digits_any wd hw4 u0 xs w1 (k3.below hw) k4)
  have SH:Hid (∀ w1,Below w.heap.size w w1→Calls Tryz.prog 36 #[.agg #[.int .i64 (wd:Int),u1],.int .i64 (wd:Int)] w1 fun e w'=>e=.returned (.int .i64 ((shN wd (val B64 ys):Nat):Int))∧Below w1.heap.size w1 w'):=Lib.hid (fun w1 hw=>rshift_any wd _ hw4 _ u1 ys w1 (l3.below hw) l4 l5 rfl)
  have CL:Hid (∀ w1,Below w.heap.size w w1→w1.cell? ⟨b,off,none⟩=some (.int .i64 (wd:Int))∧w1.cell? ⟨b,off+1,none⟩=some u0∧w1.cell? ⟨b,off+2,none⟩=some (.int .i64 (wd:Int))∧w1.cell? ⟨b,off+2+1,none⟩=some u1):=Lib.hid (fun w1 hw =>
    ⟨(hw.cell (p:=⟨b,off,none⟩) hlt).trans k1,(hw.cell (p:=⟨b,off+1,none⟩) hlt).trans k2,(hw.cell (p:=⟨b,off+2,none⟩) hlt).trans l1,(hw.cell (p:=⟨b,off+2+1,none⟩) hlt).trans l2⟩)
  obtain ⟨o0,c0,rfl⟩:=k3.shape
  obtain ⟨o1,c1,rfl⟩:=l3.shape
  have hsh:=shN_le wd (val B64 ys)
  generalize shN wd (val B64 ys)=s at *
  generalize val B64 xs=m at *
  generalize xs.length=kx at *
  generalize ys.length=ky at *
  clear k1 k2 k3 k4 k5 l1 l2 l3 l4 l5 hc hlt
  simp only [List.length_cons,List.length_nil] at *
  obtain ⟨z0,z1,z2,z3⟩:=CL.out w (Below.refl _ _)
  have HW4:(0:Int)<(wd:Int):=by omega
  go_enter Tryz.func18,Tryz.ntmps18
  go_wp2_with fail
  refine (DG.out w (Below.refl _ _)).mono ?_
  rintro e W ⟨ao',cap',rfl,hF,hb⟩
  have HF:=Lib.hid hF
  have BW:=Lib.hid hb
  clear hF hb z0 z1 z2 z3
  go_wp2_with fail
  go_loopw [11,12] (fun v i wr=>BwO W wr (fun i=>decide (s≤i)&&m.testBit (i - s)) wx v i) (fun _ i _=>wx - (intOf i).toNat)
  case atStart=>exact ⟨0,Nat.zero_le _,rfl,World.ownsRow_nil _ _ _ _,Below.refl _ _⟩
  case round =>
    obtain ⟨k,hk,rfl,hown,hB⟩:=hrel
    have HB:=Lib.hid hB; have HO:=Lib.hid hown
    obtain ⟨z0,z1,z2,z3⟩:=CL.out wr (below_of BW.out hB)
    clear hB hown
    by_cases hlt:k<wx
    · have MS:=Lib.hid (mapF_succ (fun i=>decide (s≤i)&&m.testBit (i - s)) k)
      have HLN:Hid ((mapF (fun i=>decide (s≤i)&&m.testBit (i - s)) k).length≤16777216):=Lib.hid (by rw [mapF_len]; omega)
      obtain ⟨aa,ac,ea,ha⟩:=HF.out.below HB.out
      simp only [Value.slice.injEq] at ea
      obtain ⟨rfl,-,rfl⟩:=ea
      obtain ⟨ab,aof,rfl,halt,ha⟩:=ha (by omega)
      by_cases hkw:s≤k
      · have hwx:=HWX.out
        have hj:k - s<wd:=by omega
        clear hwx
        have ca:=ha (k - s) hj
        clear ha
        have hkI:(s:Int)≤(k:Int):=by omega
        have hix:(k:Int) - (s:Int)=((k - s:Nat):Int):=by omega
        rw [show (decide (s≤k)&&m.testBit (k - s))=m.testBit (k - s) by rw [decide_eq_true hkw]; rfl] at MS
        generalize k - s=j at *
        generalize m.testBit j=t at *
        go_wp2_with fail
        refine (SH.out wr (below_of BW.out HB.out)).mono ?_
        rintro e w8 ⟨rfl,hb8⟩
        have HO8:=Lib.hid (own_belowB HO.out hb8)
        have HB8:=Lib.hid (below_of HB.out hb8)
        have ca8:=(hb8.cell (p:=⟨ab,aof+j,none⟩) halt).trans ca
        have halt8:=Nat.lt_of_lt_of_le halt hb8.size
        clear ca
        clear hb8
        go_wp2_with (refine append_bool (o:=⟨some 174,_,_,_,_,_⟩) rfl _ _ rfl W.heap.size _ _ (t) ⟨w8.heap.size,0,none⟩ rfl rfl (HO8.out.alloc _) (World.cell?_alloc_new _ _ _ _) HLN.out (by have:=HB8.out.size; simp; omega) ?_; intro v' w9 hown9 hg9; have HO9:=Lib.hid hown9; have HB9:=Lib.hid (below_own (HB8.out.alloc HB8.out.size _) (HO8.out.alloc _) hg9 (by have:=HB8.out.size; simp; omega)); clear hown9 hg9)
        go_roundw
        case rel=>exact ⟨k+1,hlt,by go_num,by rw [MS.out]; exact HO9.out,HB9.out⟩
        case measure=>simp [intOf]; omega
      · have hkI:¬ (s:Int)≤(k:Int):=by omega
        rw [show (decide (s≤k)&&m.testBit (k - s))=false by rw [decide_eq_false hkw]; rfl] at MS
        go_wp2_with fail
        refine (SH.out wr (below_of BW.out HB.out)).mono ?_
        rintro e w8 ⟨rfl,hb8⟩
        have HO8:=Lib.hid (own_belowB HO.out hb8)
        have HB8:=Lib.hid (below_of HB.out hb8)
        clear hb8
        go_wp2_with (refine append_bool (o:=⟨some 174,_,_,_,_,_⟩) rfl _ _ rfl W.heap.size _ _ (false) ⟨w8.heap.size,0,none⟩ rfl rfl (HO8.out.alloc _) (World.cell?_alloc_new _ _ _ _) HLN.out (by have:=HB8.out.size; simp; omega) ?_; intro v' w9 hown9 hg9; have HO9:=Lib.hid hown9; have HB9:=Lib.hid (below_own (HB8.out.alloc HB8.out.size _) (HO8.out.alloc _) hg9 (by have:=HB8.out.size; simp; omega)); clear hown9 hg9)
        go_roundw
        case rel=>exact ⟨k+1,hlt,by go_num,by rw [MS.out]; exact HO9.out,HB9.out⟩
        case measure=>simp [intOf]; omega
    · obtain rfl:k=wx:=by omega
      have BL:=own_bol HO.out
      obtain ⟨a1,c1',e1,-⟩:=BL
      have HBL:=Lib.hid (own_bol HO.out)
      subst e1
      rw [mapF_len] at HBL
      rw [mapF_len]
      go_wp2
      go_ret
      exact ⟨_,rfl,HBL.out,below_of BW.out HB.out⟩
end Go.Proofs.YtacbkpenohcgjaaGreat
namespace Go.Proofs.YtacbkpenohcgjaaGreat
open Go.RowKit Mth
theorem moved_41 (pv av:Value) (wd wd2 m n:Nat)  (wx:Nat) (w:World) (hp:∃ po pn pc,pv=.slice po pn pc) (h:BvL w av [(wd,m),(wd2,n)]) (hw1:1≤wd) (hw4:wd≤4096) (hwx:wx=wd+wd2) (hwx4:wx≤4096) (hw2:wd2≤4096) :
    Calls Tryz.prog 18 #[.int .i64 41,pv,av,.int .i64 (wx:Int)] w fun e w'=>∃ v',e=.returned v'∧BoL w' v' (mapF (fun i=>if i<wd2 then n.testBit i else m.testBit (i - wd2)) wx)∧Below w.heap.size w w':=by
  have HWX:=Lib.hid hwx
  clear hwx
  obtain ⟨po,pn,pc,rfl⟩:=hp
  obtain ⟨ao,cap,rfl,hc⟩:=h
  obtain ⟨b,off,rfl,hlt,hc⟩:=hc (by simp)
  obtain ⟨u0,xs,k1,k2,k3,k4,k5,rfl⟩:=hc 0 (wd,m) rfl
  obtain ⟨u1,ys,l1,l2,l3,l4,l5,rfl⟩:=hc 1 (wd2,n) rfl
  dsimp only at k1 k2 l1 l2
  simp only [Nat.zero_mul,Nat.add_zero,Nat.one_mul] at k1 k2 l1 l2
  have DG:Hid (∀ w1,Below w.heap.size w w1→Calls Tryz.prog 34 #[.agg #[.int .i64 (wd:Int),u0]] w1 fun e w'=>∃ ao cap,e=.returned (.slice ao wd cap)∧BoF w' (.slice ao wd cap) wd (val B64 xs)∧Below w1.heap.size w1 w'):=Lib.hid (fun w1 hw=>digits_any wd hw4 u0 xs w1 (k3.below hw) k4)
  have BI:Hid (∀ w1,Below w.heap.size w w1→∀ i:Nat,i≤16777216→Calls Tryz.prog 16 #[.agg #[.int .i64 (wd2:Int),u1],.int .i64 (i:Int)] w1 fun e w'=>e=.returned (.bool ((val B64 ys).testBit i))∧Below w1.heap.size w1 w'):=Lib.hid (fun w1 hw i hi=>by
    have h:=rbit9_any (wd2:Int) _ ys i hi w1 (l3.below hw) l4
    rw [bitN_tb] at h
    exact h)
  have CL:Hid (∀ w1,Below w.heap.size w w1→w1.cell? ⟨b,off,none⟩=some (.int .i64 (wd:Int))∧w1.cell? ⟨b,off+1,none⟩=some u0∧w1.cell? ⟨b,off+2,none⟩=some (.int .i64 (wd2:Int))∧w1.cell? ⟨b,off+2+1,none⟩=some u1):=Lib.hid (fun w1 hw =>
    ⟨(hw.cell (p:=⟨b,off,none⟩) hlt).trans k1,(hw.cell (p:=⟨b,off+1,none⟩) hlt).trans k2,(hw.cell (p:=⟨b,off+2,none⟩) hlt).trans l1,(hw.cell (p:=⟨b,off+2+1,none⟩) hlt).trans l2⟩)
  obtain ⟨o0,c0,rfl⟩:=k3.shape
  obtain ⟨o1,c1,rfl⟩:=l3.shape
  generalize val B64 xs=m at *
  generalize val B64 ys=n at *
  generalize xs.length=kx at *
  generalize ys.length=ky at *
  clear k1 k2 k3 k4 k5 l1 l2 l3 l4 l5 hc hlt
  simp only [List.length_cons,List.length_nil] at *
  obtain ⟨z0,z1,z2,z3⟩:=CL.out w (Below.refl _ _)
  have HW4:(0:Int)<(wd:Int):=by omega
  go_enter Tryz.func18,Tryz.ntmps18
  go_wp2_with fail
  refine (DG.out w (Below.refl _ _)).mono ?_
  rintro e W ⟨ao',cap',rfl,hF,hb⟩
  have HF:=Lib.hid hF
  have BW:=Lib.hid hb
  clear hF hb z0 z1 z2 z3
  go_wp2_with fail
  go_loopw [11,12] (fun v i wr=>BwO W wr (fun i=>if i<wd2 then n.testBit i else m.testBit (i - wd2)) wx v i) (fun _ i _=>wx - (intOf i).toNat)
  case atStart=>exact ⟨0,Nat.zero_le _,rfl,World.ownsRow_nil _ _ _ _,Below.refl _ _⟩
  case round =>
    obtain ⟨k,hk,rfl,hown,hB⟩:=hrel
    have HB:=Lib.hid hB; have HO:=Lib.hid hown
    obtain ⟨z0,z1,z2,z3⟩:=CL.out wr (below_of BW.out hB)
    clear hB hown
    by_cases hlt:k<wx
    · have MS:=Lib.hid (mapF_succ (fun i=>if i<wd2 then n.testBit i else m.testBit (i - wd2)) k)
      have HLN:Hid ((mapF (fun i=>if i<wd2 then n.testBit i else m.testBit (i - wd2)) k).length≤16777216):=Lib.hid (by rw [mapF_len]; omega)
      obtain ⟨aa,ac,ea,ha⟩:=HF.out.below HB.out
      simp only [Value.slice.injEq] at ea
      obtain ⟨rfl,-,rfl⟩:=ea
      obtain ⟨ab,aof,rfl,halt,ha⟩:=ha (by omega)
      by_cases hkw:k<wd2
      · have hkI:(k:Int)<(wd2:Int):=by omega
        rw [if_pos hkw] at MS
        have BT:=Lib.hid (BI.out wr (below_of BW.out HB.out) k (by omega))
        generalize n.testBit k=t at *
        go_wp2_with fail
        refine BT.out.mono ?_
        rintro e w8 ⟨rfl,hb8⟩
        have HO8:=Lib.hid (own_belowB HO.out hb8)
        have HB8:=Lib.hid (below_of HB.out hb8)
        clear hb8
        go_wp2_with (refine append_bool (o:=⟨some 174,_,_,_,_,_⟩) rfl _ _ rfl W.heap.size _ _ (t) ⟨w8.heap.size,0,none⟩ rfl rfl (HO8.out.alloc _) (World.cell?_alloc_new _ _ _ _) HLN.out (by have:=HB8.out.size; simp; omega) ?_; intro v' w9 hown9 hg9; have HO9:=Lib.hid hown9; have HB9:=Lib.hid (below_own (HB8.out.alloc HB8.out.size _) (HO8.out.alloc _) hg9 (by have:=HB8.out.size; simp; omega)); clear hown9 hg9)
        go_roundw
        case rel=>exact ⟨k+1,hlt,by go_num,by rw [MS.out]; exact HO9.out,HB9.out⟩
        case measure=>simp [intOf]; omega
      · have hkI:¬ (k:Int)<(wd2:Int):=by omega
        rw [if_neg hkw] at MS
        have hwx:=HWX.out
        have hj:k - wd2<wd:=by omega
        have ca:=ha (k - wd2) hj
        clear ha
        have hix:(k:Int) - (wd2:Int)=((k - wd2:Nat):Int):=by omega
        clear hwx
        generalize k - wd2=j at *
        generalize m.testBit j=t at *
        go_wp2_with (refine append_bool (o:=⟨some 174,_,_,_,_,_⟩) rfl _ _ rfl W.heap.size _ _ (t) ⟨wr.heap.size,0,none⟩ rfl rfl (HO.out.alloc _) (World.cell?_alloc_new _ _ _ _) HLN.out (by have:=HB.out.size; simp; omega) ?_; intro v' w9 hown9 hg9; have HO9:=Lib.hid hown9; have HB9:=Lib.hid (below_own (HB.out.alloc HB.out.size _) (HO.out.alloc _) hg9 (by have:=HB.out.size; simp; omega)); clear hown9 hg9)
        go_roundw
        case rel=>exact ⟨k+1,hlt,by go_num,by rw [MS.out]; exact HO9.out,HB9.out⟩
        case measure=>simp [intOf]; omega
    · obtain rfl:k=wx:=by omega
      have BL:=own_bol HO.out
      obtain ⟨a1,c1',e1,-⟩:=BL
      have HBL:=Lib.hid (own_bol HO.out)
      subst e1
      rw [mapF_len] at HBL
      rw [mapF_len]
      go_wp2
      go_ret
      exact ⟨_,rfl,HBL.out,below_of BW.out HB.out⟩
end Go.Proofs.YtacbkpenohcgjaaGreat
