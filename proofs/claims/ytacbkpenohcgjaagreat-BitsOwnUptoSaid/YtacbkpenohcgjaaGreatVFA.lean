import Derived.Test.YtacbkpenohcgjaaGreatVYJ
import Derived.Test.YtacbkpenohcgjaaGreatVZB4
import Derived.Deep.RegionHeld3
set_option linter.unusedVariables false
set_option linter.unusedSimpArgs false
set_option maxHeartbeats 2000000
set_option maxRecDepth 100000
namespace Go.Proofs.YtacbkpenohcgjaaGreat
open Go.RowKit Mth
theorem rnorm_any (v:Value) (z:Int) (w:World) (h:IntV w v z):Calls Tryz.prog 33 #[v] w fun e w'=>∃ v',e=.returned v'∧IntK w' v' z∧Below w.heap.size w w':=by
  obtain ⟨n,ao,k,c,rfl⟩:=h.shape
  have H:=Lib.hid h; clear h
  go_enter Tryz.func33,Tryz.ntmps33
  go_wp2_with fail
  obtain ⟨W,eW,h1,h2,bel,hsz⟩:=alloc2 w (Obj.cells #[Value.bool n,Value.slice ao k c] 50) (Obj.cells #[Value.bool false,Value.slice none 0 0] 50)
  rw [eW]
  have H2:=Lib.hid h2; have HSZ:=Lib.hid hsz; have B:=Lib.hid bel
  clear eW h1 h2 hsz bel
  refine (from_any2 _ z W (H.out.below B.out)).mono ?_
  rintro e w1 ⟨v0,rfl,hz,hb⟩
  obtain ⟨n0,a0,k0,c0,rfl⟩:=hz.shape
  have Z0:=Lib.hid hz
  have H2':=Lib.hid ((hb.block _ HSZ.out).trans H2.out); have HSZ':=Lib.hid (size_to hb HSZ.out); have B':=Lib.hid (below_of B.out hb)
  clear hz hb H2 HSZ B
  have H2:=H2'; have HSZ:=HSZ'; have B:=B'
  clear H2' HSZ' B'
  go_wp2_with fail
  refine (to_any2 _ z w1 Z0.out).mono ?_
  rintro e w9 ⟨v9,rfl,hi,hb9⟩
  have hR:=(hb9.block _ HSZ.out).trans H2.out
  obtain ⟨n9,a9,k9,c9,rfl⟩:=hi.shape
  obtain ⟨x0,x1,g0,g1,hlt⟩:=blk2 hR
  have HF:=Lib.hid (hi.far (y0:=.bool n9) (y1:=.slice a9 k9 c9) hR)
  have B9:=Lib.hid (below_of B.out hb9)
  clear hi hb9 hR hlt
  go_wp2
  refine bodyPost_ret (v:=.agg #[.bool n9,.slice a9 k9 c9]) ?_ rfl ⟨_,rfl,HF.out,(B9.out.setCell (p:=⟨w.heap.size+1,0,none⟩) (Nat.le_add_right _ _) _).setCell (p:=⟨w.heap.size+1,1,none⟩) (Nat.le_add_right _ _) _⟩
  simp [results,Tryz.results33,go_sem, *]
theorem zcmp_tt {x y:Int} (hx:x<0) (hy:y<0):zcmp x y=cmp3 y.natAbs x.natAbs:=by
  rw [← zcmp_neg y x,zcmp_abs_pos (by omega) (by omega),Int.natAbs_neg,Int.natAbs_neg]
theorem cmp1_any (va vb:Value) (x y:Int) (w:World) (ha:ZV w va x) (hb:ZV w vb y):Calls Tryz.prog 44 #[va,vb] w fun e w'=>e=.returned (.int .i64 (zcmp x y))∧Below w.heap.size w w':=by
  obtain ⟨n1,a1,k1,c1,rfl⟩:=ha.shape
  obtain ⟨n2,a2,k2,c2,rfl⟩:=hb.shape
  obtain ⟨rfl,xs,s1,l1,t1,e1,rfl⟩:=ha.parts
  obtain ⟨rfl,ys,s2,l2,t2,e2,rfl⟩:=hb.parts
  have C12:Hid (∀ w1,Below w.heap.size w w1→Calls Tryz.prog 92 #[.slice a1 xs.length c1,.slice a2 ys.length c2] w1 fun e w'=>e=.returned (.int .i64 (cmp3 x.natAbs y.natAbs))∧Below w1.heap.size w1 w'):=Lib.hid (fun w1 hb=>by
    rw [← e1,← e2]; exact cmpD_any _ _ xs ys w1 (s1.below hb) (s2.below hb) l1 l2 t1 t2)
  have C21:Hid (∀ w1,Below w.heap.size w w1→Calls Tryz.prog 92 #[.slice a2 ys.length c2,.slice a1 xs.length c1] w1 fun e w'=>e=.returned (.int .i64 (cmp3 y.natAbs x.natAbs))∧Below w1.heap.size w1 w'):=Lib.hid (fun w1 hb=>by
    rw [← e1,← e2]; exact cmpD_any _ _ ys xs w1 (s2.below hb) (s1.below hb) l2 l1 t2 t1)
  clear ha hb s1 s2 l1 l2 t1 t2 e1 e2
  generalize xs.length=k1 at *
  generalize ys.length=k2 at *
  by_cases hx:x<0<;>by_cases hy:y<0
  · have E:=Lib.hid (zcmp_tt hx hy)
    rw [sgn_neg hx,sgn_neg hy]
    clear hx hy
    go_enter Tryz.func44,Tryz.ntmps44
    go_wp2_with fail
    obtain ⟨W,eW,h1,h2,bel,hsz⟩:=alloc2 w (Obj.cells #[Value.bool true,Value.slice a1 k1 c1] 61) (Obj.cells #[Value.bool true,Value.slice a2 k2 c2] 61)
    rw [eW]
    clear eW h1 h2 hsz
    refine (C21.out W bel).mono ?_
    rintro e w1 ⟨rfl,hb1⟩
    go_wp2
    go_ret
    exact ⟨by rw [E.out]; rfl,below_of bel hb1⟩
  · have E:=Lib.hid (zcmp_lt (a:=x) (b:=y) (by omega))
    rw [sgn_neg hx,sgn_pos (z:=y) (by omega)]
    clear hx hy
    go_enter Tryz.func44,Tryz.ntmps44
    go_wp2
    go_ret
    exact ⟨by rw [E.out]; rfl,((Below.refl _ _).alloc (Nat.le_refl _) _).alloc (by simp) _⟩
  · have E:=Lib.hid (zcmp_gt (a:=x) (b:=y) (by omega))
    rw [sgn_pos (z:=x) (by omega),sgn_neg hy]
    clear hx hy
    go_enter Tryz.func44,Tryz.ntmps44
    go_wp2
    go_ret
    exact ⟨by rw [E.out]; rfl,((Below.refl _ _).alloc (Nat.le_refl _) _).alloc (by simp) _⟩
  · have E:=Lib.hid (zcmp_abs_pos (a:=x) (b:=y) (by omega) (by omega))
    rw [sgn_pos (z:=x) (by omega),sgn_pos (z:=y) (by omega)]
    clear hx hy
    go_enter Tryz.func44,Tryz.ntmps44
    go_wp2_with fail
    obtain ⟨W,eW,h1,h2,bel,hsz⟩:=alloc2 w (Obj.cells #[Value.bool false,Value.slice a1 k1 c1] 61) (Obj.cells #[Value.bool false,Value.slice a2 k2 c2] 61)
    rw [eW]
    clear eW h1 h2 hsz
    refine (C12.out W bel).mono ?_
    rintro e w1 ⟨rfl,hb1⟩
    go_wp2
    go_ret
    exact ⟨by rw [E.out]; rfl,below_of bel hb1⟩
end Go.Proofs.YtacbkpenohcgjaaGreat
