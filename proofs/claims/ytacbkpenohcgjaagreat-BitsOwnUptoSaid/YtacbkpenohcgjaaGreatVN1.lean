import Derived.Test.YtacbkpenohcgjaaGreatVMB
import Derived.Deep.WholeRow
import Derived.Lib.Hide
import Derived.Test.YtacbkpenohcgjaaGreatVZ1
import Derived.Deep.RegionHeld3
import Derived.BigRegion
set_option linter.unusedVariables false
set_option linter.unusedSimpArgs false
set_option maxHeartbeats 16000000
set_option maxRecDepth 100000
namespace Go.Proofs.YtacbkpenohcgjaaGreat
open Go.RowKit Mth
theorem upon_storeBig {w:World} {t:TypeId} {c tab:Array Value} {l:List Value} {o:Oper} {a:Act} {K:Act→World→Prop} {Q:Exit→Act→World→Prop} (hd:o.dst=none) (hl:l.toArray=tab) (hi:(Tryz.prog.info? t).map (·.size)=some tab.size) (ho:c.size=tab.size) (h1:tab.all (·.oneCell')=true) (h:K a (w.alloc (.cells tab t))) :
    Oper.upon Tryz.prog o a K Q ((Sem.run Tryz.prog (storeCells ⟨w.heap.size,0,none⟩ l) (w.alloc (.cells c t))).andThen fun _ w'=>Result.ok Next.skip w'):=by
  subst hl
  have hs:=run_storeCells_new (P:=Tryz.prog) w t c l.toArray hi ho h1
  rw [show l.toArray.toList=l from rfl] at hs
  rw [show Sem.run Tryz.prog (storeCells ⟨w.heap.size,0,none⟩ l) (w.alloc (.cells c t))=_ from hs]
  simp only [Result.andThen]
  rw [Oper.upon_skip,hd]
  exact h
def opRow (k:Nat):List Value:=match k with
  | 41=>[.int .i64 2,.nilFunc,.bool true,.func (.func 54) #[] #[],.func (.func 55) #[] #[]]
  | 42=>[.int .i64 1,.func (.func 56) #[] #[],.bool false,.func (.func 57) #[] #[],.func (.func 58) #[] #[]]
  | 43=>[.int .i64 1,.nilFunc,.bool false,.nilFunc,.func (.func 59) #[] #[]]
  | 44=>[.int .i64 1,.nilFunc,.bool false,.nilFunc,.func (.func 60) #[] #[]]
  | 45=>[.int .i64 2,.nilFunc,.bool false,.nilFunc,.func (.func 61) #[] #[]]
  | 46=>[.int .i64 2,.nilFunc,.bool false,.nilFunc,.func (.func 62) #[] #[]]
  | 47=>[.int .i64 2,.nilFunc,.bool false,.nilFunc,.func (.func 63) #[] #[]]
  | 48=>[.int .i64 2,.nilFunc,.bool false,.nilFunc,.func (.func 64) #[] #[]]
  | 49=>[.int .i64 2,.nilFunc,.bool false,.nilFunc,.func (.func 65) #[] #[]]
  | 50=>[.int .i64 2,.nilFunc,.bool false,.nilFunc,.func (.func 66) #[] #[]]
  | 51=>[.int .i64 2,.nilFunc,.bool false,.func (.func 67) #[] #[],.func (.func 68) #[] #[]]
  | 52=>[.int .i64 2,.nilFunc,.bool false,.nilFunc,.func (.func 69) #[] #[]]
  | 53=>[.int .i64 2,.nilFunc,.bool false,.nilFunc,.func (.func 70) #[] #[]]
  | 54=>[.int .i64 2,.nilFunc,.bool false,.nilFunc,.func (.func 71) #[] #[]]
  | 55=>[.int .i64 2,.nilFunc,.bool false,.nilFunc,.func (.func 72) #[] #[]]
  | 56=>[.int .i64 2,.nilFunc,.bool false,.nilFunc,.func (.func 73) #[] #[]]
  | 57=>[.int .i64 2,.nilFunc,.bool false,.nilFunc,.func (.func 74) #[] #[]]
  | 58=>[.int .i64 2,.nilFunc,.bool false,.nilFunc,.func (.func 75) #[] #[]]
  | 59=>[.int .i64 2,.nilFunc,.bool false,.nilFunc,.func (.func 76) #[] #[]]
  | 60=>[.int .i64 2,.nilFunc,.bool false,.nilFunc,.func (.func 77) #[] #[]]
  | 61=>[.int .i64 2,.nilFunc,.bool false,.nilFunc,.func (.func 78) #[] #[]]
  | 62=>[.int .i64 2,.nilFunc,.bool false,.nilFunc,.func (.func 79) #[] #[]]
  | 63=>[.int .i64 1,.func (.func 80) #[] #[],.bool false,.func (.func 81) #[] #[],.func (.func 82) #[] #[]]
  | 64=>[.int .i64 1,.func (.func 83) #[] #[],.bool false,.func (.func 84) #[] #[],.func (.func 85) #[] #[]]
  | 65=>[.int .i64 1,.func (.func 83) #[] #[],.bool false,.func (.func 84) #[] #[],.func (.func 86) #[] #[]]
  | 66=>[.int .i64 1,.func (.func 83) #[] #[],.bool false,.nilFunc,.func (.func 87) #[] #[]]
  | 67=>[.int .i64 1,.func (.func 83) #[] #[],.bool false,.nilFunc,.func (.func 88) #[] #[]]
  | _=>[.int .i64 0,.nilFunc,.bool false,.nilFunc,.nilFunc]
def opTab:Array Value:=((List.range 68).flatMap opRow).toArray
theorem opTab_size:opTab.size=340:=by kernel_rfl
theorem info_ops:(Tryz.prog.info? 66).map (·.size)=some opTab.size:=by kernel_rfl
theorem opTab_one:opTab.all (·.oneCell')=true:=by kernel_rfl
theorem zero_ops:Tryz.zeroCells66.size=opTab.size:=by kernel_rfl
theorem operators_any (w:World):Calls Tryz.prog 23 #[] w fun e w'=>e=.returned (.agg opTab)∧Below w.heap.size w w':=by
  have BA:=Lib.hid ((Below.refl w.heap.size w).alloc (Nat.le_refl _) (.cells opTab 66))
  go_enter Tryz.func23,Tryz.ntmps23
  go_wp2_with fail
  refine upon_storeBig (tab:=opTab) rfl (by kernel_rfl) info_ops zero_ops opTab_one ?_
  go_wp2_with fail
  refine bodyPost_ret (v:=.agg opTab) ?_ rfl ⟨rfl,BA.out⟩
  have hld:=run_loadVar_new (P:=Tryz.prog) w 66 opTab 68 42 Tryz.underlying66 info_ops
  simp [results,Tryz.results23,asAddr,Result.andThen,hld]
end Go.Proofs.YtacbkpenohcgjaaGreat
namespace Go.Proofs.YtacbkpenohcgjaaGreat
open Go.RowKit Mth
theorem blk5o {w:World} {g:Nat} {T:TypeId} {x0 x1 x2 x3 x4:Value} (h:w.heap[g]?=some (.cells #[x0,x1,x2,x3,x4] T (0,0))) :
    w.cell? ⟨g,0,none⟩=some x0∧w.cell? ⟨g,1,none⟩=some x1∧w.cell? ⟨g,2,none⟩=some x2∧w.cell? ⟨g,3,none⟩=some x3∧w.cell? ⟨g,4,none⟩=some x4:=by
  refine ⟨?_, ?_, ?_, ?_, ?_⟩<;>(rw [cell_of_row w g _ _ _ (0,0) h]; rfl)
theorem hsc_row {w:World} {g i:Nat} {cs ds:Array Value} {T:TypeId} {v:Value} (h:w.heap[g]?=some (.cells cs T (0,0))) (hd:cs.setIfInBounds i v=ds):(w.setCell ⟨g,i,none⟩ v).heap[g]?=some (.cells ds T (0,0)):=by
  have hlt:=(Array.getElem?_eq_some_iff.1 h).1
  have h':w.heap[g]=.cells cs T (0,0):=by simpa [Array.getElem?_eq_getElem hlt] using h
  show (w.heap.modify g _)[g]?=_
  rw [Array.getElem?_eq_getElem (by simpa using hlt),Array.getElem_modify_self,h']
  subst hd
  rfl
theorem set5_row {w:World} {g:Nat} {T:TypeId} {y0 y1 y2 y3 y4:Value} (x0 x1 x2 x3 x4:Value) (h:w.heap[g]?=some (.cells #[y0,y1,y2,y3,y4] T (0,0))) :
    (((((w.setCell ⟨g,0,none⟩ x0).setCell ⟨g,1,none⟩ x1).setCell ⟨g,2,none⟩ x2).setCell ⟨g,3,none⟩ x3).setCell ⟨g,4,none⟩ x4).heap[g]?=some (.cells #[x0,x1,x2,x3,x4] T (0,0)):=by
  refine hsc_row (cs:=#[x0,x1,x2,x3,y4]) ?_ rfl
  refine hsc_row (cs:=#[x0,x1,x2,y3,y4]) ?_ rfl
  refine hsc_row (cs:=#[x0,x1,y2,y3,y4]) ?_ rfl
  refine hsc_row (cs:=#[x0,y1,y2,y3,y4]) ?_ rfl
  exact hsc_row h rfl
theorem results_op {fn:Func} {tmps:Array Value} {w:World} {g:Nat} {x0 x1 x2 x3 x4 u:Value} (h:fn.results=#[.cell 2 42,.tmp 3]) (h1:tmps.getD 2 undef=.pointer (some ⟨g,0,none⟩)) (h2:tmps.getD 3 undef=u) (hb:w.heap[g]?=some (.cells #[x0,x1,x2,x3,x4] 42 (0,0))) :
    (results fn tmps).run Tryz.prog w=.ok (.tuple #[.agg #[x0,x1,x2,x3,x4],u]) w:=by
  obtain ⟨c0,c1,c2,c3,c4⟩:=blk5o hb
  rw [Array.getD_eq_getD_getElem?] at h1 h2
  simp [results,h,h1,h2,go_sem,c0,c1,c2,c3,c4]
theorem opTab_list:opTab.toList.toArray=opTab:=by simp
theorem operatorOf_at (k:Nat) (hk:k<68) (n:Int) (b d:Value) (m:Bool) (f:Nat) (hb:b.oneCell'=true) (hd:d.oneCell'=true) (h0:opTab[k*5]?=some (.int .i64 n)) (h1:opTab[k*5+1]?=some b) (h2:opTab[k*5+2]?=some (.bool m)) (h3:opTab[k*5+3]?=some d) (h4:opTab[k*5+4]?=some (.func (.func f) #[] #[])) (w:World) :
    Calls Tryz.prog 9 #[.int .i64 (k:Int)] w fun e w'=>e=.returned (.tuple #[.agg #[.int .i64 n,b,.bool m,d,.func (.func f) #[] #[]],.bool true])∧Below w.heap.size w w':=by
  obtain ⟨W,eW,gW,bW,hWs⟩:=alloc1 w (Obj.cells #[.int .i64 0,.nilFunc,.bool false,.nilFunc,.nilFunc] 42)
  have OP:=Lib.hid (operators_any W)
  have GW:Hid (W.heap[w.heap.size]?=_):=Lib.hid gW
  have BW:=Lib.hid bW
  have hT:=opTab_size
  have hsb:∀ (a:Addr) (W:World) m,Sem.run Tryz.prog (store a b m) W=stored Tryz.prog W a b m:=fun a W m=>run_store Tryz.prog W a b m hb
  have hsf:∀ (a:Addr) (W:World) m,Sem.run Tryz.prog (store a (.func (.func f) #[] #[]) m) W=stored Tryz.prog W a (.func (.func f) #[] #[]) m:=fun a W m=>run_store Tryz.prog W a _ m rfl
  have hsd:∀ (a:Addr) (W:World) m,Sem.run Tryz.prog (store a d m) W=stored Tryz.prog W a d m:=fun a W m=>run_store Tryz.prog W a d m hd
  have hbn:∀ W,Sem.run Tryz.prog (binOp BinOp.neq 40 (Value.func (Fn.func f) #[] #[]) Value.nilFunc) W=.ok (.bool true) W:=fun W=>by kernel_rfl
  have HT:Hid (opTab[k*5]?=some (.int .i64 n)∧opTab[k*5+1]?=some b∧opTab[k*5+2]?=some (.bool m)∧opTab[k*5+3]?=some d∧opTab[k*5+4]?=some (.func (.func f) #[] #[])):=Lib.hid ⟨h0,h1,h2,h3,h4⟩
  clear gW bW h0 h1 h2 h3 h4
  go_enter Tryz.func9,Tryz.ntmps9
  go_wp2_with fail
  try rw [eW]
  refine OP.out.mono ?_
  rintro e w1 ⟨rfl,hb1⟩
  have HB1:=Lib.hid hb1
  have G1:=Lib.hid ((hb1.block _ hWs).trans GW.out)
  clear hb1 OP
  go_wp2_with fail
  refine upon_storeBig (tab:=opTab) rfl opTab_list info_ops zero_ops opTab_one ?_
  obtain ⟨V,eV,gV,bV,hVs⟩:=alloc1 w1 (Obj.cells opTab 66)
  rw [eV]
  have hc:∀ j,V.cell? ⟨w1.heap.size,j,none⟩=opTab[j]?:=fun j=>cell_of_row V w1.heap.size j _ _ (0,0) gV
  have c0:=(hc _).trans HT.out.1; have c1:=(hc _).trans HT.out.2.1; have c2:=(hc _).trans HT.out.2.2.1; have c3:=(hc _).trans HT.out.2.2.2.1; have c4:=(hc _).trans HT.out.2.2.2.2
  obtain ⟨y0,y1,y2,y3,y4⟩:=blk5o (bV.block _ (by have:=HB1.out.size; omega) |>.trans G1.out)
  have G5:=Lib.hid (bV.block _ (by have:=HB1.out.size; omega) |>.trans G1.out)
  have fz:∀ i,V.frozen? ⟨w.heap.size,i,none⟩=false:=fun i=>frozen_of_row V w.heap.size i _ _ (bV.block _ (by have:=HB1.out.size; omega) |>.trans G1.out)
  have f0:=fz 0; have f1:=fz 1; have f2:=fz 2; have f3:=fz 3; have f4:=fz 4
  have BV:=Lib.hid (below_of BW.out (below_of HB1.out bV))
  have hl1:w.heap.size<w1.heap.size:=Nat.lt_of_lt_of_le hWs HB1.out.size
  have hn1:w1.heap.size≠w.heap.size:=by omega
  have hn2:w.heap.size≠w1.heap.size:=by omega
  clear hc fz
  go_wp2_with fail
  go_region_with fail
  all_goals
    go_wp2
    refine bodyPost_ret (v:=.tuple #[.agg #[.int .i64 n,b,.bool m,d,.func (.func f) #[] #[]],.bool true]) ?_ rfl ⟨rfl, ?_⟩
    · exact results_op rfl rfl rfl (set5_row (.int .i64 n) b (.bool m) d (.func (.func f) #[] #[]) G5.out)
    · exact (((((BV.out.setCell (Nat.le_refl _) _).setCell (Nat.le_refl _) _).setCell (Nat.le_refl _) _).setCell (Nat.le_refl _) _).setCell (Nat.le_refl _) _).drew
end Go.Proofs.YtacbkpenohcgjaaGreat
