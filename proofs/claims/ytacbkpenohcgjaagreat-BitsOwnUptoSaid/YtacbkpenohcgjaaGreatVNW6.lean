import Derived.Test.YtacbkpenohcgjaaGreatVNT9
import Derived.Test.YtacbkpenohcgjaaGreatVN7
import Derived.Test.YtacbkpenohcgjaaGreatVNZ9
import Derived.Test.YtacbkpenohcgjaaGreatVNB9
import Derived.Test.YtacbkpenohcgjaaGreatVN2
import Derived.Test.YtacbkpenohcgjaaGreatVN9
import Derived.Test.YtacbkpenohcgjaaGreatVNJ9
set_option linter.unusedVariables false
set_option linter.unusedSimpArgs false
set_option maxHeartbeats 16000000
set_option maxRecDepth 100000
namespace Go.Proofs.YtacbkpenohcgjaaGreat
open Go.RowKit Mth
theorem resn_err {w w':World} {e:Ending} {er:Int} (h:e=.returned (.tuple #[BvE,.int .i64 er])∧Below w.heap.size w w'):ResN w w' e 0 er 0:=⟨none,0,0,h.1,slN_nil w',h.2⟩
def RowIs (kk n:Int) (p d:Value) (mx:Bool) (f:Nat):Prop:=∀ w1,Calls Tryz.prog 9 #[.int .i64 kk] w1 fun e w'=>e=.returned (.tuple #[.agg #[.int .i64 n,p,.bool mx,d,.func (.func f) #[] #[]],.bool true])∧Below w1.heap.size w1 w'
theorem err_51n (kk n:Int) (d:Value) (mx:Bool) (f:Nat) (hd:d.oneCell'=true) (hO:RowIs kk n .nilFunc d mx f) (pv av:Value) (w:World) (hp:∃ po pn pc,pv=.slice po pn pc) (ao:Option Addr) (ak ac:Nat) (hav:av=.slice ao ak ac) (hne:(ak:Int)≠n) :
    Calls Tryz.prog 5 #[.int .i64 kk,pv,av] w fun e w'=>ResN w w' e 0 51 0 :=
  (apply_err kk n 51 .nilFunc d mx f rfl hd (by decide) pv av w hp ⟨_,_,_,hav⟩ hO (fun w1 _=>fault_n_51 n d f hd mx pv av w1 hp ao ak ac hav hne)).mono fun _ _ h=>resn_err h
theorem err_90n (kk n:Int) (d:Value) (mx:Bool) (f:Nat) (hd:d.oneCell'=true) (hO:RowIs kk n .nilFunc d mx f) (pv av:Value) (L:List (Int × List Nat)) (w:World) (hp:∃ po pn pc,pv=.slice po pn pc) (h:BvLX w av L) (hl:(L.length:Int)=n) (hl2:L.length≤1048576) (hb:¬ ∀ p∈L,rightX p=true) :
    Calls Tryz.prog 5 #[.int .i64 kk,pv,av] w fun e w'=>ResN w w' e 0 90 0:=by
  obtain ⟨ao,cap,hav⟩:=h.shape
  exact (apply_err kk n 90 .nilFunc d mx f rfl hd (by decide) pv av w hp ⟨_,_,_,hav⟩ hO (fun w1 hw=>fault_n_90 n d f hd mx pv av w1 hp ao _ cap hav hl (fun w2 hw2=>areRight_no av L w2 ((h.below hw).below hw2) hl2 hb))).mono fun _ _ h=>resn_err h
theorem err_52n (kk:Int) (d:Value) (f:Nat) (hd:d.oneCell'=true) (hO:RowIs kk 2 .nilFunc d false f) (pv av:Value) (wd wd' m n:Nat) (hne:wd≠wd') (w:World) (hp:∃ po pn pc,pv=.slice po pn pc) (h:BvL w av [(wd,m),(wd',n)]) (hff:∀ p∈[(wd,m),(wd',n)],FineV p) :
    Calls Tryz.prog 5 #[.int .i64 kk,pv,av] w fun e w'=>ResN w w' e 0 52 0:=by
  obtain ⟨ao,cap,hav⟩:=h.shape
  exact (apply_err kk 2 52 .nilFunc d false f rfl hd (by decide) pv av w hp ⟨_,_,_,hav⟩ hO (fun w1 hw =>
    fault_n_52 2 d f hd pv av w1 hp ao 2 cap hav rfl (fun w2 hw2=>areRight_fine av _ w2 ((h.below hw).below hw2) hff (by simp)) wd wd' m n (fun w2 hw2=>first_any pv av _ wd m w2 hp ((h.below hw).below hw2) rfl) (fun w2 hw2=>last_any pv av _ 1 wd' n w2 hp ((h.below hw).below hw2) rfl (by omega) rfl) hne)).mono fun _ _ h=>resn_err h
theorem err_51p (kk n:Int) (pf:Nat) (d:Value) (mx:Bool) (f:Nat) (hd:d.oneCell'=true) (hcp:∀ args W,(callFunc pf args).run Tryz.prog W=.ok (.enter pf args) W) (hO:RowIs kk n (.func (.func pf) #[] #[]) d mx f) (pv av:Value) (w:World) (hp:∃ po pn pc,pv=.slice po pn pc) (ao:Option Addr) (ak ac:Nat) (hav:av=.slice ao ak ac) (hne:(ak:Int)≠n) :
    Calls Tryz.prog 5 #[.int .i64 kk,pv,av] w fun e w'=>ResN w w' e 0 51 0 :=
  (apply_err kk n 51 _ d mx f rfl hd (by decide) pv av w hp ⟨_,_,_,hav⟩ hO (fun w1 _=>fault_p_51 n d f hd pf hcp mx pv av w1 hp ao ak ac hav hne)).mono fun _ _ h=>resn_err h
theorem err_53p (kk n:Int) (pf:Nat) (d:Value) (mx:Bool) (f:Nat) (hd:d.oneCell'=true) (hcp:∀ args W,(callFunc pf args).run Tryz.prog W=.ok (.enter pf args) W) (hO:RowIs kk n (.func (.func pf) #[] #[]) d mx f) (pv av:Value) (w:World) (hp:∃ po pn pc,pv=.slice po pn pc) (ao:Option Addr) (ak ac:Nat) (hav:av=.slice ao ak ac) (hne:(ak:Int)=n) (hP:∀ w1,Below w.heap.size w w1→Calls Tryz.prog pf #[pv] w1 fun e w'=>e=.returned (.bool false)∧Below w1.heap.size w1 w') :
    Calls Tryz.prog 5 #[.int .i64 kk,pv,av] w fun e w'=>ResN w w' e 0 53 0 :=
  (apply_err kk n 53 _ d mx f rfl hd (by decide) pv av w hp ⟨_,_,_,hav⟩ hO (fun w1 hw=>fault_p_53 n d f hd pf hcp mx pv av w1 hp ao ak ac hav hne (fun w2 hw2=>hP w2 (below_of hw hw2)))).mono fun _ _ h=>resn_err h
theorem err_90p (kk n:Int) (pf:Nat) (d:Value) (mx:Bool) (f:Nat) (hd:d.oneCell'=true) (hcp:∀ args W,(callFunc pf args).run Tryz.prog W=.ok (.enter pf args) W) (hO:RowIs kk n (.func (.func pf) #[] #[]) d mx f) (pv av:Value) (L:List (Int × List Nat)) (w:World) (hp:∃ po pn pc,pv=.slice po pn pc) (h:BvLX w av L) (hl:(L.length:Int)=n) (hl2:L.length≤1048576) (hb:¬ ∀ p∈L,rightX p=true) (hP:∀ w1,Below w.heap.size w w1→Calls Tryz.prog pf #[pv] w1 fun e w'=>e=.returned (.bool true)∧Below w1.heap.size w1 w') :
    Calls Tryz.prog 5 #[.int .i64 kk,pv,av] w fun e w'=>ResN w w' e 0 90 0:=by
  obtain ⟨ao,cap,hav⟩:=h.shape
  exact (apply_err kk n 90 _ d mx f rfl hd (by decide) pv av w hp ⟨_,_,_,hav⟩ hO (fun w1 hw=>fault_p_90 n d f hd pf hcp mx pv av w1 hp ao _ cap hav hl (fun w2 hw2=>hP w2 (below_of hw hw2)) (fun w2 hw2=>areRight_no av L w2 ((h.below hw).below hw2) hl2 hb))).mono fun _ _ h=>resn_err h
theorem none_50 (kk:Int) (hk:kk<41∨68≤kk) (pv av:Value) (w:World) (hpv:∃ po pn pc,pv=.slice po pn pc) (hav:∃ ao ak ac,av=.slice ao ak ac):Calls Tryz.prog 5 #[.int .i64 kk,pv,av] w fun e w'=>ResN w w' e 0 50 0 :=
  (apply_none kk hk pv av w hpv hav).mono fun _ _ h=>resn_err h
theorem row_41:RowIs 41 2 .nilFunc (.func (.func 54) #[] #[]) true 55:=operatorOf_at 41 (by omega) 2 .nilFunc (.func (.func 54) #[] #[]) true 55 rfl rfl (by kernel_rfl) (by kernel_rfl) (by kernel_rfl) (by kernel_rfl) (by kernel_rfl)
theorem row_42:RowIs 42 1 (.func (.func 56) #[] #[]) (.func (.func 57) #[] #[]) false 58:=operatorOf_at 42 (by omega) 1 (.func (.func 56) #[] #[]) (.func (.func 57) #[] #[]) false 58 rfl rfl (by kernel_rfl) (by kernel_rfl) (by kernel_rfl) (by kernel_rfl) (by kernel_rfl)
theorem row_43:RowIs 43 1 .nilFunc .nilFunc false 59:=operatorOf_at 43 (by omega) 1 .nilFunc .nilFunc false 59 rfl rfl (by kernel_rfl) (by kernel_rfl) (by kernel_rfl) (by kernel_rfl) (by kernel_rfl)
theorem row_44:RowIs 44 1 .nilFunc .nilFunc false 60:=operatorOf_at 44 (by omega) 1 .nilFunc .nilFunc false 60 rfl rfl (by kernel_rfl) (by kernel_rfl) (by kernel_rfl) (by kernel_rfl) (by kernel_rfl)
theorem row_45:RowIs 45 2 .nilFunc .nilFunc false 61:=operatorOf_at 45 (by omega) 2 .nilFunc .nilFunc false 61 rfl rfl (by kernel_rfl) (by kernel_rfl) (by kernel_rfl) (by kernel_rfl) (by kernel_rfl)
theorem row_46:RowIs 46 2 .nilFunc .nilFunc false 62:=operatorOf_at 46 (by omega) 2 .nilFunc .nilFunc false 62 rfl rfl (by kernel_rfl) (by kernel_rfl) (by kernel_rfl) (by kernel_rfl) (by kernel_rfl)
theorem row_47:RowIs 47 2 .nilFunc .nilFunc false 63:=operatorOf_at 47 (by omega) 2 .nilFunc .nilFunc false 63 rfl rfl (by kernel_rfl) (by kernel_rfl) (by kernel_rfl) (by kernel_rfl) (by kernel_rfl)
theorem row_48:RowIs 48 2 .nilFunc .nilFunc false 64:=operatorOf_at 48 (by omega) 2 .nilFunc .nilFunc false 64 rfl rfl (by kernel_rfl) (by kernel_rfl) (by kernel_rfl) (by kernel_rfl) (by kernel_rfl)
theorem row_49:RowIs 49 2 .nilFunc .nilFunc false 65:=operatorOf_at 49 (by omega) 2 .nilFunc .nilFunc false 65 rfl rfl (by kernel_rfl) (by kernel_rfl) (by kernel_rfl) (by kernel_rfl) (by kernel_rfl)
theorem row_50:RowIs 50 2 .nilFunc .nilFunc false 66:=operatorOf_at 50 (by omega) 2 .nilFunc .nilFunc false 66 rfl rfl (by kernel_rfl) (by kernel_rfl) (by kernel_rfl) (by kernel_rfl) (by kernel_rfl)
theorem row_51:RowIs 51 2 .nilFunc (.func (.func 67) #[] #[]) false 68:=operatorOf_at 51 (by omega) 2 .nilFunc (.func (.func 67) #[] #[]) false 68 rfl rfl (by kernel_rfl) (by kernel_rfl) (by kernel_rfl) (by kernel_rfl) (by kernel_rfl)
theorem row_52:RowIs 52 2 .nilFunc .nilFunc false 69:=operatorOf_at 52 (by omega) 2 .nilFunc .nilFunc false 69 rfl rfl (by kernel_rfl) (by kernel_rfl) (by kernel_rfl) (by kernel_rfl) (by kernel_rfl)
theorem row_53:RowIs 53 2 .nilFunc .nilFunc false 70:=operatorOf_at 53 (by omega) 2 .nilFunc .nilFunc false 70 rfl rfl (by kernel_rfl) (by kernel_rfl) (by kernel_rfl) (by kernel_rfl) (by kernel_rfl)
theorem row_54:RowIs 54 2 .nilFunc .nilFunc false 71:=operatorOf_at 54 (by omega) 2 .nilFunc .nilFunc false 71 rfl rfl (by kernel_rfl) (by kernel_rfl) (by kernel_rfl) (by kernel_rfl) (by kernel_rfl)
theorem row_55:RowIs 55 2 .nilFunc .nilFunc false 72:=operatorOf_at 55 (by omega) 2 .nilFunc .nilFunc false 72 rfl rfl (by kernel_rfl) (by kernel_rfl) (by kernel_rfl) (by kernel_rfl) (by kernel_rfl)
theorem row_56:RowIs 56 2 .nilFunc .nilFunc false 73:=operatorOf_at 56 (by omega) 2 .nilFunc .nilFunc false 73 rfl rfl (by kernel_rfl) (by kernel_rfl) (by kernel_rfl) (by kernel_rfl) (by kernel_rfl)
theorem row_57:RowIs 57 2 .nilFunc .nilFunc false 74:=operatorOf_at 57 (by omega) 2 .nilFunc .nilFunc false 74 rfl rfl (by kernel_rfl) (by kernel_rfl) (by kernel_rfl) (by kernel_rfl) (by kernel_rfl)
theorem row_58:RowIs 58 2 .nilFunc .nilFunc false 75:=operatorOf_at 58 (by omega) 2 .nilFunc .nilFunc false 75 rfl rfl (by kernel_rfl) (by kernel_rfl) (by kernel_rfl) (by kernel_rfl) (by kernel_rfl)
theorem row_59:RowIs 59 2 .nilFunc .nilFunc false 76:=operatorOf_at 59 (by omega) 2 .nilFunc .nilFunc false 76 rfl rfl (by kernel_rfl) (by kernel_rfl) (by kernel_rfl) (by kernel_rfl) (by kernel_rfl)
theorem row_60:RowIs 60 2 .nilFunc .nilFunc false 77:=operatorOf_at 60 (by omega) 2 .nilFunc .nilFunc false 77 rfl rfl (by kernel_rfl) (by kernel_rfl) (by kernel_rfl) (by kernel_rfl) (by kernel_rfl)
theorem row_61:RowIs 61 2 .nilFunc .nilFunc false 78:=operatorOf_at 61 (by omega) 2 .nilFunc .nilFunc false 78 rfl rfl (by kernel_rfl) (by kernel_rfl) (by kernel_rfl) (by kernel_rfl) (by kernel_rfl)
theorem row_62:RowIs 62 2 .nilFunc .nilFunc false 79:=operatorOf_at 62 (by omega) 2 .nilFunc .nilFunc false 79 rfl rfl (by kernel_rfl) (by kernel_rfl) (by kernel_rfl) (by kernel_rfl) (by kernel_rfl)
theorem row_63:RowIs 63 1 (.func (.func 80) #[] #[]) (.func (.func 81) #[] #[]) false 82:=operatorOf_at 63 (by omega) 1 (.func (.func 80) #[] #[]) (.func (.func 81) #[] #[]) false 82 rfl rfl (by kernel_rfl) (by kernel_rfl) (by kernel_rfl) (by kernel_rfl) (by kernel_rfl)
theorem row_64:RowIs 64 1 (.func (.func 83) #[] #[]) (.func (.func 84) #[] #[]) false 85:=operatorOf_at 64 (by omega) 1 (.func (.func 83) #[] #[]) (.func (.func 84) #[] #[]) false 85 rfl rfl (by kernel_rfl) (by kernel_rfl) (by kernel_rfl) (by kernel_rfl) (by kernel_rfl)
theorem row_65:RowIs 65 1 (.func (.func 83) #[] #[]) (.func (.func 84) #[] #[]) false 86:=operatorOf_at 65 (by omega) 1 (.func (.func 83) #[] #[]) (.func (.func 84) #[] #[]) false 86 rfl rfl (by kernel_rfl) (by kernel_rfl) (by kernel_rfl) (by kernel_rfl) (by kernel_rfl)
theorem row_66:RowIs 66 1 (.func (.func 83) #[] #[]) .nilFunc false 87:=operatorOf_at 66 (by omega) 1 (.func (.func 83) #[] #[]) .nilFunc false 87 rfl rfl (by kernel_rfl) (by kernel_rfl) (by kernel_rfl) (by kernel_rfl) (by kernel_rfl)
theorem row_67:RowIs 67 1 (.func (.func 83) #[] #[]) .nilFunc false 88:=operatorOf_at 67 (by omega) 1 (.func (.func 83) #[] #[]) .nilFunc false 88 rfl rfl (by kernel_rfl) (by kernel_rfl) (by kernel_rfl) (by kernel_rfl) (by kernel_rfl)
end Go.Proofs.YtacbkpenohcgjaaGreat
namespace Go.Proofs.YtacbkpenohcgjaaGreat
open Go.RowKit Mth
theorem ashr_is (pv av:Value) (wd m n:Nat) (b1:1≤wd) (b2:wd≤4096) (hm:m<2 ^ wd) (hn:n<2 ^ wd) (w:World) (hp:∃ po pn pc,pv=.slice po pn pc) (h:BvL w av [(wd,m),(wd,n)]) :
    Calls Tryz.prog 79 #[.agg #[pv,av]] w fun e w'=>∃ v',e=.returned v'∧IntV w' v' (qF (sgV wd m) ((2 ^ shN wd n:Nat):Int))∧Below w.heap.size w w':=by
  obtain ⟨po,pn,pc,rfl⟩:=hp
  obtain ⟨ao,cap,rfl⟩:=h.shape
  obtain ⟨W,eW,g1,g2,bel,hsz⟩:=alloc2 w (Obj.cells #[.slice po pn pc,.slice ao 2 cap] 46) (Obj.cells #[.bool false,.slice none 0 0] 50)
  have HW:=Lib.hid (h.below bel)
  have G1:=Lib.hid g1; have G2:=Lib.hid g2; have BL:=Lib.hid bel
  have hWs:w.heap.size+1<W.heap.size:=by rw [← eW]; simp
  have SS:Hid (∀ w1,Below W.heap.size W w1→Calls Tryz.prog 86 #[.agg #[.slice po pn pc,.slice ao 2 cap]] w1 fun e w'=>∃ v',e=.returned v'∧IntV w' v' (sgV wd m)∧Below w1.heap.size w1 w'):=Lib.hid (fun w1 hw=>op_s _ _ _ wd m b1 b2 hm w1 ⟨_,_,_,rfl⟩ (HW.out.below hw) rfl)
  have SH:Hid (∀ w1,Below W.heap.size W w1→Calls Tryz.prog 125 #[.agg #[.slice po pn pc,.slice ao 2 cap]] w1 fun e w'=>e=.returned (.int .i64 ((shN wd n:Nat):Int))∧Below w1.heap.size w1 w'):=Lib.hid (fun w1 hw=>shift_is _ _ wd m n b2 w1 ⟨_,_,_,rfl⟩ (HW.out.below hw))
  have hsl:=shN_le wd n
  have PW:Hid (∀ w1,Below W.heap.size W w1→Calls Tryz.prog 127 #[.int .i64 ((shN wd n:Nat):Int)] w1 fun e w'=>∃ v',e=.returned v'∧IntV w' v' ((2 ^ shN wd n:Nat):Int)∧Below w1.heap.size w1 w'):=Lib.hid (fun w1 _=>power_any _ (by omega) w1)
  have hbs:=sgV_big b2 hm
  have hbp:((2 ^ shN wd n:Nat):Int).natAbs<Big:=by rw [Int.natAbs_natCast]; exact (two_big (show shN wd n≤4096 by omega)).1
  have hpp:=two_pos (shN wd n)
  have FL:Hid (∀ va vb w1,Below W.heap.size W w1→IntV w1 va (sgV wd m)→IntV w1 vb ((2 ^ shN wd n:Nat):Int)→Calls Tryz.prog 126 #[va,vb] w1 fun e w'=>Res1 w1 w' e (qF (sgV wd m) ((2 ^ shN wd n:Nat):Int))):=Lib.hid (fun va vb w1 _ h1 h2=>floorF va vb _ _ w1 h1 h2 hbs hbp (by omega))
  generalize qF (sgV wd m) ((2 ^ shN wd n:Nat):Int)=z at *
  generalize ((2 ^ shN wd n:Nat):Int)=pw at *
  generalize shN wd n=sh at *
  generalize sgV wd m=sg at *
  have STAYq:Hid (∀ w',Below W.heap.size W w'→w'.cell? ⟨w.heap.size,0,none⟩=some (.slice po pn pc)∧w'.cell? ⟨w.heap.size,1,none⟩=some (.slice ao 2 cap)∧Below W.heap.size W w'∧W.heap.size≤w'.heap.size):=Lib.hid (fun w' hb=>by
    obtain ⟨e0,e1,-,-,-⟩:=blk2 (car hb G1.out)
    exact ⟨e0,e1,hb,hb.size⟩)
  have hBq:=(Below.refl W.heap.size W).drew
  clear h g1 g2 bel hm hn hbs hbp hpp hsl
  go_enter Tryz.func79,Tryz.ntmps79
  go_upto_region 1 with fail
  try rw [eW]
  go_cut [3] (fun s wx=>BoxI W wx z s)
  case first =>
    go_region_held3 (fun w'=>w'.cell? ⟨w.heap.size,0,none⟩=some (.slice po pn pc)∧w'.cell? ⟨w.heap.size,1,none⟩=some (.slice ao 2 cap)∧Below W.heap.size W w'∧W.heap.size≤w'.heap.size)
      (((try go_split_ands); refine STAYq.out _ ?_; repeat (first | (with_reducible assumption) | (with_reducible exact Below.refl _ _) | (with_reducible refine Below.drew ?_) | (with_reducible exact below_to (by with_reducible assumption) (by with_reducible assumption)) | ((with_reducible refine Below.alloc ?_ ?_ _); rotate_left; (focus (first | omega | (simp; done) | (simp; omega)))) | ((with_reducible refine Below.setCell ?_ ?_ _); rotate_left; (focus (first | omega | (simp; done) | (simp; omega)))))))
      (first
      | (have tk:=TKq_3; go_at_call 126; go_split_ands; (with_reducible refine Calls.mono (FL.out _ _ _ (by with_reducible assumption) ?_ ?_) ?_); (repeat (first | (with_reducible assumption) | (with_reducible refine intv_alloc ?_) | (with_reducible refine intv_drew ?_))); (repeat (first | (with_reducible assumption) | (with_reducible refine intv_alloc ?_) | (with_reducible refine intv_drew ?_))); rintro e wq_4 ⟨nq_4,aq_4,kq_4,cq_4,rfl,rrq_4,hbq_4⟩; have iiq_4:=rrq_4.2; clear rrq_4; have hkq_4:=below_to hbq_4 (by with_reducible assumption); have hzq_4:=hkq_4.size; obtain ⟨hcq_4,hfq_4⟩:=bcell hbq_4; have hyq_4:=hbq_4.size; (try simp only [sz_alloc,sz_set,sz_drew] at hyq_4); (try (have hqq_4:W.heap.size<wq_4.heap.size:=by omega)); (try (have hrq_4:W.heap.size+1<wq_4.heap.size:=by omega)); (try (have hpq_4_1:wq_1.heap.size<wq_4.heap.size:=by omega)); (try (have hsq_4_1:wq_1.heap.size+1<wq_4.heap.size:=by omega)); (try (have hpq_4_2:wq_2.heap.size<wq_4.heap.size:=by omega)); (try (have hsq_4_2:wq_2.heap.size+1<wq_4.heap.size:=by omega)); (try (have hpq_4_3:wq_3.heap.size<wq_4.heap.size:=by omega)); (try (have hsq_4_3:wq_3.heap.size+1<wq_4.heap.size:=by omega)); have TKq_4:True:=trivial)
      | (have tk:=TKq_2; go_at_call 127; go_split_ands; (with_reducible refine Calls.mono (PW.out _ (by with_reducible assumption)) ?_); rintro e wq_3 ⟨vq_3,rfl,iiq_3,hbq_3⟩; have hkq_3:=below_to hbq_3 (by with_reducible assumption); have hzq_3:=hkq_3.size; obtain ⟨hcq_3,hfq_3⟩:=bcell hbq_3; have hyq_3:=hbq_3.size; (try simp only [sz_alloc,sz_set,sz_drew] at hyq_3); (try (have hqq_3:W.heap.size<wq_3.heap.size:=by omega)); (try (have hrq_3:W.heap.size+1<wq_3.heap.size:=by omega)); (try (have hpq_3_1:wq_1.heap.size<wq_3.heap.size:=by omega)); (try (have hsq_3_1:wq_1.heap.size+1<wq_3.heap.size:=by omega)); (try (have hpq_3_2:wq_2.heap.size<wq_3.heap.size:=by omega)); (try (have hsq_3_2:wq_2.heap.size+1<wq_3.heap.size:=by omega)); (first | (have ijq_1:=intv_call hbq_3 iiq_1) | (have ijq_1:=intv_call hbq_3 (intv_alloc iiq_1)) | (have ijq_1:=intv_call hbq_3 (intv_alloc (intv_alloc iiq_1))) | (have ijq_1:=intv_call hbq_3 (intv_drew iiq_1)) | (have ijq_1:=intv_call hbq_3 (intv_alloc (intv_drew iiq_1))) | (have ijq_1:=intv_call hbq_3 (intv_drew (intv_alloc iiq_1))) | (have ijq_1:=intv_call hbq_3 (intv_alloc (intv_alloc (intv_drew iiq_1)))) | (have ijq_1:=intv_call hbq_3 (intv_drew (intv_alloc (intv_alloc iiq_1))))); clear iiq_1; have iiq_1:=ijq_1; clear ijq_1; obtain ⟨nq_3,aq_3,kq_3,cq_3,rfl⟩:=iiq_3.shape; have TKq_3:True:=trivial)
      | (have tk:=TKq_1; go_at_call 125; go_split_ands; (with_reducible refine Calls.mono (SH.out _ (by with_reducible assumption)) ?_); rintro e wq_2 ⟨rfl,hbq_2⟩; have hkq_2:=below_to hbq_2 (by with_reducible assumption); have hzq_2:=hkq_2.size; obtain ⟨hcq_2,hfq_2⟩:=bcell hbq_2; have hyq_2:=hbq_2.size; (try simp only [sz_alloc,sz_set,sz_drew] at hyq_2); (try (have hqq_2:W.heap.size<wq_2.heap.size:=by omega)); (try (have hrq_2:W.heap.size+1<wq_2.heap.size:=by omega)); (try (have hpq_2_1:wq_1.heap.size<wq_2.heap.size:=by omega)); (try (have hsq_2_1:wq_1.heap.size+1<wq_2.heap.size:=by omega)); (first | (have ijq_1:=intv_call hbq_2 iiq_1) | (have ijq_1:=intv_call hbq_2 (intv_alloc iiq_1)) | (have ijq_1:=intv_call hbq_2 (intv_alloc (intv_alloc iiq_1))) | (have ijq_1:=intv_call hbq_2 (intv_drew iiq_1)) | (have ijq_1:=intv_call hbq_2 (intv_alloc (intv_drew iiq_1))) | (have ijq_1:=intv_call hbq_2 (intv_drew (intv_alloc iiq_1))) | (have ijq_1:=intv_call hbq_2 (intv_alloc (intv_alloc (intv_drew iiq_1)))) | (have ijq_1:=intv_call hbq_2 (intv_drew (intv_alloc (intv_alloc iiq_1))))); clear iiq_1; have iiq_1:=ijq_1; clear ijq_1; have TKq_2:True:=trivial)
      | (go_at_call 86; go_split_ands; (with_reducible refine Calls.mono (SS.out _ (by with_reducible assumption)) ?_); rintro e wq_1 ⟨vq_1,rfl,iiq_1,hbq_1⟩; have hkq_1:=below_to hbq_1 (by with_reducible assumption); have hzq_1:=hkq_1.size; obtain ⟨hcq_1,hfq_1⟩:=bcell hbq_1; have hyq_1:=hbq_1.size; (try simp only [sz_alloc,sz_set,sz_drew] at hyq_1); (try (have hqq_1:W.heap.size<wq_1.heap.size:=by omega)); (try (have hrq_1:W.heap.size+1<wq_1.heap.size:=by omega)); obtain ⟨nq_1,aq_1,kq_1,cq_1,rfl⟩:=iiq_1.shape; have TKq_1:True:=trivial))
    all_goals
      (go_wp2_with fail
       go_meet
       clear hcq_1 hfq_1 hcq_2 hfq_2 hcq_3 hfq_3 hcq_4 hfq_4
       refine ⟨_,nq_4,aq_4,kq_4,cq_4,rfl, ?_, ?_, ?_, ?_⟩)
    all_goals
      repeat (first | (with_reducible assumption) | ((with_reducible refine nblk_new ?_); (first | omega | (simp only [sz_alloc,sz_set,sz_drew]; omega) | (focus (simp only [sz_alloc,sz_set,sz_drew]; done)))) | ((with_reducible refine nblk_lt ?_ ?_); (first | omega | (simp only [sz_alloc,sz_set,sz_drew]; omega) | (focus (simp only [sz_alloc,sz_set,sz_drew]; done)))) | (with_reducible refine nblk_own ?_) | ((with_reducible refine nblk_two ?_ ?_); (first | omega | (simp only [sz_alloc,sz_set,sz_drew]; omega) | (focus (simp only [sz_alloc,sz_set,sz_drew]; done)))) | (with_reducible refine nblk_drew ?_) | (with_reducible refine nblk_call hbq_4 ?_) | (with_reducible refine nblk_call hbq_3 ?_) | (with_reducible refine nblk_call hbq_2 ?_) | (with_reducible refine nblk_call hbq_1 ?_) | (with_reducible refine intv_alloc ?_) | (with_reducible refine intv_drew ?_) | (with_reducible refine intv_set ?_ ?_) | (with_reducible refine intv_call hbq_4 ?_) | (with_reducible refine intv_call hbq_3 ?_) | (with_reducible refine intv_call hbq_2 ?_) | (with_reducible refine intv_call hbq_1 ?_) | (with_reducible exact Below.refl _ _) | (with_reducible refine Below.drew ?_) | ((with_reducible refine Below.alloc ?_ ?_ _); rotate_left; (focus (first | omega | (simp; done) | (simp; omega)))) | ((with_reducible refine Below.setCell ?_ ?_ _); rotate_left; (focus (first | omega | (simp; done) | (simp; omega)))) | (with_reducible refine bel_call hbq_4 ?_) | (with_reducible refine bel_call hbq_3 ?_) | (with_reducible refine bel_call hbq_2 ?_) | (with_reducible refine bel_call hbq_1 ?_) | (first | omega | (simp only [sz_alloc,sz_set,sz_drew]; omega) | (focus (simp only [sz_alloc,sz_set,sz_drew]; done))))
  case rest =>
    obtain ⟨g,ng,ag,kg,cg,rfl,hg,hG,hI,hb⟩:=hcut
    generalize wc=wx at *
    have HI:=Lib.hid hI
    have BX:=Lib.hid (below_of BL.out hb)
    have GR:=Lib.hid (car hb G2.out)
    obtain ⟨z0,z1,-,-,_⟩:=blk2 hG
    obtain ⟨q0,q1,r0,r1,_⟩:=blk2 GR.out
    clear hG hI hb
    go_wp2
    exact bodyPost_ret (results_it rfl rfl (set2_row _ _ GR.out)) rfl ⟨_,rfl,HI.out.far GR.out,(BX.out.setCell (by show w.heap.size≤w.heap.size+1; omega) _).setCell (by show w.heap.size≤w.heap.size+1; omega) _⟩
theorem qF_pos (x:Int) {y:Nat} (hy:0<y):qF x (y:Int)=x / (y:Int):=by
  obtain ⟨h1,h2⟩:=near_rest (a:=x) (b:=(y:Int)) (by omega)
  rw [Int.natAbs_natCast] at h1
  generalize qF x (y:Int)=q at *
  have hr:0≤x - q*(y:Int)∧x - q*(y:Int)<(y:Int):=by omega
  have h3:=Int.add_mul_ediv_right (x - q*(y:Int)) q (show (y:Int)≠0 by omega)
  rw [Int.sub_add_cancel,Int.ediv_eq_zero_of_lt hr.1 hr.2,Int.zero_add] at h3
  exact h3.symm
theorem apply_ashr (pv av:Value) (wd m n:Nat) (h1:1≤wd) (h2:wd≤4096) (hm:m<2 ^ wd) (hn:n<2 ^ wd) (w:World) (hp:∃ po pn pc,pv=.slice po pn pc) (h:BvL w av [(wd,m),(wd,n)]) :
    Calls Tryz.prog 5 #[.int .i64 62,pv,av] w fun e w'=>∃ v',e=.returned (.tuple #[v',.int .i64 0])∧BvO w' w.heap.size v' wd (vecN wd (sgV wd m / ((2 ^ shN wd n:Nat):Int)))∧Below w.heap.size w w':=by
  rw [← qF_pos _ (two_pos (shN wd n))]
  exact apply_two 62 79 (fun args W=>enters_of Tryz.func79 (by kernel_rfl) rfl args W) row_62 pv av wd m n _ h1 h2 hm hn w hp h (fun w1 hw=>ashr_is pv av wd m n h1 h2 hm hn w1 hp hw)
theorem inRange_no (p:Int) (h:p<0∨4096<p) (w:World):Calls Tryz.prog 104 #[.int .i64 p] w fun e w'=>e=.returned (.bool false)∧w'=w:=by
  rcases h with h | h
  · go_enter Tryz.func104,Tryz.ntmps104
    go_wp2
    go_ret
    exact ⟨rfl,rfl⟩
  · have h0:0≤p:=by omega
    have hd:decide (p≤4096)=false:=decide_eq_false (by omega)
    go_enter Tryz.func104,Tryz.ntmps104
    go_wp2
    go_ret
    exact ⟨rfl,rfl⟩
theorem isCount_len (pv:Value) (po:Option Addr) (pn pc:Nat) (hpv:pv=.slice po pn pc) (h:pn≠1) (w:World):Calls Tryz.prog 83 #[pv] w fun e w'=>e=.returned (.bool false)∧Below w.heap.size w w':=by
  subst hpv
  have d:((pn:Int) == 1)=false:=beq_eq_false_iff_ne.2 (by omega)
  clear h
  go_enter Tryz.func83,Tryz.ntmps83
  go_wp2
  go_ret
  exact ⟨rfl,Below.refl _ _⟩
theorem isCount_bad (pv:Value) (p:Int) (hb:p<0∨4096<p) (w:World) (h:PaL w pv [p]):Calls Tryz.prog 83 #[pv] w fun e w'=>e=.returned (.bool false)∧Below w.heap.size w w':=by
  obtain ⟨po,cap,rfl,hc⟩:=h
  obtain ⟨b,off,rfl,hlt,hc⟩:=hc (by simp)
  have c0:=hc 0 p rfl
  rw [Nat.add_zero] at c0
  have IR:=Lib.hid (inRange_no p hb w)
  simp only [List.length_cons,List.length_nil]
  clear hc hb
  go_enter Tryz.func83,Tryz.ntmps83
  go_wp2_with fail
  refine IR.out.mono ?_
  rintro e w2 ⟨rfl,hw⟩
  obtain rfl:w=w2:=hw.symm
  go_wp2
  go_ret
  exact ⟨rfl,Below.refl _ _⟩
theorem isFactor_of (pv:Value) (po:Option Addr) (pn pc:Nat) (hpv:pv=.slice po pn pc) (w:World) (IC:Calls Tryz.prog 83 #[pv] w fun e w'=>e=.returned (.bool false)∧Below w.heap.size w w'):Calls Tryz.prog 80 #[pv] w fun e w'=>e=.returned (.bool false)∧Below w.heap.size w w':=by
  subst hpv
  have IC:=Lib.hid IC
  go_enter Tryz.func80,Tryz.ntmps80
  go_wp2_with fail
  refine IC.out.mono ?_
  rintro e w2 ⟨rfl,hb⟩
  have B2:=Lib.hid hb
  clear hb
  go_wp2
  go_ret
  exact ⟨rfl,B2.out⟩
theorem isFactor_zero (pv:Value) (w:World) (h:PaL w pv [0]):Calls Tryz.prog 80 #[pv] w fun e w'=>e=.returned (.bool false)∧Below w.heap.size w w':=by
  have IC:=Lib.hid (isCount_yes pv 0 (by omega) (by omega) w h)
  obtain ⟨po,cap,rfl,hc⟩:=h
  obtain ⟨b,off,rfl,hlt,hc⟩:=hc (by simp)
  have c0:=hc 0 0 rfl
  rw [Nat.add_zero] at c0
  have C0:Hid (∀ w',Below w.heap.size w w'→w'.cell? ⟨b,off,none⟩=some (.int .i64 0)):=Lib.hid (fun w' hb=>(hb.cell (p:=⟨b,off,none⟩) hlt).trans c0)
  simp only [List.length_cons,List.length_nil] at *
  clear hc c0
  go_enter Tryz.func80,Tryz.ntmps80
  go_wp2_with fail
  refine IC.out.mono ?_
  rintro e w2 ⟨rfl,hb⟩
  have c2:=C0.out _ hb
  have B2:=Lib.hid hb
  clear hb
  go_wp2
  go_ret
  exact ⟨rfl,B2.out⟩
theorem areEnds_len (pv:Value) (po:Option Addr) (pn pc:Nat) (hpv:pv=.slice po pn pc) (h:pn≠2) (w:World):Calls Tryz.prog 56 #[pv] w fun e w'=>e=.returned (.bool false)∧Below w.heap.size w w':=by
  subst hpv
  have d:((pn:Int) == 2)=false:=beq_eq_false_iff_ne.2 (by omega)
  clear h
  go_enter Tryz.func56,Tryz.ntmps56
  go_wp2_with fail
  go_quiet (fail)
  go_wp2
  go_ret
  exact ⟨rfl,bdrawn (Below.refl _ _) _⟩
theorem areEnds_bad (pv:Value) (p q:Int) (ok1 ok2:Bool) (h1:ok1=decide (0≤p∧p≤4096)) (h2:ok2=decide (0≤q∧q≤4096)) (hb:ok1=false∨ok2=false∨p<q) (w:World) (h:PaL w pv [p,q]):Calls Tryz.prog 56 #[pv] w fun e w'=>e=.returned (.bool false)∧Below w.heap.size w w':=by
  have R:∀ (x:Int) (ok:Bool),ok=decide (0≤x∧x≤4096)→∀ n,Calls Tryz.prog 104 #[.int .i64 x] (w.drewN n) fun e w'=>e=.returned (.bool ok)∧∃ m,w'=w.drewN m:=fun x ok hx n=>by
    by_cases hh:0≤x∧x≤4096
    · rw [hx,decide_eq_true hh]
      exact (inRange_yes x hh.1 hh.2 (w.drewN n)).mono fun e w' h=>⟨h.1,n,h.2⟩
    · rw [hx,decide_eq_false hh]
      exact (inRange_no x (by omega) (w.drewN n)).mono fun e w' h=>⟨h.1,n,h.2⟩
  have IP:=Lib.hid (R p ok1 h1)
  have IQ:=Lib.hid (R q ok2 h2)
  obtain ⟨po,cap,rfl,hc⟩:=h
  obtain ⟨b,off,rfl,hlt,hc⟩:=hc (by simp)
  have c0:=hc 0 p rfl
  have c1:=hc 1 q rfl
  rw [Nat.add_zero] at c0
  simp only [List.length_cons,List.length_nil]
  clear hc R h1 h2
  cases ok1
  · clear hb IQ
    go_enter Tryz.func56,Tryz.ntmps56
    go_wp2_with fail
    go_quiet (first | (go_at_call 104; exact IP.out _))
    go_wp2
    go_ret
    exact ⟨rfl,bdrawn (Below.refl _ _) _⟩
  · cases ok2
    · clear hb
      go_enter Tryz.func56,Tryz.ntmps56
      go_wp2_with fail
      go_quiet (first | (go_at_call 104; first | exact IP.out _ | exact IQ.out _))
      go_wp2
      go_ret
      exact ⟨rfl,bdrawn (Below.refl _ _) _⟩
    · have hpq:p<q:=by rcases hb with h | h | h<;>first | exact h | cases h
      clear hb
      go_enter Tryz.func56,Tryz.ntmps56
      go_wp2_with fail
      go_quiet (first | (go_at_call 104; first | exact IP.out _ | exact IQ.out _))
      go_wp2
      go_ret
      exact ⟨congrArg (fun b=>Ending.returned (.bool b)) (decide_eq_false (show ¬ q≤p by omega)),bdrawn (Below.refl _ _) _⟩
end Go.Proofs.YtacbkpenohcgjaaGreat
namespace Go.Proofs.YtacbkpenohcgjaaGreat
open Go.RowKit Mth
theorem apply_parO (kk:Int) (pf f:Nat) (d:Value) (hd:d.oneCell'=true) (hcp:∀ args W,(callFunc pf args).run Tryz.prog W=.ok (.enter pf args) W) (hcf:∀ args W,(callFunc f args).run Tryz.prog W=.ok (.enter f args) W)
    (hO:∀ w1,Calls Tryz.prog 9 #[.int .i64 kk] w1 fun e w'=>e=.returned (.tuple #[.agg #[.int .i64 1,.func (.func pf) #[] #[],.bool false,d,.func (.func f) #[] #[]],.bool true])∧Below w1.heap.size w1 w')
    (pv av:Value) (ps:List Int) (wd m wx:Nat) (z:Int) (x1:1≤wx) (x2:wx≤4096) (h1:1≤wd) (h2:wd≤4096) (hm:m<2 ^ wd) (w:World) (hp:PaL w pv ps) (h:BvL w av [(wd,m)])
    (hP:∀ w1,PaL w1 pv ps→Calls Tryz.prog pf #[pv] w1 fun e w'=>e=.returned (.bool true)∧Below w1.heap.size w1 w')
    (hW:∀ w1,PaL w1 pv ps→BvL w1 av [(wd,m)]→Calls Tryz.prog 12 #[.agg #[.int .i64 1,.func (.func pf) #[] #[],.bool false,d,.func (.func f) #[] #[]],.agg #[pv,av]] w1 fun e w'=>e=.returned (.int .i64 (wx:Int))∧Below w1.heap.size w1 w')
    (hN:∀ w1,PaL w1 pv ps→BvL w1 av [(wd,m)]→Calls Tryz.prog f #[.agg #[pv,av]] w1 fun e w'=>∃ v',e=.returned v'∧IntV w' v' z∧Below w1.heap.size w1 w') :
    Calls Tryz.prog 5 #[.int .i64 kk,pv,av] w fun e w'=>∃ v',e=.returned (.tuple #[v',.int .i64 0])∧BvO w' w.heap.size v' wx (vecN wx z)∧Below w.heap.size w w':=by
  obtain ⟨ao,cap,hav⟩:=h.shape
  refine id (apply_gen kk 1 (.func (.func pf) #[] #[]) d false f rfl hd hcf pv av wx z x1 x2 w hp.shape ⟨_,_,_,hav⟩ hO (fun w1 hw=>?_) (fun w1 hw=>hW w1 (hp.below hw) (h.below hw)) (fun w1 hw=>hN w1 (hp.below hw) (h.below hw)))
  exact fault_p_0 1 d f hd pf hcp pv av w1 hp.shape ao 1 cap hav rfl (fun w2 hw2=>hP w2 ((hp.below hw).below hw2)) (fun w2 hw2=>areRight_fine av _ w2 ((h.below hw).below hw2) (fine_one h1 h2 hm) (by simp)) wd wd m m (fun w2 hw2=>first_any pv av _ wd m w2 hp.shape ((h.below hw).below hw2) rfl) (fun w2 hw2=>last_any pv av _ 0 wd m w2 hp.shape ((h.below hw).below hw2) rfl (by omega) rfl) rfl wx (isW_nat x1 x2) (fun w2 hw2=>hW w2 ((hp.below hw).below hw2) ((h.below hw).below hw2))
theorem apply_concatO (pv av:Value) (wd wd' m n:Nat) (h1:1≤wd) (h1':1≤wd') (h2:wd+wd'≤4096) (hm:m<2 ^ wd) (hn:n<2 ^ wd') (w:World) (hp:∃ po pn pc,pv=.slice po pn pc) (h:BvL w av [(wd,m),(wd',n)]) :
    Calls Tryz.prog 5 #[.int .i64 41,pv,av] w fun e w'=>∃ v',e=.returned (.tuple #[v',.int .i64 0])∧BvO w' w.heap.size v' (wd+wd') (vecN (wd+wd') ((m*2 ^ wd'+n:Nat):Int))∧Below w.heap.size w w':=by
  obtain ⟨ao,cap,hav⟩:=h.shape
  have hWO:∀ w1,Below w.heap.size w w1→Calls Tryz.prog 12 #[.agg #[.int .i64 2,.nilFunc,.bool true,(.func (.func 54) #[] #[]),(.func (.func 55) #[] #[])],.agg #[pv,av]] w1 fun e w'=>e=.returned (.int .i64 ((wd+wd':Nat):Int))∧Below w1.heap.size w1 w':=fun w1 hw =>
    widthOf_fn 2 _ .nilFunc true 54 55 rfl pv av w1 hp ⟨_,_,_,hav⟩ (fun args W=>enters_of Tryz.func54 (by kernel_rfl) rfl args W) (fun w2 hw2=>by
      have h:=together_is pv av wd wd' m n (by omega) (by omega) w2 hp ((h.below hw).below hw2)
      rw [show ((wd+wd':Nat):Int)=(wd:Int)+(wd':Int) by omega]
      exact h)
  refine id (apply_gen 41 2 .nilFunc (.func (.func 54) #[] #[]) true 55 rfl rfl (fun args W=>enters_of Tryz.func55 (by kernel_rfl) rfl args W) pv av (wd+wd') _ (by omega) h2 w hp ⟨_,_,_,hav⟩ (operatorOf_at 41 (by omega) 2 .nilFunc (.func (.func 54) #[] #[]) true 55 rfl rfl (by kernel_rfl) (by kernel_rfl) (by kernel_rfl) (by kernel_rfl) (by kernel_rfl)) (fun w1 hw=>?_) hWO (fun w1 hw=>concat_is pv av wd wd' m n (by omega) (lte_of (a:=wd+wd') (b:=0) (concat_lt hm hn) (by omega)) w1 hp (h.below hw)))
  exact fault_n_0m 2 _ 55 rfl pv av w1 hp ao 2 cap hav rfl (fun w2 hw2=>areRight_fine av _ w2 ((h.below hw).below hw2) (fun p hp=>by
    simp only [List.mem_cons,List.not_mem_nil,or_false] at hp
    rcases hp with rfl | rfl
    · exact ⟨h1,by omega,hm⟩
    · exact ⟨h1',by omega,hn⟩) (by simp)) ((wd+wd':Nat):Int) (isW_nat (by omega) h2) (fun w2 hw2=>hWO w2 (below_of hw hw2))
theorem apply_extractO (pv av:Value) (wd m hi lo:Nat) (h1:1≤wd) (h2:wd≤4096) (hm:m<2 ^ wd) (hl:lo≤hi) (hh:hi<wd) (w:World) (hp:PaL w pv [(hi:Int),(lo:Int)]) (h:BvL w av [(wd,m)]) :
    Calls Tryz.prog 5 #[.int .i64 42,pv,av] w fun e w'=>∃ v',e=.returned (.tuple #[v',.int .i64 0])∧BvO w' w.heap.size v' (hi - lo+1) (vecN (hi - lo+1) ((m / 2 ^ lo:Nat):Int))∧Below w.heap.size w w' :=
  apply_parO 42 56 58 (.func (.func 57) #[] #[]) rfl (fun args W=>enters_of Tryz.func56 (by kernel_rfl) rfl args W) (fun args W=>enters_of Tryz.func58 (by kernel_rfl) rfl args W) (operatorOf_at 42 (by omega) 1 (.func (.func 56) #[] #[]) (.func (.func 57) #[] #[]) false 58 rfl rfl (by kernel_rfl) (by kernel_rfl) (by kernel_rfl) (by kernel_rfl) (by kernel_rfl)) pv av _ wd m (hi - lo+1) _ (by omega) (by omega) h1 h2 hm w hp h (fun w1 hp1=>areEnds_yes pv _ _ (by omega) (by omega) (by omega) w1 hp1)
    (fun w1 hp1 hb1=>by
      obtain ⟨ao,cap,hav⟩:=hb1.shape
      refine widthOf_fn 1 _ _ false 57 58 rfl pv av w1 hp1.shape ⟨_,_,_,hav⟩ (fun args W=>enters_of Tryz.func57 (by kernel_rfl) rfl args W) (fun w2 hw2=>?_)
      have h:=between_is pv av wd m (hi:Int) (lo:Int) h2 (by omega) (by omega) (by omega) w2 (hp1.below hw2) (hb1.below hw2)
      rw [show ((hi - lo+1:Nat):Int)=(hi:Int) - (lo:Int)+1 by omega]
      exact h)
    (fun w1 hp1 hb1=>extract_is pv av wd m (hi:Int) lo (by omega) (lte_of (a:=wd) (b:=0) hm (by omega)) w1 hp1 hb1)
theorem apply_zextO (pv av:Value) (wd m p:Nat) (h1:1≤wd) (h2:wd≤4096) (hm:m<2 ^ wd) (hp4:wd+p≤4096) (w:World) (hp:PaL w pv [(p:Int)]) (h:BvL w av [(wd,m)]) :
    Calls Tryz.prog 5 #[.int .i64 64,pv,av] w fun e w'=>∃ v',e=.returned (.tuple #[v',.int .i64 0])∧BvO w' w.heap.size v' (wd+p) (vecN (wd+p) (m:Int))∧Below w.heap.size w w' :=
  apply_parO 64 83 85 (.func (.func 84) #[] #[]) rfl (fun args W=>enters_of Tryz.func83 (by kernel_rfl) rfl args W) (fun args W=>enters_of Tryz.func85 (by kernel_rfl) rfl args W) (operatorOf_at 64 (by omega) 1 (.func (.func 83) #[] #[]) (.func (.func 84) #[] #[]) false 85 rfl rfl (by kernel_rfl) (by kernel_rfl) (by kernel_rfl) (by kernel_rfl) (by kernel_rfl)) pv av _ wd m (wd+p) _ (by omega) (by omega) h1 h2 hm w hp h (fun w1 hp1=>isCount_yes pv _ (by omega) (by omega) w1 hp1)
    (fun w1 hp1 hb1=>by
      obtain ⟨ao,cap,hav⟩:=hb1.shape
      refine widthOf_fn 1 _ _ false 84 85 rfl pv av w1 hp1.shape ⟨_,_,_,hav⟩ (fun args W=>enters_of Tryz.func84 (by kernel_rfl) rfl args W) (fun w2 hw2=>?_)
      have h:=extended_is pv av wd m (p:Int) h2 (by omega) (by omega) w2 (hp1.below hw2) (hb1.below hw2)
      rw [show ((wd+p:Nat):Int)=(wd:Int)+(p:Int) by omega]
      exact h)
    (fun w1 hp1 hb1=>op_u pv av _ wd m w1 hp1.shape hb1 rfl)
theorem apply_sextO (pv av:Value) (wd m p:Nat) (h1:1≤wd) (h2:wd≤4096) (hm:m<2 ^ wd) (hp4:wd+p≤4096) (w:World) (hp:PaL w pv [(p:Int)]) (h:BvL w av [(wd,m)]) :
    Calls Tryz.prog 5 #[.int .i64 65,pv,av] w fun e w'=>∃ v',e=.returned (.tuple #[v',.int .i64 0])∧BvO w' w.heap.size v' (wd+p) (vecN (wd+p) (sgV wd m))∧Below w.heap.size w w' :=
  apply_parO 65 83 86 (.func (.func 84) #[] #[]) rfl (fun args W=>enters_of Tryz.func83 (by kernel_rfl) rfl args W) (fun args W=>enters_of Tryz.func86 (by kernel_rfl) rfl args W) (operatorOf_at 65 (by omega) 1 (.func (.func 83) #[] #[]) (.func (.func 84) #[] #[]) false 86 rfl rfl (by kernel_rfl) (by kernel_rfl) (by kernel_rfl) (by kernel_rfl) (by kernel_rfl)) pv av _ wd m (wd+p) _ (by omega) (by omega) h1 h2 hm w hp h (fun w1 hp1=>isCount_yes pv _ (by omega) (by omega) w1 hp1)
    (fun w1 hp1 hb1=>by
      obtain ⟨ao,cap,hav⟩:=hb1.shape
      refine widthOf_fn 1 _ _ false 84 86 rfl pv av w1 hp1.shape ⟨_,_,_,hav⟩ (fun args W=>enters_of Tryz.func84 (by kernel_rfl) rfl args W) (fun w2 hw2=>?_)
      have h:=extended_is pv av wd m (p:Int) h2 (by omega) (by omega) w2 (hp1.below hw2) (hb1.below hw2)
      rw [show ((wd+p:Nat):Int)=(wd:Int)+(p:Int) by omega]
      exact h)
    (fun w1 hp1 hb1=>op_s pv av _ wd m h1 h2 hm w1 hp1.shape hb1 rfl)
theorem apply_rotlO (pv av:Value) (wd m p q:Nat) (hq:p % wd=q) (h1:1≤wd) (h2:wd≤4096) (hm:m<2 ^ wd) (hp4:p≤4096) (w:World) (hp:PaL w pv [(p:Int)]) (h:BvL w av [(wd,m)]) :
    Calls Tryz.prog 5 #[.int .i64 66,pv,av] w fun e w'=>∃ v',e=.returned (.tuple #[v',.int .i64 0])∧BvO w' w.heap.size v' wd (vecN wd ((rotZ wd m q:Nat):Int))∧Below w.heap.size w w' :=
  apply_parO 66 83 87 .nilFunc rfl (fun args W=>enters_of Tryz.func83 (by kernel_rfl) rfl args W) (fun args W=>enters_of Tryz.func87 (by kernel_rfl) rfl args W) (operatorOf_at 66 (by omega) 1 (.func (.func 83) #[] #[]) .nilFunc false 87 rfl rfl (by kernel_rfl) (by kernel_rfl) (by kernel_rfl) (by kernel_rfl) (by kernel_rfl)) pv av _ wd m wd _ h1 (by omega) h1 (by omega) hm w hp h (fun w1 hp1=>isCount_yes pv _ (by omega) (by omega) w1 hp1)
    (fun w1 hp1 hb1=>widthOf_nil 1 _ false 87 rfl pv av _ wd m w1 hp1.shape hb1 rfl)
    (fun w1 hp1 hb1=>rotL_is pv av wd m p q hq h1 h2 hp4 (lte_of (a:=wd+q) (b:=0) (rot_lt hm (by have:=Nat.mod_lt p (show 0<wd by omega); omega)) (by have:=Nat.mod_lt p (show 0<wd by omega); omega)) w1 hp1 hb1)
theorem apply_rotrO (pv av:Value) (wd m p q:Nat) (hq:p % wd=q) (h1:1≤wd) (h2:wd≤4096) (hm:m<2 ^ wd) (hp4:p≤4096) (w:World) (hp:PaL w pv [(p:Int)]) (h:BvL w av [(wd,m)]) :
    Calls Tryz.prog 5 #[.int .i64 67,pv,av] w fun e w'=>∃ v',e=.returned (.tuple #[v',.int .i64 0])∧BvO w' w.heap.size v' wd (vecN wd ((rotZ wd m (wd - q):Nat):Int))∧Below w.heap.size w w' :=
  apply_parO 67 83 88 .nilFunc rfl (fun args W=>enters_of Tryz.func83 (by kernel_rfl) rfl args W) (fun args W=>enters_of Tryz.func88 (by kernel_rfl) rfl args W) (operatorOf_at 67 (by omega) 1 (.func (.func 83) #[] #[]) .nilFunc false 88 rfl rfl (by kernel_rfl) (by kernel_rfl) (by kernel_rfl) (by kernel_rfl) (by kernel_rfl)) pv av _ wd m wd _ h1 (by omega) h1 (by omega) hm w hp h (fun w1 hp1=>isCount_yes pv _ (by omega) (by omega) w1 hp1)
    (fun w1 hp1 hb1=>widthOf_nil 1 _ false 88 rfl pv av _ wd m w1 hp1.shape hb1 rfl)
    (fun w1 hp1 hb1=>rotR_is pv av wd m p q hq h1 h2 hp4 (lte_of (a:=wd+(wd - q)) (b:=0) (rot_lt hm (by omega)) (by omega)) w1 hp1 hb1)
theorem apply_andO (pv av:Value) (wd m n:Nat) (h1:1≤wd) (h2:wd≤4096) (hm:m<2 ^ wd) (hn:n<2 ^ wd) (w:World) (hp:∃ po pn pc,pv=.slice po pn pc) (h:BvL w av [(wd,m),(wd,n)]) :
    Calls Tryz.prog 5 #[.int .i64 45,pv,av] w fun e w'=>∃ v',e=.returned (.tuple #[v',.int .i64 0])∧BvO w' w.heap.size v' wd (vecN wd ((val B64 (zipL andG m n (lbs wd)):Nat):Int))∧Below w.heap.size w w' :=
  id (apply_two 45 61 (fun args W=>enters_of Tryz.func61 (by kernel_rfl) rfl args W) (operatorOf_at 45 (by omega) 2 .nilFunc .nilFunc false 61 rfl rfl (by kernel_rfl) (by kernel_rfl) (by kernel_rfl) (by kernel_rfl) (by kernel_rfl)) pv av wd m n _ h1 h2 hm hn w hp h (fun w1 hw=>and_is pv av wd m n h2 w1 hp hw))
theorem apply_orO (pv av:Value) (wd m n:Nat) (h1:1≤wd) (h2:wd≤4096) (hm:m<2 ^ wd) (hn:n<2 ^ wd) (w:World) (hp:∃ po pn pc,pv=.slice po pn pc) (h:BvL w av [(wd,m),(wd,n)]) :
    Calls Tryz.prog 5 #[.int .i64 46,pv,av] w fun e w'=>∃ v',e=.returned (.tuple #[v',.int .i64 0])∧BvO w' w.heap.size v' wd (vecN wd ((val B64 (zipL orG m n (lbs wd)):Nat):Int))∧Below w.heap.size w w' :=
  id (apply_two 46 62 (fun args W=>enters_of Tryz.func62 (by kernel_rfl) rfl args W) (operatorOf_at 46 (by omega) 2 .nilFunc .nilFunc false 62 rfl rfl (by kernel_rfl) (by kernel_rfl) (by kernel_rfl) (by kernel_rfl) (by kernel_rfl)) pv av wd m n _ h1 h2 hm hn w hp h (fun w1 hw=>or_is pv av wd m n h2 w1 hp hw))
theorem apply_xorO (pv av:Value) (wd m n:Nat) (h1:1≤wd) (h2:wd≤4096) (hm:m<2 ^ wd) (hn:n<2 ^ wd) (w:World) (hp:∃ po pn pc,pv=.slice po pn pc) (h:BvL w av [(wd,m),(wd,n)]) :
    Calls Tryz.prog 5 #[.int .i64 47,pv,av] w fun e w'=>∃ v',e=.returned (.tuple #[v',.int .i64 0])∧BvO w' w.heap.size v' wd (vecN wd ((val B64 (zipL xorG m n (lbs wd)):Nat):Int))∧Below w.heap.size w w' :=
  id (apply_two 47 63 (fun args W=>enters_of Tryz.func63 (by kernel_rfl) rfl args W) (operatorOf_at 47 (by omega) 2 .nilFunc .nilFunc false 63 rfl rfl (by kernel_rfl) (by kernel_rfl) (by kernel_rfl) (by kernel_rfl) (by kernel_rfl)) pv av wd m n _ h1 h2 hm hn w hp h (fun w1 hw=>xor_is pv av wd m n h2 w1 hp hw))
theorem apply_nandO (pv av:Value) (wd m n:Nat) (h1:1≤wd) (h2:wd≤4096) (hm:m<2 ^ wd) (hn:n<2 ^ wd) (w:World) (hp:∃ po pn pc,pv=.slice po pn pc) (h:BvL w av [(wd,m),(wd,n)]) :
    Calls Tryz.prog 5 #[.int .i64 48,pv,av] w fun e w'=>∃ v',e=.returned (.tuple #[v',.int .i64 0])∧BvO w' w.heap.size v' wd (vecN wd ((val B64 (zipL nandG m n (lbs wd)):Nat):Int))∧Below w.heap.size w w' :=
  id (apply_two 48 64 (fun args W=>enters_of Tryz.func64 (by kernel_rfl) rfl args W) (operatorOf_at 48 (by omega) 2 .nilFunc .nilFunc false 64 rfl rfl (by kernel_rfl) (by kernel_rfl) (by kernel_rfl) (by kernel_rfl) (by kernel_rfl)) pv av wd m n _ h1 h2 hm hn w hp h (fun w1 hw=>nand_is pv av wd m n h2 w1 hp hw))
theorem apply_norO (pv av:Value) (wd m n:Nat) (h1:1≤wd) (h2:wd≤4096) (hm:m<2 ^ wd) (hn:n<2 ^ wd) (w:World) (hp:∃ po pn pc,pv=.slice po pn pc) (h:BvL w av [(wd,m),(wd,n)]) :
    Calls Tryz.prog 5 #[.int .i64 49,pv,av] w fun e w'=>∃ v',e=.returned (.tuple #[v',.int .i64 0])∧BvO w' w.heap.size v' wd (vecN wd ((val B64 (zipL norG m n (lbs wd)):Nat):Int))∧Below w.heap.size w w' :=
  id (apply_two 49 65 (fun args W=>enters_of Tryz.func65 (by kernel_rfl) rfl args W) (operatorOf_at 49 (by omega) 2 .nilFunc .nilFunc false 65 rfl rfl (by kernel_rfl) (by kernel_rfl) (by kernel_rfl) (by kernel_rfl) (by kernel_rfl)) pv av wd m n _ h1 h2 hm hn w hp h (fun w1 hw=>nor_is pv av wd m n h2 w1 hp hw))
theorem apply_xnorO (pv av:Value) (wd m n:Nat) (h1:1≤wd) (h2:wd≤4096) (hm:m<2 ^ wd) (hn:n<2 ^ wd) (w:World) (hp:∃ po pn pc,pv=.slice po pn pc) (h:BvL w av [(wd,m),(wd,n)]) :
    Calls Tryz.prog 5 #[.int .i64 50,pv,av] w fun e w'=>∃ v',e=.returned (.tuple #[v',.int .i64 0])∧BvO w' w.heap.size v' wd (vecN wd ((val B64 (zipL xnorG m n (lbs wd)):Nat):Int))∧Below w.heap.size w w' :=
  id (apply_two 50 66 (fun args W=>enters_of Tryz.func66 (by kernel_rfl) rfl args W) (operatorOf_at 50 (by omega) 2 .nilFunc .nilFunc false 66 rfl rfl (by kernel_rfl) (by kernel_rfl) (by kernel_rfl) (by kernel_rfl) (by kernel_rfl)) pv av wd m n _ h1 h2 hm hn w hp h (fun w1 hw=>xnor_is pv av wd m n h2 w1 hp hw))
theorem apply_shlO (pv av:Value) (wd m n:Nat) (h1:1≤wd) (h2:wd≤4096) (hm:m<2 ^ wd) (hn:n<2 ^ wd) (w:World) (hp:∃ po pn pc,pv=.slice po pn pc) (h:BvL w av [(wd,m),(wd,n)]) :
    Calls Tryz.prog 5 #[.int .i64 60,pv,av] w fun e w'=>∃ v',e=.returned (.tuple #[v',.int .i64 0])∧BvO w' w.heap.size v' wd (vecN wd ((m*2 ^ shN wd n:Nat):Int))∧Below w.heap.size w w' :=
  id (apply_two 60 77 (fun args W=>enters_of Tryz.func77 (by kernel_rfl) rfl args W) (operatorOf_at 60 (by omega) 2 .nilFunc .nilFunc false 77 rfl rfl (by kernel_rfl) (by kernel_rfl) (by kernel_rfl) (by kernel_rfl) (by kernel_rfl)) pv av wd m n _ h1 h2 hm hn w hp h (fun w1 hw=>shl_is pv av wd m n h2 (lte_of (a:=wd+shN wd n) (b:=0) (by rw [Nat.pow_add]; exact Nat.mul_lt_mul_of_pos_right hm (two_pos _)) (by have:=shN_le wd n; omega)) w1 hp hw))
theorem apply_lshrO (pv av:Value) (wd m n:Nat) (h1:1≤wd) (h2:wd≤4096) (hm:m<2 ^ wd) (hn:n<2 ^ wd) (w:World) (hp:∃ po pn pc,pv=.slice po pn pc) (h:BvL w av [(wd,m),(wd,n)]) :
    Calls Tryz.prog 5 #[.int .i64 61,pv,av] w fun e w'=>∃ v',e=.returned (.tuple #[v',.int .i64 0])∧BvO w' w.heap.size v' wd (vecN wd ((m / 2 ^ shN wd n:Nat):Int))∧Below w.heap.size w w' :=
  id (apply_two 61 78 (fun args W=>enters_of Tryz.func78 (by kernel_rfl) rfl args W) (operatorOf_at 61 (by omega) 2 .nilFunc .nilFunc false 78 rfl rfl (by kernel_rfl) (by kernel_rfl) (by kernel_rfl) (by kernel_rfl) (by kernel_rfl)) pv av wd m n _ h1 h2 hm hn w hp h (fun w1 hw=>lshr_is pv av wd m n h2 (lte_of (a:=wd) (b:=0) hm (by omega)) w1 hp hw))
theorem apply_repeatO (pv av:Value) (wd m p:Nat) (h1:1≤wd) (h2:wd≤4096) (hm:m<2 ^ wd) (hp1:1≤p) (hwp:wd*p≤4096) (w:World) (hp:PaL w pv [(p:Int)]) (h:BvL w av [(wd,m)]) :
    Calls Tryz.prog 5 #[.int .i64 63,pv,av] w fun e w'=>∃ v',e=.returned (.tuple #[v',.int .i64 0])∧BvO w' w.heap.size v' (wd*p) (vecN (wd*p) ((repN m wd p:Nat):Int))∧Below w.heap.size w w':=by
  have hpw:p≤wd*p:=Nat.le_mul_of_pos_left _ h1
  have hw1:1≤wd*p:=Nat.mul_pos h1 hp1
  have hc:((wd*p:Nat):Int)=(wd:Int)*(p:Int):=by rw [Int.natCast_mul]
  exact apply_parO 63 80 82 (.func (.func 81) #[] #[]) rfl (fun args W=>enters_of Tryz.func80 (by kernel_rfl) rfl args W) (fun args W=>enters_of Tryz.func82 (by kernel_rfl) rfl args W) (operatorOf_at 63 (by omega) 1 (.func (.func 80) #[] #[]) (.func (.func 81) #[] #[]) false 82 rfl rfl (by kernel_rfl) (by kernel_rfl) (by kernel_rfl) (by kernel_rfl) (by kernel_rfl)) pv av _ wd m (wd*p) _ hw1 hwp h1 h2 hm w hp h (fun w1 hp1=>isFactor_yes pv _ (by omega) (by omega) w1 hp1)
    (fun w1 hp1 hb1=>by
      obtain ⟨ao,cap,hav⟩:=hb1.shape
      refine widthOf_fn 1 _ _ false 81 82 rfl pv av w1 hp1.shape ⟨_,_,_,hav⟩ (fun args W=>enters_of Tryz.func81 (by kernel_rfl) rfl args W) (fun w2 hw2=>?_)
      have h:=times_is pv av wd m (p:Int) (by omega) (by omega) w2 (hp1.below hw2) (hb1.below hw2)
      rw [hc]
      exact h)
    (fun w1 hpp hb1=>repeat_is pv av wd m p h1 h2 hm hp1 hwp w1 hpp hb1)
end Go.Proofs.YtacbkpenohcgjaaGreat
namespace Go.Proofs.YtacbkpenohcgjaaGreat
open Go.RowKit Mth
theorem between_bad (pv av:Value) (wd m:Nat) (p0 p1:Int) (h2:wd≤4096) (h4:(wd:Int)≤p0) (w:World) (hp:PaL w pv [p0,p1]) (h:BvL w av [(wd,m)]) :
    Calls Tryz.prog 57 #[.agg #[pv,av]] w fun e w'=>e=.returned (.int .i64 0)∧Below w.heap.size w w':=by
  have hpS:=hp.shape
  have HP:=Lib.hid hp
  obtain ⟨po,pc,rfl,hpc⟩:=hp
  obtain ⟨pb,poff,rfl,hplt,hpc⟩:=hpc (by simp)
  have pc0:=hpc 0 p0 rfl
  have pc1:=hpc 1 p1 rfl
  rw [Nat.add_zero] at pc0
  clear hpc hpS
  obtain ⟨ao,cap,rfl⟩:=h.shape
  have HV:Hid (BvL w (.slice ao 1 cap) [(wd,m)]):=Lib.hid h
  clear h
  obtain ⟨W,eW,g1,bel,hsz⟩:=alloc1n w (Obj.cells #[.slice (some ⟨pb,poff,none⟩) 2 pc,.slice ao 1 cap] 46)
  have G1:=Lib.hid g1; have BL:=Lib.hid bel
  have SHP:Hid (∃ qo qn qc,(.slice (some ⟨pb,poff,none⟩) 2 pc:Value)=.slice qo qn qc):=Lib.hid ⟨_,_,_,rfl⟩
  have FI:Hid (∀ w1,Below W.heap.size W w1→Calls Tryz.prog 25 #[.agg #[.slice (some ⟨pb,poff,none⟩) 2 pc,.slice ao 1 cap]] w1 fun e w'=>∃ a k c,e=.returned (.agg #[.int .i64 (wd:Int),.slice a k c])∧NmB w' (.slice a k c) m∧Below w1.heap.size w1 w'):=Lib.hid (fun w1 hw=>first_nm _ _ [(wd,m)] wd m w1 SHP.out (HV.out.below (below_of bel hw)) rfl)
  have PC0:Hid (∀ w',Below W.heap.size W w'→w'.cell? ⟨pb,poff,none⟩=some (.int .i64 p0)):=Lib.hid (fun w' hb=>((below_of bel hb).cell (p:=⟨pb,poff,none⟩) hplt).trans pc0)
  have PC1:Hid (∀ w',Below W.heap.size W w'→w'.cell? ⟨pb,poff+1,none⟩=some (.int .i64 p1)):=Lib.hid (fun w' hb=>((below_of bel hb).cell (p:=⟨pb,poff+1,none⟩) hplt).trans pc1)
  have STAY:Hid (∀ w',Below W.heap.size W w'→w'.cell? ⟨w.heap.size,0,none⟩=some (.slice (some ⟨pb,poff,none⟩) 2 pc)∧w'.cell? ⟨w.heap.size,1,none⟩=some (.slice ao 1 cap)∧w'.cell? ⟨pb,poff,none⟩=some (.int .i64 p0)∧w'.cell? ⟨pb,poff+1,none⟩=some (.int .i64 p1)):=Lib.hid (fun w' hb=>by
    obtain ⟨e0,e1,-,-,_⟩:=blk2 (car hb G1.out)
    exact ⟨e0,e1,PC0.out _ hb,PC1.out _ hb⟩)
  have hk0:=Below.refl W.heap.size W
  have hfl0:=field0_bits
  have hfl1:=field1_bits
  clear g1 bel
  have hge:decide ((wd:Int)≤p0)=true:=decide_eq_true h4
  go_enter Tryz.func57,Tryz.ntmps57
  go_upto_region 1 with fail
  try rw [eW]
  go_region_held3 (fun w'=>w'.cell? ⟨w.heap.size,0,none⟩=some (.slice (some ⟨pb,poff,none⟩) 2 pc)∧w'.cell? ⟨w.heap.size,1,none⟩=some (.slice ao 1 cap)∧w'.cell? ⟨pb,poff,none⟩=some (.int .i64 p0)∧w'.cell? ⟨pb,poff+1,none⟩=some (.int .i64 p1))
    ((first | (refine STAY.out _ ?_; first | exact hk1 | exact hk1.drew | exact hk0 | exact hk0.drew)))
    (first
    | (go_at_call 25; (with_reducible refine Calls.mono (FI.out _ (by first | exact hk0 | exact hk0.drew)) ?_); rintro e u1 ⟨a1,k1,c1,rfl,hn,hb⟩; have hk1:Below W.heap.size W u1:=(by first | exact below_of hk0 hb | exact below_of hk0.drew hb); have TK1:True:=trivial; have M1:=Lib.hid hn; clear hn hb))
  all_goals
    obtain ⟨e0,e1,e2,e3⟩:=STAY.out _ hk1
    go_wp2
    go_ret
    exact ⟨rfl,below_of BL.out (by first | exact hk1 | exact hk1.drew)⟩
theorem times_big (pv av:Value) (wd m:Nat) (p0:Int) (hmu:(wd:Int)*p0≤16777216) (hmu0:0≤(wd:Int)*p0) (w:World) (hp:PaL w pv [p0]) (h:BvL w av [(wd,m)]) :
    Calls Tryz.prog 81 #[.agg #[pv,av]] w fun e w'=>e=.returned (.int .i64 ((wd:Int)*p0))∧Below w.heap.size w w':=by
  have hpS:=hp.shape
  have HP:=Lib.hid hp
  obtain ⟨po,pc,rfl,hpc⟩:=hp
  obtain ⟨pb,poff,rfl,hplt,hpc⟩:=hpc (by simp)
  have pc0:=hpc 0 p0 rfl
  rw [Nat.add_zero] at pc0
  clear hpc hpS
  obtain ⟨ao,cap,rfl⟩:=h.shape
  have HV:Hid (BvL w (.slice ao 1 cap) [(wd,m)]):=Lib.hid h
  clear h
  obtain ⟨W,eW,g1,bel,hsz⟩:=alloc1n w (Obj.cells #[.slice (some ⟨pb,poff,none⟩) 1 pc,.slice ao 1 cap] 46)
  have G1:=Lib.hid g1; have BL:=Lib.hid bel
  have SHP:Hid (∃ qo qn qc,(.slice (some ⟨pb,poff,none⟩) 1 pc:Value)=.slice qo qn qc):=Lib.hid ⟨_,_,_,rfl⟩
  have FI:Hid (∀ w1,Below W.heap.size W w1→Calls Tryz.prog 25 #[.agg #[.slice (some ⟨pb,poff,none⟩) 1 pc,.slice ao 1 cap]] w1 fun e w'=>∃ a k c,e=.returned (.agg #[.int .i64 (wd:Int),.slice a k c])∧NmB w' (.slice a k c) m∧Below w1.heap.size w1 w'):=Lib.hid (fun w1 hw=>first_nm _ _ [(wd,m)] wd m w1 SHP.out (HV.out.below (below_of bel hw)) rfl)
  have PC0:Hid (∀ w',Below W.heap.size W w'→w'.cell? ⟨pb,poff,none⟩=some (.int .i64 p0)):=Lib.hid (fun w' hb=>((below_of bel hb).cell (p:=⟨pb,poff,none⟩) hplt).trans pc0)
  have STAY:Hid (∀ w',Below W.heap.size W w'→w'.cell? ⟨w.heap.size,0,none⟩=some (.slice (some ⟨pb,poff,none⟩) 1 pc)∧w'.cell? ⟨w.heap.size,1,none⟩=some (.slice ao 1 cap)∧w'.cell? ⟨pb,poff,none⟩=some (.int .i64 p0)):=Lib.hid (fun w' hb=>by
    obtain ⟨e0,e1,-,-,_⟩:=blk2 (car hb G1.out)
    exact ⟨e0,e1,PC0.out _ hb⟩)
  have hk0:=Below.refl W.heap.size W
  have hfl0:=field0_bits
  have hfl1:=field1_bits
  clear g1 bel
  have hwr:IntKind.i64.wrap ((wd:Int)*p0)=(wd:Int)*p0:=IntWalk.i64_in _ (by omega)
  go_enter Tryz.func81,Tryz.ntmps81
  go_upto_region 1 with fail
  try rw [eW]
  go_region_held3 (fun w'=>w'.cell? ⟨w.heap.size,0,none⟩=some (.slice (some ⟨pb,poff,none⟩) 1 pc)∧w'.cell? ⟨w.heap.size,1,none⟩=some (.slice ao 1 cap)∧w'.cell? ⟨pb,poff,none⟩=some (.int .i64 p0))
    ((first | (refine STAY.out _ ?_; first | exact hk1 | exact hk1.drew | exact hk0 | exact hk0.drew)))
    (first
    | (go_at_call 25; (with_reducible refine Calls.mono (FI.out _ (by first | exact hk0 | exact hk0.drew)) ?_); rintro e u1 ⟨a1,k1,c1,rfl,hn,hb⟩; have hk1:Below W.heap.size W u1:=(by first | exact below_of hk0 hb | exact below_of hk0.drew hb); have TK1:True:=trivial; have M1:=Lib.hid hn; clear hn hb))
  all_goals
    go_wp2
    go_ret
    exact ⟨rfl,below_of BL.out (by first | exact hk1 | exact hk1.drew)⟩
theorem apply_extractE (pv av:Value) (wd m hi lo:Nat) (h1:1≤wd) (h2:wd≤4096) (hm:m<2 ^ wd) (hl:lo≤hi) (hi4:hi≤4096) (hh:wd≤hi) (w:World) (hp:PaL w pv [(hi:Int),(lo:Int)]) (h:BvL w av [(wd,m)]) :
    Calls Tryz.prog 5 #[.int .i64 42,pv,av] w fun e w'=>e=.returned (.tuple #[BvE,.int .i64 55])∧Below w.heap.size w w' :=
  apply_parE 42 56 58 (.func (.func 57) #[] #[]) rfl (fun args W=>enters_of Tryz.func56 (by kernel_rfl) rfl args W) (fun args W=>enters_of Tryz.func58 (by kernel_rfl) rfl args W) row_42 pv av _ wd m 0 rfl h1 h2 hm w hp h (fun w1 hp1=>areEnds_yes pv _ _ (by omega) (by omega) (by omega) w1 hp1)
    (fun w1 hp1 hb1=>by
      obtain ⟨ao,cap,hav⟩:=hb1.shape
      refine widthOf_fn 1 _ _ false 57 58 rfl pv av w1 hp1.shape ⟨_,_,_,hav⟩ (fun args W=>enters_of Tryz.func57 (by kernel_rfl) rfl args W) (fun w2 hw2=>?_)
      exact between_bad pv av wd m (hi:Int) (lo:Int) h2 (by omega) w2 (hp1.below hw2) (hb1.below hw2))
theorem apply_repeatE (pv av:Value) (wd m p:Nat) (h1:1≤wd) (h2:wd≤4096) (hm:m<2 ^ wd) (hp1:1≤p) (hp4:p≤4096) (hwp:4096<wd*p) (w:World) (hp:PaL w pv [(p:Int)]) (h:BvL w av [(wd,m)]) :
    Calls Tryz.prog 5 #[.int .i64 63,pv,av] w fun e w'=>e=.returned (.tuple #[BvE,.int .i64 55])∧Below w.heap.size w w':=by
  have hc:((wd*p:Nat):Int)=(wd:Int)*(p:Int):=by rw [Int.natCast_mul]
  have hle:wd*p≤16777216:=Nat.le_trans (Nat.mul_le_mul h2 hp4) (by decide)
  exact apply_parE 63 80 82 (.func (.func 81) #[] #[]) rfl (fun args W=>enters_of Tryz.func80 (by kernel_rfl) rfl args W) (fun args W=>enters_of Tryz.func82 (by kernel_rfl) rfl args W) row_63 pv av _ wd m ((wd*p:Nat):Int) (by
      generalize wd*p=x at *
      simp only [isW,Bool.and_eq_false_iff,decide_eq_false_iff_not]; omega) h1 h2 hm w hp h (fun w1 hp1=>isFactor_yes pv _ (by omega) (by omega) w1 hp1)
    (fun w1 hp1 hb1=>by
      obtain ⟨ao,cap,hav⟩:=hb1.shape
      refine widthOf_fn 1 _ _ false 81 82 rfl pv av w1 hp1.shape ⟨_,_,_,hav⟩ (fun args W=>enters_of Tryz.func81 (by kernel_rfl) rfl args W) (fun w2 hw2=>?_)
      have h:=times_big pv av wd m (p:Int) (by omega) (by omega) w2 (hp1.below hw2) (hb1.below hw2)
      rw [hc]
      exact h)
theorem apply_concatE (pv av:Value) (wd wd' m n:Nat) (h1:1≤wd) (h1':1≤wd') (h2:wd≤4096) (h2':wd'≤4096) (hw:4096<wd+wd') (hm:m<2 ^ wd) (hn:n<2 ^ wd') (w:World) (hp:∃ po pn pc,pv=.slice po pn pc) (h:BvL w av [(wd,m),(wd',n)]) :
    Calls Tryz.prog 5 #[.int .i64 41,pv,av] w fun e w'=>e=.returned (.tuple #[BvE,.int .i64 55])∧Below w.heap.size w w':=by
  obtain ⟨ao,cap,hav⟩:=h.shape
  have hWO:∀ w1,Below w.heap.size w w1→Calls Tryz.prog 12 #[.agg #[.int .i64 2,.nilFunc,.bool true,(.func (.func 54) #[] #[]),(.func (.func 55) #[] #[])],.agg #[pv,av]] w1 fun e w'=>e=.returned (.int .i64 ((wd+wd':Nat):Int))∧Below w1.heap.size w1 w':=fun w1 hw =>
    widthOf_fn 2 _ .nilFunc true 54 55 rfl pv av w1 hp ⟨_,_,_,hav⟩ (fun args W=>enters_of Tryz.func54 (by kernel_rfl) rfl args W) (fun w2 hw2=>by
      have h:=together_is pv av wd wd' m n (by omega) (by omega) w2 hp ((h.below hw).below hw2)
      rw [show ((wd+wd':Nat):Int)=(wd:Int)+(wd':Int) by omega]
      exact h)
  refine apply_err 41 2 55 .nilFunc (.func (.func 54) #[] #[]) true 55 rfl rfl (by decide) pv av w hp ⟨_,_,_,hav⟩ row_41 (fun w1 hw=>?_)
  exact fault_n_55m 2 _ 55 rfl pv av w1 hp ao 2 cap hav rfl (fun w2 hw2=>areRight_fine av _ w2 ((h.below hw).below hw2) (fun p hp=>by
    simp only [List.mem_cons,List.not_mem_nil,or_false] at hp
    rcases hp with rfl | rfl
    · exact ⟨h1,by omega,hm⟩
    · exact ⟨h1',by omega,hn⟩) (by simp)) ((wd+wd':Nat):Int) (by simp only [isW,Bool.and_eq_false_iff,decide_eq_false_iff_not]; omega) (fun w2 hw2=>hWO w2 (below_of hw hw2))
end Go.Proofs.YtacbkpenohcgjaaGreat
