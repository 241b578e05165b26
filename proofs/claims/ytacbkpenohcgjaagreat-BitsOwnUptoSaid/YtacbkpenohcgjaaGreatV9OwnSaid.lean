/- Proved here: for every operator, every list of params and every list of vectors in any form, of bulk at most 1048576 together, BitsOwn returns true and its arguments read as before. Condition: the bound on the arguments' bulk (the statement's own). -/
import Derived.Test.YtacbkpenohcgjaaGreatVLiftV
import Derived.Test.YtacbkpenohcgjaaGreatVLiftB
import Derived.Test.YtacbkpenohcgjaaGreatV9Y
import Derived.Test.YtacbkpenohcgjaaGreatRows
import Derived.WalkKit
import Derived.ProofKit
import Derived.OpenShut
import Derived.JoinedCond
set_option linter.unusedVariables false
set_option linter.unusedSimpArgs false
set_option maxRecDepth 100000
namespace Go.Proofs.YtacbkpenohcgjaaGreat.b9own
open Go.ChangeShapes Go.WideShapes Go.ChangeAt Go.RowKit Mth
theorem own:ownKnob Tryz.prog.godebug=none:=by kernel_rfl
theorem contract (H:Type) (enc:TypeId × Value→H) (W:World) (base:Nat) (args:Array Value) (ds gs:List (DataW H)) (before:List MemPlace)
    (hval:∀ (j:Nat) t v,Tryz.f4.params[j]?=some t→args[j]?=some v→Value.okWide Tryz.prog W .any base t v)
    (hW:DataW.Whole enc Tryz.prog Tryz.f4.params.toList Rows.bitsOwnSpec.vars false W args.toList ds gs before) (hk:Rows.uptoSmall H (ds++gs)=true) :
    Calls Tryz.prog 4 args W fun e W'=>∃ v,e=.returned v∧Rows.bitsOwnSpec.post enc Tryz.prog Tryz.f4 false true false false W args v W':=by
  have hW':=hW
  obtain ⟨p,q,hA0,hV,rfl,hfz,hnd⟩:=hW
  have hA:DataW.TrodAll enc Tryz.prog W 0 (fun _=>true) true Tryz.f4.params.toList args.toList ds p:=hA0
  rw [Tryz.params4] at hA hval
  obtain ⟨v0,vs0,d0,ds0,p0,q0,hargs,rfl,rfl,h0,r0⟩:=trodAll_cons hA
  obtain ⟨v1,vs1,d1,ds1,p1,q1,rfl,rfl,rfl,h1,r1⟩:=trodAll_cons r0
  obtain ⟨v2,vs2,d2,ds2,p2,q2,rfl,rfl,rfl,h2,r2⟩:=trodAll_cons r1
  obtain ⟨rfl,rfl,rfl⟩:=trodAll_nil r2
  obtain rfl:args=#[v0,v1,v2]:=by cases args; simp_all
  obtain ⟨rfl,rfl⟩:=trodVars_none hV
  have hk':Rows.uptoBulkAll ([d0,d1,d2]++[])≤1048576:=of_decide_eq_true hk
  obtain ⟨x1,s1⟩:=inl_arg (hval 1 _ v1 rfl rfl) h1 (Nat.le_trans (bulk_mem (by simp)) hk')
  obtain ⟨x2,s2⟩:=bitsl_arg (hval 2 _ v2 rfl rfl) h2 (Nat.le_trans (bulk_mem (by simp)) hk')
  obtain ⟨x0,rfl,rfl,rfl,w0⟩:=open_int Tryz.underlying22 (hval 0 _ v0 rfl rfl) h0
  have b0:=bounds_i64 w0
  have hlt:∀ x∈[]++(p1++(p2++([]))),x.block<W.heap.size:=fun x hx=>by simpa using hW'.lt x (by simpa using hx)
  refine (own9_walk x0 v1 v2 x1 x2 W s1 s2).mono fun e W' ⟨he,hb⟩=>?_
  subst he
  refine ⟨_,rfl,_,_,_,[],[]++(p1++(p2++([]))),[],hW',trodAll_cons_mk (shut_bool Tryz.underlying4 _) trodAll_mk0, ?_,rfl,hb.frame _,fun h=>by cases h⟩
  exact trodAll_cons_mk (shut_int Tryz.underlying22 w0) (trodAll_cons_mk (arg_stays (by kernel_rfl) (of_decide_eq_true (by kernel_rfl)) h1 hb (fun x hx=>hlt x (by simp [hx]))) (trodAll_cons_mk (arg_stays (by kernel_rfl) (of_decide_eq_true (by kernel_rfl)) h2 hb (fun x hx=>hlt x (by simp [hx]))) trodAll_mk0))
theorem lifted (os:Os) (started:os.Started) (H:Type) (enc:TypeId × Value→H) (F:Stop.Interp) :
    ReturnsInHanded {} Tryz.checked os 4 .any ((Rows.OpenSpec.upto Rows.bitsOwnSpec).pre6 enc Tryz.prog Tryz.f4 Rows.bitsOwnUptoRow.domain false) (((Rows.OpenSpec.upto Rows.bitsOwnSpec).at F).post enc Tryz.prog Tryz.f4 false true false false):=by
  refine returnsInHanded_of_cond (C:=Tryz.checked) (s:=Rows.OpenSpec.upto Rows.bitsOwnSpec) (k:=Rows.uptoSmall) rfl own started (by kernel_rfl) Tryz.func4
    (OpenSpec.witness (enc:=enc) (C:=Tryz.checked) (s:=Rows.OpenSpec.upto Rows.bitsOwnSpec) (k:=Rows.uptoSmall) rfl false ⟨#[],#[.int .i64 0,.slice none 0 0,.slice none 0 0],[]⟩ 8 (by kernel_rfl) (by kernel_rfl) (by kernel_rfl)
      (x:=([.lit (.int .i64 0),.nil,.nil],[],[])) (by kernel_rfl) rfl (by kernel_rfl)) ?_
  intro W base args ds gs before hval hW _ hk _
  exact contract H enc W base args ds gs before hval hW hk
theorem saidUpto:Rows.BitsOwnUptoSaid :=
  OpenClaim.holds_of_cond 4 Tryz.f4 rfl rfl rfl rfl rfl rfl rfl ⟨rfl,rfl,rfl,rfl,rfl⟩ rfl rfl rfl rfl rfl (by kernel_rfl) Tryz.func4 (by kernel_rfl)
    (of_decide_eq_true (by kernel_rfl)) (by unfold Func.isWrapper; first | (rw [if_pos (by decide +kernel)]; kernel_rfl) | (rw [if_neg (by decide +kernel)]; exact ⟨rfl,rfl⟩))
    (fun os started H enc _ F=>lifted os started H enc F)
end Go.Proofs.YtacbkpenohcgjaaGreat.b9own
