import Derived.Test.YtacbkpenohcgjaaGreatVY2
set_option linter.unusedVariables false
set_option linter.unusedSimpArgs false
set_option maxHeartbeats 1000000
set_option maxRecDepth 100000
namespace Go.Proofs.YtacbkpenohcgjaaGreat
open Go.RowKit Mth
theorem quad_lim (m:Nat):Lim B16 (quad m):=by
  rw [← halves_one]; exact lim_halves [m]
theorem quad_val {m:Nat} (h:m<B64):val B16 (quad m)=m:=by
  rw [← halves_one,val_halves (lim_cons.2 ⟨h,lim_nil (by unfold B64; omega)⟩)]; simp [val]
theorem small1_any (n:Int) (w:World) (h1:-9223372036854775808≤n) (h2:n≤9223372036854775807):Calls Tryz.prog 43 #[.int .i64 n] w fun e w'=>∃ v',e=.returned v'∧ZV w' v' n∧Below w.heap.size w w':=by
  have hm:n.natAbs<B64:=by unfold B64; omega
  have HM:Hid (∀ (b:Bool) (d0 d1 d2 d3:Int) (w1:World),d0=((hf n.natAbs 0:Nat):Int)→d1=((hf n.natAbs 1:Nat):Int)→d2=((hf n.natAbs 2:Nat):Int)→d3=((hf n.natAbs 3:Nat):Int)→b=sgn n →
      Calls Tryz.prog 91 #[.bool b,.slice (some ⟨w1.heap.size,0,none⟩) 4 4] (w1.alloc (Obj.cells #[Value.int .u16 d0,Value.int .u16 d1,Value.int .u16 d2,Value.int .u16 d3] 104)) fun e w'=>∃ v',e=.returned v'∧ZV w' v' n∧Below w1.heap.size w1 w'):=Lib.hid (fun b d0 d1 d2 d3 w1 e0 e1 e2 e3 eb=>by
    refine (make_any b _ (quad n.natAbs) _ (sl_four w1 d0 d1 d2 d3 n.natAbs e0 e1 e2 e3) (quad_lim _)).mono ?_
    rintro e w' ⟨v',he,hz,hb⟩
    rw [quad_val hm,eb,sg_sgn] at hz
    exact ⟨v',he,hz.below hb,below_of ((Below.refl _ _).alloc (Nat.le_refl _) _) hb⟩)
  by_cases hn:n<0
  · have hw1:IntKind.u64.wrap n=n+18446744073709551616:=by rw [IntKind.wrap_u64]; omega
    have hw2:IntKind.u64.wrap (-(n+18446744073709551616))=((n.natAbs:Nat):Int):=by rw [IntKind.wrap_u64]; omega
    have E:=Lib.hid (sgn_neg hn)
    generalize n.natAbs=m at *
    go_enter Tryz.func43,Tryz.ntmps43
    go_wp2_with fail
    have hsz:(w.alloc (Obj.cells #[Value.bool false,Value.slice none 0 0] 61)).heap.size=w.heap.size+1:=by simp
    have G:=HM.out true _ _ _ _ (w.alloc (Obj.cells #[Value.bool false,Value.slice none 0 0] 61)) (uv0 m) (uv1 m) (uv2 m) (uv3 m) E.out.symm
    rw [hsz] at G
    refine G.mono ?_
    rintro e w2 ⟨v2,rfl,hz,hb2⟩
    rw [← hsz] at hb2
    have hR:=(hb2.block w.heap.size (by rw [hsz]; omega)).trans (heap_alloc_new w _)
    obtain ⟨k0,k1,g0,g1,hlt⟩:=blk2 hR
    obtain ⟨n2,a2,l2,c2,rfl⟩:=hz.shape
    have HZ:=Lib.hid (hz.far (y0:=.bool n2) (y1:=.slice a2 l2 c2) hR)
    have B2:=below_of ((Below.refl _ _).alloc (Nat.le_refl _) _) hb2
    clear hz G hsz
    go_wp2
    refine bodyPost_ret (v:=.agg #[.bool n2,.slice a2 l2 c2]) ?_ rfl ⟨_,rfl,HZ.out,(B2.setCell (p:=⟨w.heap.size,0,none⟩) (Nat.le_refl _) _).setCell (p:=⟨w.heap.size,1,none⟩) (Nat.le_refl _) _⟩
    simp [results,Tryz.results43,go_sem, *]
  · have hw1:IntKind.u64.wrap n=((n.natAbs:Nat):Int):=by rw [IntKind.wrap_u64]; omega
    have E:=Lib.hid (sgn_pos (z:=n) (by omega))
    generalize n.natAbs=m at *
    go_enter Tryz.func43,Tryz.ntmps43
    go_wp2_with fail
    have hsz:(w.alloc (Obj.cells #[Value.bool false,Value.slice none 0 0] 61)).heap.size=w.heap.size+1:=by simp
    have G:=HM.out false _ _ _ _ (w.alloc (Obj.cells #[Value.bool false,Value.slice none 0 0] 61)) (uv0 m) (uv1 m) (uv2 m) (uv3 m) E.out.symm
    rw [hsz] at G
    refine G.mono ?_
    rintro e w2 ⟨v2,rfl,hz,hb2⟩
    rw [← hsz] at hb2
    have hR:=(hb2.block w.heap.size (by rw [hsz]; omega)).trans (heap_alloc_new w _)
    obtain ⟨k0,k1,g0,g1,hlt⟩:=blk2 hR
    obtain ⟨n2,a2,l2,c2,rfl⟩:=hz.shape
    have HZ:=Lib.hid (hz.far (y0:=.bool n2) (y1:=.slice a2 l2 c2) hR)
    have B2:=below_of ((Below.refl _ _).alloc (Nat.le_refl _) _) hb2
    clear hz G hsz
    go_wp2
    refine bodyPost_ret (v:=.agg #[.bool n2,.slice a2 l2 c2]) ?_ rfl ⟨_,rfl,HZ.out,(B2.setCell (p:=⟨w.heap.size,0,none⟩) (Nat.le_refl _) _).setCell (p:=⟨w.heap.size,1,none⟩) (Nat.le_refl _) _⟩
    simp [results,Tryz.results43,go_sem, *]
end Go.Proofs.YtacbkpenohcgjaaGreat
