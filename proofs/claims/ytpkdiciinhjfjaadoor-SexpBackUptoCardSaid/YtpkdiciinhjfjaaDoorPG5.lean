/- PYC PYD PYE PYF PYG PYH. -/
import Derived.Test.YtpkdiciinhjfjaaDoorPG4
import Derived.Deep.QuietTactic
import Derived.BigQuiet
set_option linter.unusedVariables false
set_option linter.unusedSimpArgs false
/- sexp: the closure of an open list. -/
namespace Go.Proofs.YtpkdiciinhjfjaaDoor
open Go.RowKit Mth

/-- the boxes that a list's closure captures -/
def OpenB (w : World) (X : Nat → Prop) (B tb rb fb : Nat) (t : Tk) (k : Nat) : Prop :=
  w.heap[tb]? = some (.cells #[.int .i64 t.k, .string t.t, .bool t.q, .int .i64 t.l, .int .i64 t.c] 34 (0, 0)) ∧ w.heap[rb]? = some (.cells #[.pointer (some ⟨B, 0, none⟩)] 81 (0, 0)) ∧ w.heap[fb]? = some (.cells #[.int .i64 (k : Int)] 3 (0, 0)) ∧ X tb ∧ X rb ∧ X fb
theorem OpenB.keeps {w w' : World} {X Y : Nat → Prop} {B tb rb fb : Nat} {t : Tk} {k : Nat} (h : OpenB w X B tb rb fb t k) (hk : Keeps w w' X) (hxy : ∀ b, b < w.heap.size → X b → Y b) : OpenB w' Y B tb rb fb t k := by
  obtain ⟨h1, h2, h3, x1, x2, x3⟩ := h
  exact ⟨hk.at x1 h1, hk.at x2 h2, hk.at x3 h3, hxy _ (Array.getElem?_eq_some_iff.1 h1).1 x1, hxy _ (Array.getElem?_eq_some_iff.1 h2).1 x2, hxy _ (Array.getElem?_eq_some_iff.1 h3).1 x3⟩
theorem results_sx {fn : Func} {tmps : Array Value} {w : World} {b : Nat} {x1 x2 x3 x4 x5 x6 x7 : Value} (h : fn.results = #[.cell 3 36]) (h1 : tmps.getD 3 undef = .pointer (some ⟨b, 0, none⟩)) (hb : w.heap[b]? = some (.cells #[x1, x2, x3, x4, x5, x6, x7] 36 (0, 0))) :
    (results fn tmps).run Tryd.prog w = .ok (.agg #[x1, x2, x3, x4, x5, x6, x7]) w := by
  obtain ⟨c0, c1, c2, c3, c4, c5, c6⟩ := blk7 hb
  rw [Array.getD_eq_getD_getElem?] at h1
  simp [results, h, h1, go_sem, c0, c1, c2, c3, c4, c5, c6]
/-- what the closure of a list does: the node with the kids that stand on the stack from place k on -/
def ListO (w w' : World) (B : Nat) (nv fv ov : Value) (l : List Int) (k : Nat) (t : Tk) (e : Ending) : Prop :=
  ∃ ka kc, e = .returned (.agg #[.int .i64 2, .int .i64 t.k, .string t.t, .bool t.q, .int .i64 t.l, .int .i64 t.c, .slice ka (l.drop k).length kc]) ∧ CutO' w w' B nv fv ov l k (.slice ka (l.drop k).length kc)
theorem set7_of {w : World} {g : Nat} {T : TypeId} {y0 y1 y2 y3 y4 y5 y6 : Value} (x0 x1 x2 x3 x4 x5 x6 : Value) (h : w.heap[g]? = some (.cells #[y0, y1, y2, y3, y4, y5, y6] T (0, 0))) :
    ∃ V, (((((((w.setCell ⟨g, 0, none⟩ x0).setCell ⟨g, 1, none⟩ x1).setCell ⟨g, 2, none⟩ x2).setCell ⟨g, 3, none⟩ x3).setCell ⟨g, 4, none⟩ x4).setCell ⟨g, 5, none⟩ x5).setCell ⟨g, 6, none⟩ x6) = V ∧ V.heap[g]? = some (.cells #[x0, x1, x2, x3, x4, x5, x6] T (0, 0)) ∧ Keeps w V (fun b => b ≠ g) := by
  refine ⟨_, rfl, ?_, ?_⟩
  · refine heap_setCell_row (cs := #[x0, x1, x2, x3, x4, x5, y6]) ?_ rfl
    refine heap_setCell_row (cs := #[x0, x1, x2, x3, x4, y5, y6]) ?_ rfl
    refine heap_setCell_row (cs := #[x0, x1, x2, x3, y4, y5, y6]) ?_ rfl
    refine heap_setCell_row (cs := #[x0, x1, x2, y3, y4, y5, y6]) ?_ rfl
    refine heap_setCell_row (cs := #[x0, x1, y2, y3, y4, y5, y6]) ?_ rfl
    refine heap_setCell_row (cs := #[x0, y1, y2, y3, y4, y5, y6]) ?_ rfl
    exact heap_setCell_row h rfl
  · exact (((((((Keeps.set (w := w) (g := g)).trans Keeps.set).trans Keeps.set).trans Keeps.set).trans Keeps.set).trans Keeps.set).trans Keeps.set)
theorem list_of {w W U w1 V : World} {B k : Nat} {nv fv ov v' fv' : Value} {l : List Int} (KW : Keeps w W (fun _ => True)) (hz : w.heap.size < W.heap.size) (hU : Below W.heap.size W U) (hBl : B < w.heap.size) (HFL : ∀ g, fv.ownBlock = some g → B + 1 ≤ g ∧ g < w.heap.size)
    (hb : w1.heap[B]? = some (.cells #[nv, fv', ov] 58 (0, 0))) (ho : w1.ownsRow (B + 1) 3 1 fv' k (inCells (l.take k))) (hob : fv'.ownBlock = fv.ownBlock) (hin : InX w1 (fun b => U.heap.size ≤ b) v' (l.drop k)) (hk : Keeps U w1 (fun b => b ≠ B)) (hV : Keeps w1 V (fun b => b ≠ w.heap.size)) :
    CutO' w V B nv fv ov l k v' := by
  have hUz := hU.size
  refine ⟨fv', hV.at (by omega) hb, own_keeps ho hV (fun g hg => by have := (HFL g (hob ▸ hg)).2; omega), hob, ?_, ?_⟩
  · exact hin.keeps (hV.weak (fun b _ hb => by omega)) (fun b _ hb => by omega)
  · exact (((KW.weak (Y := fun b => b ≠ B) (fun _ _ _ => trivial)).on (Keeps.of_below hU) (fun _ _ _ => trivial)).on hk (fun _ _ h => h)).on hV (fun b hb _ => by omega)
set_option maxHeartbeats 8000000 in
set_option maxRecDepth 100000 in
theorem begin1_any (B tb rb fb k : Nat) (t : Tk) (nv fv ov : Value) (l : List Int) (X : Nat → Prop) (w : World) (hO : OpenB w X B tb rb fb t k) (hX : ¬ X B) (hB : w.heap[B]? = some (.cells #[nv, fv, ov] 58 (0, 0))) (hf : w.ownsRow (B + 1) 3 1 fv l.length (inCells l)) (hll : l.length ≤ 1048576) (hk : k ≤ l.length) :
    Calls Tryd.prog 55 #[.pointer (some ⟨tb, 0, none⟩), .pointer (some ⟨rb, 0, none⟩), .pointer (some ⟨fb, 0, none⟩)] w fun e w' => ListO w w' B nv fv ov l k t e := by
  obtain ⟨o1, o2, o3, x1, x2, x3⟩ := hO
  obtain ⟨W, eW, gW, bW, hWs⟩ := allocS w (Obj.cells #[.int .i64 0, .int .i64 0, .string ⟨#[]⟩, .bool false, .int .i64 0, .int .i64 0, .slice none 0 0] 36)
  have KW := Lib.hid (Keeps.of_below bW)
  have HBl : Hid (B < w.heap.size ∧ tb < w.heap.size ∧ rb < w.heap.size ∧ fb < w.heap.size) := Lib.hid ⟨(Array.getElem?_eq_some_iff.1 hB).1, (Array.getElem?_eq_some_iff.1 o1).1, (Array.getElem?_eq_some_iff.1 o2).1, (Array.getElem?_eq_some_iff.1 o3).1⟩
  have HNE : Hid (tb ≠ B ∧ rb ≠ B ∧ fb ≠ B) := Lib.hid ⟨fun e => hX (e ▸ x1), fun e => hX (e ▸ x2), fun e => hX (e ▸ x3)⟩
  have O1 := Lib.hid (blkT bW o1)
  have O2 := Lib.hid (blkT bW o2)
  have O3 := Lib.hid (blkT bW o3)
  have GW : Hid (W.heap[w.heap.size]? = _) := Lib.hid gW
  have HFL := Lib.hid hf.lt
  have CC : Hid (∀ U, Below W.heap.size W U → Calls Tryd.prog 56 #[.pointer (some ⟨B, 0, none⟩), .int .i64 (k : Int)] U fun e w' => ∃ v', e = .returned v' ∧ CutO' U w' B nv fv ov l k v') := Lib.hid fun U hU =>
    cut_any B k nv fv ov l U (blkT hU (blkT bW hB)) (own_keeps (own_keeps hf KW.out (fun _ _ => trivial)) (Keeps.of_below hU) (fun _ _ => trivial)) hll hk
  have B0 := Lib.hid (Below.refl W.heap.size W)
  obtain ⟨a0, a1, a2, a3, a4⟩ := blk5 O1.out
  have b0 := blk1s O2.out
  have c0 := blk1s O3.out
  clear o1 o2 o3 x1 x2 x3 hB hf gW bW
  go_enter Tryd.func55, Tryd.ntmps55
  go_wp2_with fail
  try rw [eW]
  go_region_with (go_at_call 56; refine Calls.mono (CC.out _ ?_) ?_; (first | exact B0.out | exact B0.out.drew | exact B0.out.drew.drew); rintro e w1 ⟨v', rfl, fv', hb', ho', hob, hin, hk1⟩; obtain ⟨va, vc, rfl, hvc⟩ := hin; have HIN := Lib.hid hvc; have HB1 := Lib.hid hb'; have HO1 := Lib.hid ho'; have HOB := Lib.hid hob; have HK1 := Lib.hid hk1; have hz : w.heap.size < w1.heap.size := Nat.lt_of_lt_of_le hWs hk1.1; obtain ⟨d0, d1, d2, d3, d4⟩ := blk5 (hk1.at HNE.out.1 O1.out); obtain ⟨t0, t1, t2, t3, t4, t5, t6⟩ := blk7 (hk1.at (b := w.heap.size) (by have := HBl.out.1; omega) GW.out); have fz : ∀ i, w1.frozen? ⟨w.heap.size, i, none⟩ = false := fun i => frozen_of_row w1 w.heap.size i _ _ (hk1.at (b := w.heap.size) (by have := HBl.out.1; omega) GW.out); have f0 := fz 0; have f1 := fz 1; have f2 := fz 2; have f3 := fz 3; have f4 := fz 4; have f5 := fz 5; have f6 := fz 6; clear hvc hb' ho' hob hk1 fz)
  all_goals
    go_wp2
    have hgw1 := HK1.out.at (b := w.heap.size) (by have := HBl.out.1; omega) GW.out
    obtain ⟨V, eV, gV, kV⟩ := set7_of (.int .i64 2) (.int .i64 t.k) (.string t.t) (.bool t.q) (.int .i64 t.l) (.int .i64 t.c) (.slice va (l.length - k) vc) hgw1
    rw [eV]
    refine bodyPost_ret (results_sx rfl rfl gV) rfl ⟨va, vc, by rw [List.length_drop], ?_⟩
    rw [List.length_drop]
    refine list_of KW.out hWs ?_ HBl.out.1 HFL.out HB1.out HO1.out HOB.out ⟨_, _, by rw [List.length_drop], HIN.out⟩ HK1.out kV
    first | exact B0.out | exact B0.out.drew | exact B0.out.drew.drew
end Go.Proofs.YtpkdiciinhjfjaaDoor

/- sexp: the reader's begin. -/
namespace Go.Proofs.YtpkdiciinhjfjaaDoor
open Go.RowKit Mth

theorem info_fn : (Tryd.prog.info? 60).map (fun i => (i.zero, i.size, i.bytes)) = some (some (.nilFunc), 1, 8) := by kernel_rfl
/-- the value of an open list's closure -/
def cloV (p : Nat × Nat × Nat) : Value := .func (.func 55) #[] #[.pointer (some ⟨p.1, 0, none⟩), .pointer (some ⟨p.2.1, 0, none⟩), .pointer (some ⟨p.2.2, 0, none⟩)]
/-- what begin leaves: a list more is open -/
def BeginO (w w' : World) (B : Nat) (nv fv ov : Value) (k : Nat) (O : List (Nat × Nat × Nat)) (t : Tk) : Prop :=
  ∃ ov' p, w'.heap[B]? = some (.cells #[nv, fv, ov'] 58 (0, 0)) ∧ w'.ownsRow (B + 1) 60 1 ov' (O ++ [p]).length ((O ++ [p]).map cloV) ∧ (ov'.ownBlock = ov.ownBlock ∨ ∃ g, ov'.ownBlock = some g ∧ w.heap.size ≤ g) ∧
    OpenB w' (fun b => w.heap.size ≤ b ∧ ov'.ownBlock ≠ some b) B p.1 p.2.1 p.2.2 t k ∧ Keeps w w' (fun b => b ≠ B ∧ ov.ownBlock ≠ some b)
set_option maxHeartbeats 2000000 in
set_option maxRecDepth 100000 in
theorem begin_deep (B oc : Nat) (oo : Option Addr) (nv fv : Value) (t : Tk) (w : World) (hB : w.heap[B]? = some (.cells #[nv, fv, .slice oo 4096 oc] 58 (0, 0))) :
    Calls Tryd.prog 36 #[.pointer (some ⟨B, 0, none⟩), .agg #[.int .i64 t.k, .string t.t, .bool t.q, .int .i64 t.l, .int .i64 t.c]] w fun e w' => e = .returned (.int .i64 72) ∧ Below w.heap.size w w' := by
  obtain ⟨⟨p0, p1, p2⟩, hBl⟩ := blk3r hB
  have BE := Lib.hid (Below.refl w.heap.size w)
  clear hB
  go_enter Tryd.func36, Tryd.ntmps36
  go_wp2
  go_ret
  exact ⟨rfl, (BE.out.alloc (Nat.le_refl _) _).alloc (by simp) _⟩
theorem begino_of {w V U : World} {B k m gg c v1 v2 : Nat} {nv fv ov : Value} {O : List (Nat × Nat × Nat)} {t : Tk} (KV : Keeps w V (fun _ => True)) (hBw : B < w.heap.size) (HOL : ∀ g, ov.ownBlock = some g → B + 1 ≤ g ∧ g < w.heap.size) (OB : OpenB V (fun b => w.heap.size ≤ b ∧ b < V.heap.size) B v1 w.heap.size v2 t k)
    (bU : U.heap[B]? = some (.cells #[nv, fv, .slice (some ⟨gg, 0, none⟩) m c] 58 (0, 0))) (oU : U.ownsRow (B + 1) 60 1 (.slice (some ⟨gg, 0, none⟩) m c) (O.length + 1) (O.map cloV ++ [cloV (v1, w.heap.size, v2)])) (kU : Keeps V U (fun b => b ≠ B ∧ ov.ownBlock ≠ some b)) (hat : ov.ownBlock = some gg ∨ gg = V.heap.size + 1) :
    BeginO w U B nv fv ov k O t := by
  have e1 := KV.1
  refine ⟨_, (v1, w.heap.size, v2), bU, ?_, ?_, OB.keeps (kU.weak (fun b _ hb => ⟨by omega, fun e => by have := (HOL b e).2; omega⟩)) (fun b _ hb => ⟨hb.1, fun e => ?_⟩), ((KV.weak (Y := fun b => b ≠ B ∧ ov.ownBlock ≠ some b) (fun _ _ _ => trivial)).on kU (fun _ _ h => h))⟩
  · rw [List.length_append, List.map_append]; exact oU
  · rcases hat with h | h
    · exact .inl h.symm
    · exact .inr ⟨gg, rfl, by omega⟩
  · obtain rfl : gg = b := Option.some.inj e
    rcases hat with h | h
    · have := (HOL gg h).2; omega
    · omega
set_option maxHeartbeats 8000000 in
set_option maxRecDepth 100000 in
theorem begin_any (B : Nat) (nv fv ov : Value) (O : List (Nat × Nat × Nat)) (l : List Int) (t : Tk) (w : World) (hB : w.heap[B]? = some (.cells #[nv, fv, ov] 58 (0, 0))) (hf : w.ownsRow (B + 1) 3 1 fv l.length (inCells l)) (ho : w.ownsRow (B + 1) 60 1 ov O.length (O.map cloV)) (hO : O.length < 4096) (hll : l.length ≤ 1048576) :
    Calls Tryd.prog 36 #[.pointer (some ⟨B, 0, none⟩), .agg #[.int .i64 t.k, .string t.t, .bool t.q, .int .i64 t.l, .int .i64 t.c]] w fun e w' => e = .returned (.int .i64 0) ∧ BeginO w w' B nv fv ov l.length O t := by
  have HB := Lib.hid hB; have HO := Lib.hid ho
  obtain ⟨V1, eV1, g1, b1, -⟩ := allocS w (Obj.cells #[.pointer (some ⟨B, 0, none⟩)] 81)
  obtain ⟨V2, eV2, g2, b2, -⟩ := allocS V1 (Obj.cells #[.int .i64 t.k, .string t.t, .bool t.q, .int .i64 t.l, .int .i64 t.c] 34)
  obtain ⟨V, eV, g3, b3, hVs⟩ := allocS V2 (Obj.cells #[.int .i64 (l.length : Int)] 3)
  have z1 : V1.heap.size = w.heap.size + 1 := by rw [← eV1]; simp
  have z2 : V2.heap.size = w.heap.size + 2 := by rw [← eV2]; simp; omega
  have z3 : V.heap.size = w.heap.size + 3 := by rw [← eV]; simp; omega
  have KV := Lib.hid (Keeps.of_below (belowT b1 (belowT b2 b3)))
  have hBV2 := blkT b2 (blkT b1 hB)
  have hBV := blkT b3 hBV2
  have HBV := Lib.hid hBV
  have OB : Hid (OpenB V (fun b => w.heap.size ≤ b ∧ b < V.heap.size) B V1.heap.size w.heap.size V2.heap.size t l.length) := Lib.hid ⟨blkT b3 g2, blkT b3 (blkT b2 g1), g3, ⟨by omega, by omega⟩, ⟨by omega, by omega⟩, ⟨by omega, by omega⟩⟩
  have r2 := blk1s (blkT b2 g1)
  have r3 := blk1s (blkT b3 (blkT b2 g1))
  have hown := own_keeps ho KV.out (fun _ _ => trivial)
  have HOL : Hid (∀ g, ov.ownBlock = some g → B + 1 ≤ g ∧ g < w.heap.size) := Lib.hid ho.lt
  obtain ⟨oo, oc, rfl⟩ := own_len ho
  obtain ⟨fo, fc, rfl⟩ := own_len hf
  obtain ⟨⟨p0, p1, p2⟩, hBl⟩ := blk3r hBV
  obtain ⟨⟨q0, q1, q2⟩, hBl2⟩ := blk3r hBV2
  have fB := frozen_of_row V B 2 _ _ hBV
  have n0 := World.new_ne V _ p0
  have aB : (Value.slice oo O.length oc).ownBlock ≠ some B := fun e => by have := (HOL.out B e).1; omega
  have hw3 : w.heap.size < V.heap.size := by omega
  have n1 : V.heap.size ≠ w.heap.size := by omega
  obtain ⟨i0, hi0, hz0, hz1, hz2⟩ := info_parts info_fn
  have A3 : Hid (∀ o : Obj, (V.drew.alloc o).heap[B]? = some (.cells #[nv, .slice fo l.length fc, .slice oo O.length oc] 58 (0, 0))) := Lib.hid (fun o => (Keeps.of_below ((Below.refl V.heap.size V).drew.alloc (by simp) o)).at (b := B) trivial HBV.out)
  have hBw : B < w.heap.size := (Array.getElem?_eq_some_iff.1 hB).1
  have aW : (Value.slice oo O.length oc).ownBlock ≠ some w.heap.size := fun e => by have := (HOL.out _ e).2; omega
  have R3 : Hid (∀ o : Obj, (V.drew.alloc o).heap[w.heap.size]? = some (.cells #[.pointer (some ⟨B, 0, none⟩)] 81 (0, 0))) := Lib.hid (fun o => (Keeps.of_below ((Below.refl V.heap.size V).drew.alloc (by simp) o)).at (b := w.heap.size) trivial OB.out.2.1)
  have d1 : ((O.length : Int) == 4096) = false := beq_eq_false_iff_ne.2 (by omega)
  clear hB hf ho g1 g2 g3 b1 b2 b3 hBV hBV2 z1 z2 z3
  go_enter Tryd.func36, Tryd.ntmps36
  go_wp2_with fail
  try rw [eV1]
  try rw [eV2]
  try rw [eV]
  go_region_law ((refine step_append_lies _ (by rfl) _ _ _ (by rfl) (B + 1) 60 i0 _ 1 8 Tryd.underlying56 hi0 hz0 hz1 hz2 rfl (by omega) (.slice oo O.length oc) O.length (O.map cloV) (by rfl) (hown.drew.alloc _) ⟨V.heap.size, 0, none⟩ 1 1 [cloV (V1.heap.size, w.heap.size, V2.heap.size)] (by rfl) (by rfl) (World.news_of_block (cs := #[cloV (V1.heap.size, w.heap.size, V2.heap.size)]) (t := 60) (fr := (0, 0)) (heap_alloc_new V.drew _)) (by simp [Value.oneCell', cloV]) (by omega) (by unfold maxLen; omega) (by omega) (by simp; omega) (V.heap.size + 1) (by simp) ?_; intro gg cap3 w3 hown1 hgrow hat hlt; have HO1 := Lib.hid hown1; have HG1 := Lib.hid hgrow; have HAT := Lib.hid hat; have HQ3 := Lib.hid ((Keeps.of_grown hgrow).at (b := B) aB (A3.out _)); have fq3 := frozen_of_row w3 B 2 _ _ HQ3.out; have r4 := blk1s ((Keeps.of_grown hgrow).at (b := w.heap.size) aW (R3.out _)); obtain ⟨⟨q0, q1, q2⟩, hq⟩ := blk3r HQ3.out; clear hown1 hgrow hat))
  all_goals
    go_wp2
    go_ret
    obtain ⟨bU, oU, kU⟩ := put1_of (i := 2) HQ3.out rfl HO1.out HG1.out
    exact ⟨rfl, begino_of KV.out hBw HOL.out OB.out bU oU kU HAT.out⟩
end Go.Proofs.YtpkdiciinhjfjaaDoor

/- sexp: the reader's state in memory; its steps. -/
namespace Go.Proofs.YtpkdiciinhjfjaaDoor
open Go.RowKit Mth

/-- the reader's state: nodes, the numbers on the stack, the open lists -/
structure Rd where
  nodes : List Nd
  free : List Int
  opened : List (Tk × Nat)
def ndsCells (N : List (Nd × Value)) : List Value := N.flatMap fun p => ndCells p.1 p.2
theorem nds_app (N M : List (Nd × Value)) : ndsCells (N ++ M) = ndsCells N ++ ndsCells M := List.flatMap_append
theorem nds_len (N : List (Nd × Value)) : (ndsCells N).length = N.length * 7 := by
  induction N with
  | nil => rfl
  | cons x N ih => rw [ndsCells, List.flatMap_cons, List.length_append, ← ndsCells, ih]; simp [ndCells]; omega
/-- blocks that no step of the reader turns -/
def RdX (w0 : World) (nv fv ov : Value) (b : Nat) : Prop := w0.heap.size < b ∧ nv.ownBlock ≠ some b ∧ fv.ownBlock ≠ some b ∧ ov.ownBlock ≠ some b
structure RdV (w0 w : World) (nv fv ov : Value) (N : List (Nd × Value)) (l : List Int) (O : List ((Nat × Nat × Nat) × (Tk × Nat))) : Prop where
  box : w.heap[w0.heap.size]? = some (.cells #[nv, fv, ov] 58 (0, 0))
  nodes : w.ownsRow (w0.heap.size + 1) 36 7 nv N.length (ndsCells N)
  free : w.ownsRow (w0.heap.size + 1) 3 1 fv l.length (inCells l)
  opens : w.ownsRow (w0.heap.size + 1) 60 1 ov (O.map Prod.fst).length ((O.map Prod.fst).map cloV)
  nf : ∀ g, nv.ownBlock = some g → fv.ownBlock ≠ some g
  no : ∀ g, nv.ownBlock = some g → ov.ownBlock ≠ some g
  fo : ∀ g, fv.ownBlock = some g → ov.ownBlock ≠ some g
  kids : ∀ p ∈ N, InX w (RdX w0 nv fv ov) p.2 p.1.kids
  boxes : ∀ p ∈ O, OpenB w (RdX w0 nv fv ov) w0.heap.size p.1.1 p.1.2.1 p.1.2.2 p.2.1 p.2.2
  below : Below w0.heap.size w0 w
/-- the state st lies in memory -/
def RdM (w0 w : World) (st : Rd) : Prop := ∃ nv fv ov N O, RdV w0 w nv fv ov N st.free O ∧ N.map Prod.fst = st.nodes ∧ O.map Prod.snd = st.opened
theorem own_new {v v' : Value} {n b : Nat} (h : v'.ownBlock = v.ownBlock ∨ ∃ g, v'.ownBlock = some g ∧ n ≤ g) (hb : b < n) (hv : v.ownBlock ≠ some b) : v'.ownBlock ≠ some b := by
  rcases h with h | ⟨g, h, hg⟩
  · rw [h]; exact hv
  · rw [h]; intro e; obtain rfl := Option.some.inj e; omega
theorem RdV.size {w0 w : World} {nv fv ov : Value} {N : List (Nd × Value)} {l : List Int} {O : List ((Nat × Nat × Nat) × (Tk × Nat))} (h : RdV w0 w nv fv ov N l O) : w0.heap.size < w.heap.size := (Array.getElem?_eq_some_iff.1 h.box).1
theorem rd_begin {w0 w w' : World} {nv fv ov : Value} {N : List (Nd × Value)} {l : List Int} {O : List ((Nat × Nat × Nat) × (Tk × Nat))} {t : Tk} {k : Nat} (h : RdV w0 w nv fv ov N l O) (hb : BeginO w w' w0.heap.size nv fv ov k (O.map Prod.fst) t) : ∃ ov' p, RdV w0 w' nv fv ov' N l (O ++ [(p, (t, k))]) := by
  obtain ⟨ov', p, hB, ho, hor, hob, hk⟩ := hb
  have hsz := h.size
  have hnl := h.nodes.lt; have hfl := h.free.lt; have hol := h.opens.lt
  have hX : ∀ b, b < w.heap.size → RdX w0 nv fv ov b → RdX w0 nv fv ov' b := fun b hb hx => ⟨hx.1, hx.2.1, hx.2.2.1, own_new hor hb hx.2.2.2⟩
  have hkX : Keeps w w' (RdX w0 nv fv ov) := hk.weak (fun b _ hx => ⟨by have := hx.1; omega, hx.2.2.2⟩)
  refine ⟨ov', p, hB, own_keeps h.nodes hk (fun g hg => ⟨by have := (hnl g hg).1; omega, h.no g hg⟩), own_keeps h.free hk (fun g hg => ⟨by have := (hfl g hg).1; omega, h.fo g hg⟩), by rw [List.map_append]; exact ho, h.nf, fun g hg => own_new hor (hnl g hg).2 (h.no g hg), fun g hg => own_new hor (hfl g hg).2 (h.fo g hg), fun q hq => (h.kids q hq).keeps hkX hX, fun q hq => ?_, h.below.trans (hk.below (by omega) (fun b hb => ⟨by omega, fun e => by have := (hol b e).1; omega⟩))⟩
  rcases List.mem_append.1 hq with hq | hq
  · exact (h.boxes q hq).keeps hkX hX
  · obtain rfl := List.mem_singleton.1 hq
    exact hob.keeps (Keeps.refl w' _) (fun b _ hx => ⟨by omega, fun e => by have := (hnl b e).2; omega, fun e => by have := (hfl b e).2; omega, hx.2⟩)
theorem rd_put {w0 w w' : World} {nv fv ov kv : Value} {N : List (Nd × Value)} {l : List Int} {O : List ((Nat × Nat × Nat) × (Tk × Nat))} {nd : Nd} (h : RdV w0 w nv fv ov N l O) (hkv : InX w (RdX w0 nv fv ov) kv nd.kids) (hp : PutO w w' w0.heap.size nv fv ov N.length (ndsCells N) l (ndCells nd kv)) : ∃ nv' fv', RdV w0 w' nv' fv' ov (N ++ [(nd, kv)]) (l ++ [(N.length : Int)]) O := by
  obtain ⟨nv', fv', hB, hn, hf, hnr, hfr, hap, hk⟩ := hp
  have hsz := h.size
  have hnl := h.nodes.lt; have hfl := h.free.lt; have hol := h.opens.lt
  have hX : ∀ b, b < w.heap.size → RdX w0 nv fv ov b → RdX w0 nv' fv' ov b := fun b hb hx => ⟨hx.1, own_new hnr hb hx.2.1, own_new hfr hb hx.2.2.1, hx.2.2.2⟩
  have hkX : Keeps w w' (RdX w0 nv fv ov) := hk.weak (fun b _ hx => ⟨by have := hx.1; omega, hx.2.1, hx.2.2.1⟩)
  have ne_of : ∀ {v v' : Value}, (v'.ownBlock = v.ownBlock ∨ ∃ g, v'.ownBlock = some g ∧ w.heap.size ≤ g) → (∀ g, v.ownBlock = some g → ov.ownBlock ≠ some g) → ∀ g, v'.ownBlock = some g → ov.ownBlock ≠ some g := fun hr hv g hg e => by
    rcases hr with h | ⟨g', h, hg'⟩
    · exact hv g (h ▸ hg) e
    · rw [h] at hg; obtain rfl := Option.some.inj hg; have := (hol _ e).2; omega
  refine ⟨nv', fv', hB, by rw [List.length_append, nds_app]; exact (by simpa [ndsCells] using hn), hf, own_keeps h.opens hk (fun g hg => ⟨by have := (hol g hg).1; omega, fun e => h.no g e hg, fun e => h.fo g e hg⟩), hap, ne_of hnr h.no, ne_of hfr h.fo, fun q hq => ?_, fun q hq => (h.boxes q hq).keeps hkX hX, h.below.trans (hk.below (by omega) (fun b hb => ⟨by omega, fun e => by have := (hnl b e).1; omega, fun e => by have := (hfl b e).1; omega⟩))⟩
  rcases List.mem_append.1 hq with hq | hq
  · exact (h.kids q hq).keeps hkX hX
  · obtain rfl := List.mem_singleton.1 hq
    exact hkv.keeps hkX hX
theorem rd_cut {w0 w w' : World} {nv fv ov v' : Value} {N : List (Nd × Value)} {l : List Int} {O : List ((Nat × Nat × Nat) × (Tk × Nat))} {k : Nat} (h : RdV w0 w nv fv ov N l O) (hkl : k ≤ l.length) (hc : CutO' w w' w0.heap.size nv fv ov l k v') : ∃ fv', RdV w0 w' nv fv' ov N (l.take k) O ∧ InX w' (RdX w0 nv fv' ov) v' (l.drop k) := by
  obtain ⟨fv', hB, hf, hown, hin, hk⟩ := hc
  have hsz := h.size
  have hnl := h.nodes.lt; have hfl := h.free.lt; have hol := h.opens.lt
  have hX : ∀ b, b < w.heap.size → RdX w0 nv fv ov b → RdX w0 nv fv' ov b := fun b _ hx => ⟨hx.1, hx.2.1, hown ▸ hx.2.2.1, hx.2.2.2⟩
  have hkX : Keeps w w' (RdX w0 nv fv ov) := hk.weak (fun b _ hx => by have := hx.1; omega)
  refine ⟨fv', ⟨hB, own_keeps h.nodes hk (fun g hg => by have := (hnl g hg).1; omega), by rw [List.length_take, Nat.min_eq_left hkl]; exact hf, own_keeps h.opens hk (fun g hg => by have := (hol g hg).1; omega), fun g hg => hown ▸ h.nf g hg, h.no, fun g hg => h.fo g (hown ▸ hg), fun q hq => (h.kids q hq).keeps hkX hX, fun q hq => (h.boxes q hq).keeps hkX hX, h.below.trans (hk.below (by omega) (fun b hb => by omega))⟩, ?_⟩
  exact hin.keeps (Keeps.refl w' _) (fun b _ hx => ⟨by omega, fun e => by have := (hnl b e).2; omega, fun e => by rw [hown] at e; have := (hfl b e).2; omega, fun e => by have := (hol b e).2; omega⟩)
theorem rd_pop {w0 w : World} {nv fv : Value} {g cap : Nat} {N : List (Nd × Value)} {l : List Int} {O : List ((Nat × Nat × Nat) × (Tk × Nat))} {p : (Nat × Nat × Nat) × (Tk × Nat)} (h : RdV w0 w nv fv (.slice (some ⟨g, 0, none⟩) (O.length + 1) cap) N l (O ++ [p])) :
    RdV w0 (w.setCell ⟨w0.heap.size, 2, none⟩ (.slice (some ⟨g, 0, none⟩) O.length cap)) nv fv (.slice (some ⟨g, 0, none⟩) O.length cap) N l O ∧ OpenB (w.setCell ⟨w0.heap.size, 2, none⟩ (.slice (some ⟨g, 0, none⟩) O.length cap)) (RdX w0 nv fv (.slice (some ⟨g, 0, none⟩) O.length cap)) w0.heap.size p.1.1 p.1.2.1 p.1.2.2 p.2.1 p.2.2 := by
  have hsz := h.size
  have hnl := h.nodes.lt; have hfl := h.free.lt; have hol := h.opens.lt
  have hk : Keeps w (w.setCell ⟨w0.heap.size, 2, none⟩ (.slice (some ⟨g, 0, none⟩) O.length cap)) (fun b => b ≠ w0.heap.size) := Keeps.set
  have hX : ∀ b, b < w.heap.size → RdX w0 nv fv (.slice (some ⟨g, 0, none⟩) (O.length + 1) cap) b → RdX w0 nv fv (.slice (some ⟨g, 0, none⟩) O.length cap) b := fun b _ hx => hx
  have hkX : Keeps w (w.setCell ⟨w0.heap.size, 2, none⟩ (.slice (some ⟨g, 0, none⟩) O.length cap)) (RdX w0 nv fv (.slice (some ⟨g, 0, none⟩) (O.length + 1) cap)) := hk.weak (fun b _ hx => by have := hx.1; omega)
  have ho := h.opens
  rw [List.map_append, List.map_append, List.length_append, List.length_map] at ho
  refine ⟨⟨heap_setCell_row h.box rfl, own_keeps h.nodes hk (fun g hg => by have := (hnl g hg).1; omega), own_keeps h.free hk (fun g hg => by have := (hfl g hg).1; omega), ?_, h.nf, h.no, h.fo, fun q hq => (h.kids q hq).keeps hkX hX, fun q hq => (h.boxes q (List.mem_append_left _ hq)).keeps hkX hX, h.below.trans (hk.below (by omega) (fun b hb => by omega))⟩, (h.boxes p (by simp)).keeps hkX hX⟩
  rw [List.length_map]
  exact own_keeps (ownsRow_pop (by simp) ho) hk (fun x hx => by have := (hol x hx).1; omega)
end Go.Proofs.YtpkdiciinhjfjaaDoor

/- sexp: the reader's end. -/
namespace Go.Proofs.YtpkdiciinhjfjaaDoor
open Go.RowKit Mth

set_option maxHeartbeats 2000000 in
set_option maxRecDepth 100000 in
theorem end_none (w0 w : World) (nv fv ov : Value) (N : List (Nd × Value)) (l : List Int) (h : RdV w0 w nv fv ov N l []) :
    Calls Tryd.prog 37 #[.pointer (some ⟨w0.heap.size, 0, none⟩)] w fun e w' => e = .returned (.int .i64 70) ∧ w' = w := by
  obtain ⟨⟨p0, p1, p2⟩, hBl⟩ := blk3r h.box
  have ho := h.opens
  obtain ⟨oo, oc, rfl⟩ := own_len ho
  clear h ho
  go_enter Tryd.func37, Tryd.ntmps37
  go_wp2
  go_ret
  exact ⟨rfl, rfl⟩
set_option maxHeartbeats 8000000 in
set_option maxRecDepth 100000 in
theorem end_some (w0 w : World) (nv fv ov : Value) (N : List (Nd × Value)) (l : List Int) (O : List ((Nat × Nat × Nat) × (Tk × Nat))) (tb rb fb k : Nat) (t : Tk) (h : RdV w0 w nv fv ov N l (O ++ [((tb, rb, fb), (t, k))])) (hN : N.length ≤ 1048576) (hl : l.length ≤ 1048576) (hO : O.length ≤ 4096) (hp : k ≤ l.length) :
    Calls Tryd.prog 37 #[.pointer (some ⟨w0.heap.size, 0, none⟩)] w fun e w' => e = .returned (.int .i64 0) ∧ ∃ nv' fv' ov' kv, RdV w0 w' nv' fv' ov' (N ++ [(⟨2, t, l.drop k⟩, kv)]) (l.take k ++ [(N.length : Int)]) O := by
  obtain ⟨⟨p0, p1, p2⟩, hBl⟩ := blk3r h.box
  have ho := h.opens
  rw [List.map_append, List.map_append, List.length_append, List.length_map] at ho
  obtain ⟨g, cap, rfl⟩ := own_some ho (by simp)
  simp only [List.map_cons, List.map_nil, List.length_cons, List.length_nil, Nat.zero_add] at ho h p2 p0 p1
  have hcap := own_cap ho
  have hol := ho.lt g rfl
  have c0 : w.cell? ⟨g, O.length, none⟩ = some (cloV (tb, rb, fb)) := by
    rw [ho.cellAt _ (by omega), List.getElem?_append_right (by simp)]
    simp
  obtain ⟨hR, hOB⟩ := rd_pop h
  obtain ⟨W, eW⟩ : ∃ W, w.setCell ⟨w0.heap.size, 2, none⟩ (.slice (some ⟨g, 0, none⟩) O.length cap) = W := ⟨_, rfl⟩
  rw [eW] at hR hOB
  have HR := Lib.hid hR
  have fB := frozen_of_row w w0.heap.size 2 _ _ h.box
  have HP := Lib.hid hp
  have LC0 := begin1_any w0.heap.size tb rb fb k t nv fv _ l _ W hOB (fun hx => by have := hx.1; omega) hR.box hR.free hl hp
  obtain ⟨ks, hks⟩ : ∃ ks, l.drop k = ks := ⟨_, rfl⟩
  have LC : Hid (Calls Tryd.prog 55 #[.pointer (some ⟨tb, 0, none⟩), .pointer (some ⟨rb, 0, none⟩), .pointer (some ⟨fb, 0, none⟩)] W fun e w' => ∃ ka kc fv', e = .returned (.agg #[.int .i64 2, .int .i64 t.k, .string t.t, .bool t.q, .int .i64 t.l, .int .i64 t.c, .slice ka ks.length kc]) ∧ RdV w0 w' nv fv' (.slice (some ⟨g, 0, none⟩) O.length cap) N (l.take k) O ∧ InX w' (RdX w0 nv fv' (.slice (some ⟨g, 0, none⟩) O.length cap)) (.slice ka ks.length kc) ks) := Lib.hid (LC0.mono (by
    rintro e w2 ⟨ka, kc, rfl, hc⟩
    obtain ⟨fv', hR2, hin⟩ := rd_cut HR.out HP.out hc
    rw [hks] at hin ⊢
    exact ⟨ka, kc, fv', rfl, hR2, hin⟩))
  have hcf : ∀ args W, (callFunc 55 args).run Tryd.prog W = .ok (.enter 55 args) W := fun args W => enters_of Tryd.func55 (by kernel_rfl) rfl args W
  unfold cloV at c0
  have e1 : wrap64 (((O.length + 1 : Nat) : Int) - 1) = (O.length : Int) := by rw [show (((O.length + 1 : Nat) : Int) - 1) = (O.length : Int) by omega]; exact IntWalk.wrap64_in _ (by omega)
  have HN := Lib.hid hN; have HL := Lib.hid hl
  have HTL : Hid ((l.take k).length ≤ 1048576) := Lib.hid (by rw [List.length_take]; omega)
  rw [hks]
  obtain ⟨lt, hlt⟩ : ∃ lt, l.take k = lt := ⟨_, rfl⟩
  rw [hlt] at LC HTL ⊢
  clear h ho hR hOB hp hN hl LC0 hks hlt
  go_enter Tryd.func37, Tryd.ntmps37
  go_wp2_with fail
  try rw [eW]
  refine LC.out.mono ?_
  rintro e w2 ⟨ka, kc, fv', rfl, hR2, hin⟩
  have HR2 := Lib.hid hR2; have HIN := Lib.hid hin
  have PT := Lib.hid (put_any w0.heap.size nv fv' _ N.length (ndsCells N) lt 2 t.k t.l t.c t.t t.q ka ks.length kc w2 hR2.box hR2.nodes hR2.free hR2.nf HN.out HTL.out)
  clear hR2 hin LC p0 p1 p2 c0 fB
  go_wp2_with fail
  refine PT.out.mono ?_
  rintro e w3 ⟨rfl, hp3⟩
  obtain ⟨nv3, fv3, hR3⟩ := rd_put (nd := ⟨2, t, ks⟩) HR2.out HIN.out hp3
  have HR3 := Lib.hid hR3
  clear hp3 hR3 PT
  go_wp2
  go_ret
  exact ⟨rfl, nv3, fv3, _, _, HR3.out⟩
end Go.Proofs.YtpkdiciinhjfjaaDoor

/- sexp: the reader's take: a token more. -/
namespace Go.Proofs.YtpkdiciinhjfjaaDoor
open Go.RowKit Mth

theorem rd_keep {w0 w w' : World} {nv fv ov : Value} {N : List (Nd × Value)} {l : List Int} {O : List ((Nat × Nat × Nat) × (Tk × Nat))} (h : RdV w0 w nv fv ov N l O) (hk : Keeps w w' (fun _ => True)) : RdV w0 w' nv fv ov N l O := by
  have hsz := h.size
  exact ⟨hk.at trivial h.box, own_keeps h.nodes hk (fun _ _ => trivial), own_keeps h.free hk (fun _ _ => trivial), own_keeps h.opens hk (fun _ _ => trivial), h.nf, h.no, h.fo, fun q hq => (h.kids q hq).keeps (hk.weak (fun _ _ _ => trivial)) (fun _ _ hx => hx), fun q hq => (h.boxes q hq).keeps (hk.weak (fun _ _ _ => trivial)) (fun _ _ hx => hx), h.below.trans (hk.below (by omega) (fun _ _ => trivial))⟩
open Classical in
/-- the fault of a token, 0 where there is none -/
noncomputable def stepE (s : Rd) (t : Tk) : Int := if ¬ Good t then 73 else if t.k = 1 then (if s.opened.length = 4096 then 72 else 0) else if t.k = 2 then (if s.opened = [] then 70 else 0) else 0
/-- the state behind a token -/
def stepS (s : Rd) (t : Tk) : Rd := if t.k = 1 then ⟨s.nodes, s.free, s.opened ++ [(t, s.free.length)]⟩ else if t.k = 2 then (match s.opened.getLast? with
  | some (u, k) => ⟨s.nodes ++ [⟨2, u, s.free.drop k⟩], s.free.take k ++ [(s.nodes.length : Int)], s.opened.dropLast⟩
  | none => s) else ⟨s.nodes ++ [⟨1, t, []⟩], s.free ++ [(s.nodes.length : Int)], s.opened⟩
/-- bounds of the state -/
structure RdB (s : Rd) (m : Nat) : Prop where
  nodes : s.nodes.length ≤ m
  free : s.free.length ≤ m
  opened : s.opened.length ≤ 4096
  le : ∀ p ∈ s.opened, p.2 ≤ s.free.length
  up : s.opened.Pairwise (fun p q => p.2 ≤ q.2)
def TakeO (w0 w w' : World) (s : Rd) (t : Tk) (e : Ending) : Prop := (stepE s t ≠ 0 ∧ e = .returned (.int .i64 (stepE s t)) ∧ Below w.heap.size w w') ∨ (stepE s t = 0 ∧ e = .returned (.int .i64 0) ∧ RdM w0 w' (stepS s t))
set_option maxHeartbeats 8000000 in
set_option maxRecDepth 100000 in
theorem take_bad (B : Nat) (t : Tk) (w : World) (hL : LexW w) (ht : t.t.size ≤ 1048576) (hg : ¬ Good t) :
    Calls Tryd.prog 18 #[.pointer (some ⟨B, 0, none⟩), .agg #[.int .i64 t.k, .string t.t, .bool t.q, .int .i64 t.l, .int .i64 t.c]] w fun e w' => e = .returned (.int .i64 73) ∧ Below w.heap.size w w' := by
  obtain ⟨V, eV, gV, bV, hVs⟩ := allocS w (Obj.cells #[.int .i64 t.k, .string t.t, .bool t.q, .int .i64 t.l, .int .i64 t.c] 34)
  have WR0 := write_any t ht V (hL.below bV)
  have BV := Lib.hid bV
  have WR : Hid (Calls Tryd.prog 33 #[.agg #[.int .i64 t.k, .string t.t, .bool t.q, .int .i64 t.l, .int .i64 t.c]] V fun e w' => e = .returned (.tuple #[.string ⟨#[]⟩, .int .i64 73]) ∧ Below V.heap.size V w') := Lib.hid (WR0.mono (by
    rintro e w' ⟨hb, ⟨h, _⟩ | ⟨_, rfl⟩⟩
    · exact absurd h hg
    · exact ⟨rfl, hb⟩))
  obtain ⟨a0, a1, a2, a3, a4⟩ := blk5 gV
  clear hL ht hg gV bV WR0
  go_enter Tryd.func18, Tryd.ntmps18
  go_wp2_with fail
  try rw [eV]
  refine WR.out.mono ?_
  rintro e w1 ⟨rfl, hb⟩
  have HB := Lib.hid (belowT BV.out hb)
  clear hb WR
  go_wp2
  go_ret
  exact ⟨rfl, HB.out⟩
/-- a good token: what the three ways do, each by its contract -/
theorem take_pre (t : Tk) (w : World) (hL : LexW w) (ht : t.t.size ≤ 1048576) (hg : Good t) : ∃ V, w.alloc (.cells #[.int .i64 t.k, .string t.t, .bool t.q, .int .i64 t.l, .int .i64 t.c] 34) = V ∧ V.heap[w.heap.size]? = some (.cells #[.int .i64 t.k, .string t.t, .bool t.q, .int .i64 t.l, .int .i64 t.c] 34 (0, 0)) ∧ Below w.heap.size w V ∧
    Hid (Calls Tryd.prog 33 #[.agg #[.int .i64 t.k, .string t.t, .bool t.q, .int .i64 t.l, .int .i64 t.c]] V fun e w' => e = .returned (.tuple #[.string (wrB t), .int .i64 0]) ∧ w'.heap[w.heap.size]? = some (.cells #[.int .i64 t.k, .string t.t, .bool t.q, .int .i64 t.l, .int .i64 t.c] 34 (0, 0)) ∧ Below w.heap.size w w') := by
  obtain ⟨V, eV, gV, bV, hVs⟩ := allocS w (Obj.cells #[.int .i64 t.k, .string t.t, .bool t.q, .int .i64 t.l, .int .i64 t.c] 34)
  refine ⟨V, eV, gV, bV, Lib.hid ((write_any t ht V (hL.below bV)).mono ?_)⟩
  rintro e w' ⟨hb, ⟨_, rfl⟩ | ⟨h, _⟩⟩
  · exact ⟨rfl, blkT hb gV, belowT bV hb⟩
  · exact absurd hg h
set_option maxHeartbeats 8000000 in
set_option maxRecDepth 100000 in
theorem take_open (B : Nat) (t : Tk) (w : World) (R : Ending → World → Prop) (hL : LexW w) (ht : t.t.size ≤ 1048576) (hg : Good t) (hk : t.k = 1)
    (BC : ∀ W, Below w.heap.size w W → Calls Tryd.prog 36 #[.pointer (some ⟨B, 0, none⟩), .agg #[.int .i64 t.k, .string t.t, .bool t.q, .int .i64 t.l, .int .i64 t.c]] W fun e w' => ∃ x, e = .returned (.int .i64 x) ∧ R e w') :
    Calls Tryd.prog 18 #[.pointer (some ⟨B, 0, none⟩), .agg #[.int .i64 t.k, .string t.t, .bool t.q, .int .i64 t.l, .int .i64 t.c]] w R := by
  obtain ⟨V, eV, gV, bV, WR⟩ := take_pre t w hL ht hg
  have BB := Lib.hid BC
  obtain ⟨a0, a1, a2, a3, a4⟩ := blk5 gV
  have d1 : (t.k == 1) = true := by rw [hk]; rfl
  clear hL ht hg gV bV BC hk
  go_enter Tryd.func18, Tryd.ntmps18
  go_wp2_with fail
  try rw [eV]
  refine WR.out.mono ?_
  rintro e w1 ⟨rfl, g1, hb⟩
  have HB := Lib.hid hb
  obtain ⟨c0, c1, c2, c3, c4⟩ := blk5 g1
  clear hb WR a0 a1 a2 a3 a4 g1
  go_wp2_with fail
  refine (BB.out _ HB.out).mono ?_
  rintro e w2 ⟨x, rfl, hr⟩
  have HR := Lib.hid hr
  clear hr
  go_wp2
  exact HR.out
set_option maxHeartbeats 8000000 in
set_option maxRecDepth 100000 in
theorem take_close (B : Nat) (t : Tk) (w : World) (R : Ending → World → Prop) (hL : LexW w) (ht : t.t.size ≤ 1048576) (hg : Good t) (hk : t.k = 2)
    (BC : ∀ W, Below w.heap.size w W → Calls Tryd.prog 37 #[.pointer (some ⟨B, 0, none⟩)] W fun e w' => ∃ x, e = .returned (.int .i64 x) ∧ R e w') :
    Calls Tryd.prog 18 #[.pointer (some ⟨B, 0, none⟩), .agg #[.int .i64 t.k, .string t.t, .bool t.q, .int .i64 t.l, .int .i64 t.c]] w R := by
  obtain ⟨V, eV, gV, bV, WR⟩ := take_pre t w hL ht hg
  have BB := Lib.hid BC
  obtain ⟨a0, a1, a2, a3, a4⟩ := blk5 gV
  have d1 : (t.k == 1) = false := by rw [hk]; rfl
  have d2 : (t.k == 2) = true := by rw [hk]; rfl
  clear hL ht hg gV bV BC hk
  go_enter Tryd.func18, Tryd.ntmps18
  go_wp2_with fail
  try rw [eV]
  refine WR.out.mono ?_
  rintro e w1 ⟨rfl, g1, hb⟩
  have HB := Lib.hid hb
  obtain ⟨c0, c1, c2, c3, c4⟩ := blk5 g1
  clear hb WR a0 a1 a2 a3 a4 g1
  go_wp2_with fail
  refine (BB.out _ HB.out).mono ?_
  rintro e w2 ⟨x, rfl, hr⟩
  have HR := Lib.hid hr
  clear hr
  go_wp2
  exact HR.out
set_option maxHeartbeats 8000000 in
set_option maxRecDepth 100000 in
theorem take_atom (B : Nat) (t : Tk) (w : World) (R : World → Prop) (hL : LexW w) (ht : t.t.size ≤ 1048576) (hg : Good t) (hk1 : t.k ≠ 1) (hk2 : t.k ≠ 2)
    (BC : ∀ W, Below w.heap.size w W → Calls Tryd.prog 38 #[.pointer (some ⟨B, 0, none⟩), .agg #[.int .i64 1, .int .i64 t.k, .string t.t, .bool t.q, .int .i64 t.l, .int .i64 t.c, .slice none 0 0]] W fun e w' => e = .returned (.tuple #[]) ∧ R w') :
    Calls Tryd.prog 18 #[.pointer (some ⟨B, 0, none⟩), .agg #[.int .i64 t.k, .string t.t, .bool t.q, .int .i64 t.l, .int .i64 t.c]] w fun e w' => e = .returned (.int .i64 0) ∧ R w' := by
  obtain ⟨V, eV, gV, bV, WR⟩ := take_pre t w hL ht hg
  have BB := Lib.hid BC
  obtain ⟨a0, a1, a2, a3, a4⟩ := blk5 gV
  have d1 : (t.k == 1) = false := beq_eq_false_iff_ne.2 hk1
  have d2 : (t.k == 2) = false := beq_eq_false_iff_ne.2 hk2
  clear hL ht hg gV bV BC hk1 hk2
  go_enter Tryd.func18, Tryd.ntmps18
  go_wp2_with fail
  try rw [eV]
  refine WR.out.mono ?_
  rintro e w1 ⟨rfl, g1, hb⟩
  have HB := Lib.hid hb
  obtain ⟨c0, c1, c2, c3, c4⟩ := blk5 g1
  clear hb WR a0 a1 a2 a3 a4 g1
  go_wp2_with fail
  refine (BB.out _ HB.out).mono ?_
  rintro e w2 ⟨rfl, hr⟩
  have HR := Lib.hid hr
  clear hr
  go_wp2
  go_ret
  exact ⟨rfl, HR.out⟩
theorem take_any (w0 w : World) (s : Rd) (t : Tk) (h : RdM w0 w s) (hb : RdB s 1048576) (hL : LexW w0) (ht : t.t.size ≤ 1048576) :
    Calls Tryd.prog 18 #[.pointer (some ⟨w0.heap.size, 0, none⟩), .agg #[.int .i64 t.k, .string t.t, .bool t.q, .int .i64 t.l, .int .i64 t.c]] w fun e w' => TakeO w0 w w' s t e := by
  obtain ⟨nv, fv, ov, N, O, hR, hN, hO⟩ := h
  have hLw : LexW w := hL.below hR.below
  have hNl : N.length ≤ 1048576 := by have := hb.nodes; rw [← hN, List.length_map] at this; exact this
  have hNn : N.length = s.nodes.length := by rw [← hN, List.length_map]
  have hOl : O.length = s.opened.length := by rw [← hO, List.length_map]
  by_cases hg : Good t
  · by_cases k1 : t.k = 1
    · refine take_open _ t w _ hLw ht hg k1 (fun W hW => ?_)
      have hRW := rd_keep hR (Keeps.of_below hW)
      by_cases hd : s.opened.length = 4096
      · have hE : stepE s t = 72 := by unfold stepE; rw [if_neg (not_not_intro hg), if_pos k1, if_pos hd]
        have ho := hRW.opens
        obtain ⟨oo, oc, rfl⟩ := own_len ho
        have hbx := hRW.box
        rw [List.length_map, hOl, hd] at hbx
        refine (begin_deep _ oc oo nv fv t W hbx).mono ?_
        rintro e w' ⟨rfl, hb'⟩
        exact ⟨72, rfl, .inl ⟨by rw [hE]; decide, by rw [hE], belowT hW hb'⟩⟩
      · have hE : stepE s t = 0 := by unfold stepE; rw [if_neg (not_not_intro hg), if_pos k1, if_neg hd]
        have hS : stepS s t = ⟨s.nodes, s.free, s.opened ++ [(t, s.free.length)]⟩ := if_pos k1
        refine (begin_any _ nv fv ov (O.map Prod.fst) s.free t W hRW.box hRW.free hRW.opens (by rw [List.length_map]; have := hb.opened; omega) hb.free).mono ?_
        rintro e w' ⟨rfl, hbo⟩
        obtain ⟨ov', p, hR'⟩ := rd_begin hRW hbo
        exact ⟨0, rfl, .inr ⟨hE, rfl, by rw [hS]; exact ⟨nv, fv, ov', N, _, hR', hN, by rw [List.map_append, hO]; rfl⟩⟩⟩
    · by_cases k2 : t.k = 2
      · refine take_close _ t w _ hLw ht hg k2 (fun W hW => ?_)
        have hRW := rd_keep hR (Keeps.of_below hW)
        rcases List.eq_nil_or_concat O with rfl | ⟨O', p, rfl⟩
        · have hs : s.opened = [] := by rw [← hO]; rfl
          have hE : stepE s t = 70 := by unfold stepE; rw [if_neg (not_not_intro hg), if_neg k1, if_pos k2, if_pos hs]
          refine (end_none w0 W nv fv ov N s.free hRW).mono ?_
          rintro e w' ⟨rfl, rfl⟩
          exact ⟨70, rfl, .inl ⟨by rw [hE]; decide, by rw [hE], hW⟩⟩
        · obtain ⟨⟨tb, rb, fb⟩, u, k⟩ := p
          rw [List.concat_eq_append] at hRW hO hOl
          have hs : s.opened = O'.map Prod.snd ++ [(u, k)] := by rw [← hO, List.map_append]; rfl
          have hE : stepE s t = 0 := by unfold stepE; rw [if_neg (not_not_intro hg), if_neg k1, if_pos k2, if_neg (by rw [hs]; simp)]
          have hS : stepS s t = ⟨s.nodes ++ [⟨2, u, s.free.drop k⟩], s.free.take k ++ [(s.nodes.length : Int)], O'.map Prod.snd⟩ := by
            unfold stepS
            rw [if_neg k1, if_pos k2, hs, List.getLast?_concat, List.dropLast_concat]
          refine (end_some w0 W nv fv ov N s.free O' tb rb fb k u hRW hNl hb.free (by have := hb.opened; simp at hOl; omega) (hb.le (u, k) (by rw [hs]; simp))).mono ?_
          rintro e w' ⟨rfl, nv', fv', ov', kv, hR'⟩
          exact ⟨0, rfl, .inr ⟨hE, rfl, by rw [hS]; rw [hNn] at hR'; exact ⟨nv', fv', ov', _, O', hR', by rw [List.map_append, hN]; rfl, rfl⟩⟩⟩
      · have hE : stepE s t = 0 := by unfold stepE; rw [if_neg (not_not_intro hg), if_neg k1, if_neg k2]
        have hS : stepS s t = ⟨s.nodes ++ [⟨1, t, []⟩], s.free ++ [(s.nodes.length : Int)], s.opened⟩ := by unfold stepS; rw [if_neg k1, if_neg k2]
        refine (take_atom _ t w (fun w' => RdM w0 w' (stepS s t)) hLw ht hg k1 k2 (fun W hW => ?_)).mono ?_
        · have hRW := rd_keep hR (Keeps.of_below hW)
          refine (put_any _ nv fv ov N.length (ndsCells N) s.free 1 t.k t.l t.c t.t t.q none 0 0 W hRW.box hRW.nodes hRW.free hRW.nf hNl hb.free).mono ?_
          rintro e w' ⟨rfl, hp⟩
          obtain ⟨nv', fv', hR'⟩ := rd_put (nd := ⟨1, t, []⟩) hRW ⟨none, 0, rfl, fun h => absurd rfl h⟩ hp
          rw [hNn] at hR'
          exact ⟨rfl, by rw [hS]; exact ⟨nv', fv', ov, _, O, hR', by rw [List.map_append, hN]; rfl, hO⟩⟩
        · rintro e w' ⟨rfl, hm⟩
          exact .inr ⟨hE, rfl, hm⟩
  · have hE : stepE s t = 73 := by unfold stepE; exact if_pos hg
    refine (take_bad _ t w hLw ht hg).mono ?_
    rintro e w' ⟨rfl, hb'⟩
    exact .inl ⟨by rw [hE]; decide, by rw [hE], hb'⟩
end Go.Proofs.YtpkdiciinhjfjaaDoor

/- sexp: Parse. -/
namespace Go.Proofs.YtpkdiciinhjfjaaDoor
open Go.RowKit Mth

/-- the run over tokens: the state behind them, or the first that is at fault -/
noncomputable def runR : Rd → List Tk → Rd × Option (Tk × Int)
  | s, [] => (s, none)
  | s, t :: r => if stepE s t = 0 then runR (stepS s t) r else (s, some (t, stepE s t))
def rd0 : Rd := ⟨[], [], []⟩
theorem rdb0 : RdB rd0 0 := ⟨Nat.le_refl _, Nat.le_refl _, Nat.zero_le _, fun p h => (by cases h), List.Pairwise.nil⟩
theorem rdb_step {s : Rd} {t : Tk} {m : Nat} (h : RdB s m) (he : stepE s t = 0) : RdB (stepS s t) (m + 1) := by
  obtain ⟨h1, h2, h3, h4, h5⟩ := h
  have hg : Good t := by
    rcases Classical.em (Good t) with hg | hg
    · exact hg
    · unfold stepE at he; rw [if_pos hg] at he; cases he
  unfold stepE at he
  rw [if_neg (not_not_intro hg)] at he
  unfold stepS
  by_cases k1 : t.k = 1
  · rw [if_pos k1] at he ⊢
    have hd : s.opened.length ≠ 4096 := fun hd => by rw [if_pos hd] at he; cases he
    refine ⟨by show s.nodes.length ≤ m + 1; omega, by show s.free.length ≤ m + 1; omega, by show (s.opened ++ [_]).length ≤ 4096; rw [List.length_append]; simp; omega, fun p hp => ?_, ?_⟩
    · rcases List.mem_append.1 hp with hp | hp
      · exact h4 p hp
      · obtain rfl := List.mem_singleton.1 hp
        exact Nat.le_refl _
    · refine List.pairwise_append.2 ⟨h5, List.pairwise_singleton _ _, fun a ha b hb => ?_⟩
      obtain rfl := List.mem_singleton.1 hb
      exact h4 a ha
  · rw [if_neg k1] at he ⊢
    by_cases k2 : t.k = 2
    · rw [if_pos k2] at he ⊢
      rcases List.eq_nil_or_concat s.opened with e | ⟨O, p, e⟩
      · rw [if_pos e] at he; cases he
      · rw [List.concat_eq_append] at e
        rw [e, List.getLast?_concat, List.dropLast_concat]
        obtain ⟨u, k⟩ := p
        rw [e] at h3 h4 h5
        have hk := h4 (u, k) (by simp)
        have hk2 : k ≤ s.free.length := hk
        have hlt : (s.free.take k).length = k := by rw [List.length_take]; omega
        obtain ⟨h6, _, h7⟩ := List.pairwise_append.1 h5
        rw [List.length_append] at h3
        refine ⟨by show (s.nodes ++ [_]).length ≤ m + 1; rw [List.length_append]; simp; omega, by show (s.free.take k ++ [_]).length ≤ m + 1; rw [List.length_append, hlt]; simp; omega, by show O.length ≤ 4096; omega, fun p hp => ?_, h6⟩
        show p.2 ≤ (s.free.take k ++ [_]).length
        rw [List.length_append, hlt]
        have : p.2 ≤ k := h7 p hp (u, k) (by simp)
        omega
    · rw [if_neg k2]
      refine ⟨by show (s.nodes ++ [_]).length ≤ m + 1; rw [List.length_append]; simp; omega, by show (s.free ++ [_]).length ≤ m + 1; rw [List.length_append]; simp; omega, h3, fun p hp => ?_, h5⟩
      have := h4 p hp
      show p.2 ≤ (s.free ++ [_]).length
      rw [List.length_append]; omega
/-- what Parse answers -/
def ParseO (w w' : World) (L : List Tk) (e : Ending) : Prop := Below w.heap.size w w' ∧
  ((∃ s t x, runR rd0 L = (s, some (t, x)) ∧ e = .returned (.tuple #[.slice none 0 0, .slice none 0 0, .int .i64 t.l, .int .i64 t.c, .int .i64 x])) ∨
    (∃ s t k, runR rd0 L = (s, none) ∧ s.opened.getLast? = some (t, k) ∧ e = .returned (.tuple #[.slice none 0 0, .slice none 0 0, .int .i64 t.l, .int .i64 t.c, .int .i64 71])) ∨
    (∃ s nv fv ov N, runR rd0 L = (s, none) ∧ s.opened = [] ∧ RdB s L.length ∧ RdV w w' nv fv ov N s.free [] ∧ N.map Prod.fst = s.nodes ∧ e = .returned (.tuple #[nv, fv, .int .i64 0, .int .i64 0, .int .i64 0])))
theorem rdv0 {w W : World} (eW : w.alloc (.cells #[.slice none 0 0, .slice none 0 0, .slice none 0 0] 58) = W) : RdV w W (.slice none 0 0) (.slice none 0 0) (.slice none 0 0) [] [] [] := by
  refine ⟨by rw [← eW]; exact heap_alloc_new w _, World.ownsRow_nil _ _ _ _, World.ownsRow_nil _ _ _ _, World.ownsRow_nil _ _ _ _, fun g h => (by cases h), fun g h => (by cases h), fun g h => (by cases h), fun p h => (by cases h), fun p h => (by cases h), by rw [← eW]; exact (Below.refl _ _).alloc (Nat.le_refl _) _⟩
def ParR (w : World) (L : List Tk) (i : Value) (wr : World) : Prop := ∃ (j : Nat) (s : Rd), j ≤ L.length ∧ i = .int .i64 (j : Int) ∧ RdM w wr s ∧ RdB s j ∧ runR rd0 L = runR s (L.drop j)
theorem par_next {w w' : World} {L : List Tk} {j : Nat} {s : Rd} {t : Tk} (hj : L[j]? = some t) (hb : RdB s j) (hr : runR rd0 L = runR s (L.drop j)) (he : stepE s t = 0) (hm : RdM w w' (stepS s t)) : ParR w L (.int .i64 ((j + 1 : Nat) : Int)) w' := by
  have hlt := (List.getElem?_eq_some_iff.1 hj).1
  refine ⟨j + 1, stepS s t, hlt, rfl, hm, rdb_step hb he, ?_⟩
  rw [hr, List.drop_eq_getElem_cons hlt, (List.getElem?_eq_some_iff.1 hj).2, runR, if_pos he]
theorem par_fault {L : List Tk} {j : Nat} {s : Rd} {t : Tk} (hj : L[j]? = some t) (hr : runR rd0 L = runR s (L.drop j)) (he : stepE s t ≠ 0) : runR rd0 L = (s, some (t, stepE s t)) := by
  have hlt := (List.getElem?_eq_some_iff.1 hj).1
  rw [hr, List.drop_eq_getElem_cons hlt, (List.getElem?_eq_some_iff.1 hj).2, runR, if_neg he]
theorem rdb_mono {s : Rd} {m n : Nat} (h : RdB s m) (hmn : m ≤ n) : RdB s n := ⟨Nat.le_trans h.1 hmn, Nat.le_trans h.2 hmn, h.3, h.4, h.5⟩
set_option maxHeartbeats 16000000 in
set_option maxRecDepth 100000 in
theorem parse_any (L : List Tk) (v : Value) (w : World) (hL : LexW w) (hv : TkL w v L) (hlen : L.length ≤ 1048576) (ht : ∀ x ∈ L, x.t.size ≤ 1048576) : Calls Tryd.prog 9 #[v] w fun e w' => ParseO w w' L e := by
  have HTL := Lib.hid hv; have HT := Lib.hid ht; have HLW := Lib.hid hL
  obtain ⟨ao, cap, rfl, hc⟩ := hv
  have HC := Lib.hid hc
  obtain ⟨W, eW, gW, bW, hWs⟩ := allocS w (Obj.cells #[.slice none 0 0, .slice none 0 0, .slice none 0 0] 58)
  have ST : Hid (ParR w L (.int .i64 ((0 : Nat) : Int)) W) := Lib.hid ⟨0, rd0, Nat.zero_le _, rfl, ⟨_, _, _, [], [], rdv0 eW, rfl, rfl⟩, rdb0, by rw [List.drop_zero]⟩
  clear hL ht hc gW bW
  go_enter Tryd.func9, Tryd.ntmps9
  go_wp2_with fail
  try rw [eW]
  go_loopw [15] (fun i wr => ParR w L i wr) (fun i _ => L.length - (intOf i).toNat)
  case atStart => exact ST.out
  case round =>
    obtain ⟨j, s, hj, rfl, hm, hb, hr⟩ := hrel
    have HM := Lib.hid hm; have HB := Lib.hid hb; have HR := Lib.hid hr
    obtain ⟨nv, fv, ov, N, O, hR, hN, hO⟩ := hm
    have HRV := Lib.hid hR; have HNN := Lib.hid hN; have HOO := Lib.hid hO
    have hmB := hR.size
    by_cases hlt : j < L.length
    · have hx : L[j]? = some L[j] := List.getElem?_eq_getElem hlt
      have hxt := HT.out _ (List.getElem_mem hlt)
      obtain ⟨ao', cap', he, hc⟩ := HTL.out.below hR.below
      obtain ⟨b, off, hb', hblt, hcc⟩ := hc (fun e => by rw [e] at hlt; simp at hlt)
      injection he with he1 he2 he3
      rw [hb'] at he1
      subst he1
      obtain ⟨a0, a1, a2, a3, a4⟩ := TkL.at hcc hx
      have HX := Lib.hid hx
      generalize L[j] = t at *
      obtain ⟨V, eV, gV, bV, hVs⟩ := allocS wr (Obj.cells #[.int .i64 t.k, .string t.t, .bool t.q, .int .i64 t.l, .int .i64 t.c] 34)
      have TK := Lib.hid (take_any w V s t ⟨nv, fv, ov, N, O, rd_keep hR (Keeps.of_below bV), hN, hO⟩ (rdb_mono hb (by omega)) HLW.out hxt)
      have GV := Lib.hid gV
      have HBE : Hid (Below w.heap.size w V) := Lib.hid (hR.below.trans (bV.mono (by omega)))
      obtain ⟨v0, v1, v2, v3, v4⟩ := blk5 gV
      clear hb hr hR hN hO hx hxt hc hcc he2 he3 gV bV
      go_wp2_with fail
      try rw [eV]
      refine TK.out.mono ?_
      rintro e w2 (⟨hE, rfl, hb2⟩ | ⟨hE, rfl, hm2⟩)
      · have HE := Lib.hid hE
        obtain ⟨y0, y1, y2, y3, y4⟩ := blk5 (blkT hb2 GV.out)
        have HB2 := Lib.hid (HBE.out.trans (hb2.mono HBE.out.size))
        have PF := Lib.hid (par_fault HX.out HR.out HE.out)
        have d1 : (stepE s t != 0) = true := bne_iff_ne.2 HE.out
        generalize stepE s t = x at *
        clear hb2 hE TK a0 a1 a2 a3 a4 v0 v1 v2 v3 v4
        go_wp2_with fail
        go_quiet (fail)
        go_wp2
        refine bodyPost_ret (v := .tuple #[.slice none 0 0, .slice none 0 0, .int .i64 t.l, .int .i64 t.c, .int .i64 x]) ?_ rfl ⟨below_drewN HB2.out _, .inl ⟨s, t, x, PF.out, rfl⟩⟩
        simp [results, Tryd.results9, go_sem]
      · have PN := Lib.hid (par_next HX.out HB.out HR.out hE hm2)
        clear hE hm2 TK a0 a1 a2 a3 a4 v0 v1 v2 v3 v4
        go_wp2
        go_roundw
        case rel => exact PN.out
        case measure => simp [intOf]; omega
    · obtain ⟨⟨p0, p1, p2⟩, -⟩ := blk3r hR.box
      have ho := hR.opens
      obtain ⟨no, nc, rfl⟩ := own_len hR.nodes
      obtain ⟨fo, fc, rfl⟩ := own_len hR.free
      obtain ⟨oo, oc, rfl⟩ := own_len ho
      obtain rfl : j = L.length := by omega
      have e0 : L.drop L.length = [] := List.drop_length
      have HR0 : Hid (runR rd0 L = (s, none)) := Lib.hid (by rw [hr, e0]; rfl)
      rcases List.eq_nil_or_concat O with rfl | ⟨O', p, rfl⟩
      · clear ho hb hr hR hN hO
        go_wp2_with fail
        go_quiet (fail)
        go_wp2
        refine bodyPost_ret (v := .tuple #[.slice no N.length nc, .slice fo s.free.length fc, .int .i64 0, .int .i64 0, .int .i64 0]) ?_ rfl ?_
        · simp [results, Tryd.results9, go_sem]
        · have hk := fun n => rd_keep HRV.out (Keeps.of_below (below_drewN (Below.refl wr.heap.size wr) n))
          exact ⟨(hk _).below, .inr (.inr ⟨s, _, _, _, N, HR0.out, by rw [← HOO.out]; rfl, HB.out, hk _, HNN.out, rfl⟩)⟩
      · obtain ⟨⟨tb, rb, fb⟩, t, k⟩ := p
        rw [List.concat_eq_append] at HRV HOO ho p2
        rw [List.map_append, List.map_append, List.length_append, List.length_map] at ho
        rw [List.map_append, List.length_append, List.length_map] at p2
        obtain ⟨g, rfl⟩ : ∃ g, oo = some ⟨g, 0, none⟩ := by
          obtain ⟨g, c', e⟩ := own_some ho (by simp)
          simp only [Value.slice.injEq] at e
          exact ⟨g, e.1⟩
        simp only [List.map_cons, List.map_nil, List.length_cons, List.length_nil, Nat.zero_add] at ho p2
        have c0 : wr.cell? ⟨g, O'.length, none⟩ = some (cloV (tb, rb, fb)) := by
          rw [ho.cellAt _ (by omega), List.getElem?_append_right (by simp)]
          simp
        have hcap := own_cap ho
        have hs : s.opened = O'.map Prod.snd ++ [(t, k)] := by rw [← HOO.out, List.map_append]; rfl
        have hO4 : O'.length ≤ 4096 := by have := hb.opened; rw [hs] at this; simp at this; omega
        have LC0 := begin1_any w.heap.size tb rb fb k t _ _ _ s.free _ wr (HRV.out.boxes ((tb, rb, fb), (t, k)) (by simp)) (fun hx => by have := hx.1; omega) HRV.out.box HRV.out.free (Nat.le_trans hb.free hlen) (hb.le (t, k) (by rw [hs]; simp))
        have LC : Hid (Calls Tryd.prog 55 #[.pointer (some ⟨tb, 0, none⟩), .pointer (some ⟨rb, 0, none⟩), .pointer (some ⟨fb, 0, none⟩)] wr fun e w' => ∃ ka kn kc, e = .returned (.agg #[.int .i64 2, .int .i64 t.k, .string t.t, .bool t.q, .int .i64 t.l, .int .i64 t.c, .slice ka kn kc]) ∧ Below w.heap.size w w') := Lib.hid (LC0.mono (by
          rintro e w2 ⟨ka, kc, rfl, _, _, _, _, _, hk⟩
          exact ⟨ka, _, kc, rfl, HRV.out.below.trans (hk.below (by omega) (fun b hb => by omega))⟩))
        have hcf : ∀ args W, (callFunc 55 args).run Tryd.prog W = .ok (.enter 55 args) W := fun args W => enters_of Tryd.func55 (by kernel_rfl) rfl args W
        have hfl : ∀ (W : World) (a b c d e f g : Value), (Instr.field 36 (.agg #[a, b, c, d, e, f, g]) 1).run Tryd.prog W = .ok (.agg #[b, c, d, e, f]) W := fun _ _ _ _ _ _ _ _ => by kernel_rfl
        unfold cloV at c0
        have e1 : wrap64 (((O'.length + 1 : Nat) : Int) - 1) = (O'.length : Int) := by rw [show (((O'.length + 1 : Nat) : Int) - 1) = (O'.length : Int) by omega]; exact IntWalk.wrap64_in _ (by omega)
        have HS := Lib.hid hs
        clear ho hb hr hR hN hO LC0 hs HRV HOO
        go_wp2_with fail
        refine LC.out.mono ?_
        rintro e w2 ⟨ka, kn, kc, rfl, hb2⟩
        have HB2 := Lib.hid hb2
        clear hb2 LC p0 p1 p2 c0
        go_wp2_with fail
        go_quiet (fail)
        go_wp2
        refine bodyPost_ret (v := .tuple #[.slice none 0 0, .slice none 0 0, .int .i64 t.l, .int .i64 t.c, .int .i64 71]) ?_ rfl ⟨below_drewN (HB2.out.alloc HB2.out.size _) _, .inr (.inl ⟨s, t, k, HR0.out, by rw [HS.out, List.getLast?_concat], rfl⟩)⟩
        simp [results, Tryd.results9, go_sem]
end Go.Proofs.YtpkdiciinhjfjaaDoor
