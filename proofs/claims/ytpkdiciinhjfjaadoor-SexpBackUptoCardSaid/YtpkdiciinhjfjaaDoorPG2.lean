/- PXJ PXK PXL PXM PXN PXO. -/
import Derived.Test.YtpkdiciinhjfjaaDoorPG1
import Derived.Test.YtpkdiciinhjfjaaDoorNG1
import Derived.Deep.RegionHeldLaw
import Derived.Deep.AppendLies
import Derived.Deep.RegionLaw
set_option linter.unusedVariables false
set_option linter.unusedSimpArgs false
/- sexp: the closures of tokens. -/
namespace Go.Proofs.YtpkdiciinhjfjaaDoor
open Go.RowKit Mth

/-- a list of tokens behind a captured variable -/
def TkC (w : World) (q : Nat) (v : Value) (L : List Tk) : Prop := w.heap[q]? = some (.cells #[v] 38 (0, 0)) ∧ w.ownsRow (q + 1) 34 5 v L.length (tksCells L)
theorem TkC.keeps {w w' : World} {X : Nat → Prop} {q : Nat} {v : Value} {L : List Tk} (h : TkC w q v L) (hk : Keeps w w' X) (hc : X q) (hx : ∀ g, v.ownBlock = some g → X g) : TkC w' q v L := ⟨hk.at hc h.1, own_keeps h.2 hk hx⟩
theorem append_tokL {w : World} {ops : Array Oper} {rest : List Oper} {o : Oper} {a : Act} {Q : Exit → Act → World → Prop} (hgd : o.guard = none) (s x : Operand)
    (ho : o.op = .call { callee := .builtin .append, args := #[s, x], argTypes := #[38, 38] }) (base : Nat) (v : Value) (L : List Tk) (y : Tk) (b cap : Nat)
    (hs : a.eval s = v) (hx : a.eval x = .slice (some ⟨b, 0, none⟩) 1 cap) (hown : w.ownsRow base 34 5 v L.length (tksCells L)) (hu : w.heap[b]? = some (.cells #[.int .i64 y.k, .string y.t, .bool y.q, .int .i64 y.l, .int .i64 y.c] 34 (0, 0))) (hlen : L.length ≤ 1048576) (hbase : base ≤ w.heap.size)
    (h : ∀ v' w', w'.ownsRow base 34 5 v' (L ++ [y]).length (tksCells (L ++ [y])) → w.grownBy w' v.ownBlock → (v'.ownBlock = v.ownBlock ∨ v'.ownBlock = some w.heap.size) → wpList Tryd.prog ops Q rest (a.put o.dst v') w') : wpList Tryd.prog ops Q (o :: rest) a w := by
  obtain ⟨i0, hi, hz0, hz1, hz2⟩ := info_parts info_tok
  obtain ⟨c0, c1, c2, c3, c4⟩ := blk5 hu
  refine wpList_append_own_at w hgd s x 38 ho base 34 i0 _ 5 48 Tryd.underlying38 hi hz0 hz1 hz2 rfl (by decide) v _ _ hs hown ⟨b, 0, none⟩ 1 cap (tkCells y) hx rfl ?_ ?_
      (by unfold maxLen; omega) (by omega) hbase ?_
  · intro j u hj
    match j, hj with
    | 0, hj => obtain rfl := Option.some.inj hj; rw [Addr.add_lit]; exact c0
    | 1, hj => obtain rfl := Option.some.inj hj; rw [Addr.add_lit]; exact c1
    | 2, hj => obtain rfl := Option.some.inj hj; rw [Addr.add_lit]; exact c2
    | 3, hj => obtain rfl := Option.some.inj hj; rw [Addr.add_lit]; exact c3
    | 4, hj => obtain rfl := Option.some.inj hj; rw [Addr.add_lit]; exact c4
    | j + 5, hj => simp [tkCells] at hj
  · intro u hu
    simp [tkCells] at hu
    rcases hu with rfl | rfl | rfl | rfl | rfl <;> rfl
  · intro v' w' h2 h3 _ h5
    refine h v' w' ?_ h3 h5
    rw [tks_app, List.length_append]
    have e : tksCells [y] = tkCells y := by simp [tksCells]
    rw [e]
    exact h2
def tkOpen : Tk := ⟨1, ⟨#[40]⟩, false, 0, 0⟩
def tkClose : Tk := ⟨2, ⟨#[41]⟩, false, 0, 0⟩
/-- a token more on the list behind the variable -/
def MoreO (w w' : World) (q : Nat) (v : Value) (L : List Tk) (y : Tk) : Prop :=
  ∃ v', TkC w' q v' (L ++ [y]) ∧ (v'.ownBlock = v.ownBlock ∨ ∃ g, v'.ownBlock = some g ∧ w.heap.size ≤ g) ∧ Keeps w w' (fun b => b ≠ q ∧ v.ownBlock ≠ some b)
theorem more_of {w W w3 : World} {q n3 cap3 : Nat} {ao3 : Option Addr} {v : Value} {L : List Tk} {y : Tk} (KW : Keeps w W (fun _ => True)) (hq : W.heap[q]? = some (.cells #[v] 38 (0, 0))) (hvq : ∀ g, v.ownBlock = some g → q + 1 ≤ g)
    (ho : w3.ownsRow (q + 1) 34 5 (.slice ao3 n3 cap3) (L ++ [y]).length (tksCells (L ++ [y]))) (hg : W.grownBy w3 v.ownBlock) (hv : (Value.slice ao3 n3 cap3).ownBlock = v.ownBlock ∨ (Value.slice ao3 n3 cap3).ownBlock = some W.heap.size) :
    MoreO w (w3.setCell ⟨q, 0, none⟩ (.slice ao3 n3 cap3)) q v L y := by
  have hq3 := (Keeps.of_grown hg).at (b := q) (fun e => by have := hvq q e; omega) hq
  refine ⟨_, ⟨heap_setCell_row hq3 rfl, own_keeps ho Keeps.set (fun g hg => ?_)⟩, ?_, ((KW.weak (Y := fun b => b ≠ q ∧ v.ownBlock ≠ some b) (fun _ _ _ => trivial)).on (Keeps.of_grown hg) (fun _ _ h => h.2)).on Keeps.set (fun _ _ h => h.1)⟩
  · have := (ho.lt g hg).1
    omega
  · rcases hv with h | h
    · exact .inl h
    · exact .inr ⟨_, h, KW.1⟩
set_option maxHeartbeats 4000000 in
set_option maxRecDepth 100000 in
theorem leaveT_any (n : Int) (q : Nat) (v : Value) (L : List Tk) (w : World) (h : TkC w q v L) (hlen : L.length ≤ 1048576) :
    Calls Tryd.prog 35 #[.int .i64 n, .pointer (some ⟨q, 0, none⟩)] w fun e w' => e = .returned (.tuple #[]) ∧ MoreO w w' q v L tkClose := by
  have H := Lib.hid h
  have p0 := blk1s h.1
  have hql : q < w.heap.size := (Array.getElem?_eq_some_iff.1 h.1).1
  obtain ⟨W, eW, g2, bW, hWs⟩ := allocS w (Obj.cells #[.int .i64 2, .string ⟨#[41]⟩, .bool false, .int .i64 0, .int .i64 0] 34)
  have KW := Lib.hid (Keeps.of_below bW)
  have HG : Hid (W.heap[w.heap.size]? = some (.cells #[.int .i64 tkClose.k, .string tkClose.t, .bool tkClose.q, .int .i64 tkClose.l, .int .i64 tkClose.c] 34 (0, 0))) := Lib.hid g2
  have OWN := Lib.hid (own_keeps h.2 KW.out (fun _ _ => trivial))
  have HCW := Lib.hid (KW.out.at trivial h.1)
  have HVC : Hid (∀ g, v.ownBlock = some g → q + 1 ≤ g) := Lib.hid (fun g hg => (h.2.lt g hg).1)
  clear h g2 bW
  go_enter Tryd.func35, Tryd.ntmps35
  go_wp2_with (at_builtin; refine append_tokL rfl (.tmp 3) (.tmp 5) rfl (q + 1) _ L tkClose w.heap.size 1 rfl rfl OWN.out HG.out hlen (by omega) ?_; intro v3 w3 hown3 hgr3 hor3; obtain ⟨ao3, n3, cap3, rfl⟩ := own_slc hown3; have MO := Lib.hid (more_of KW.out HCW.out HVC.out hown3 hgr3 hor3); have HC3 := Lib.hid ((Keeps.of_grown hgr3).at (b := q) (fun e => by have := HVC.out q e; omega) HCW.out); have c3 := blk1s HC3.out; have f3 := frozen_of_row w3 q 0 _ _ HC3.out; clear hown3 hgr3 hor3)
  go_end0
  exact ⟨rfl, MO.out⟩
/-- what enter says of a node, and the token that it lays -/
def entT (T : List Nd) (L : List Tk) (n : Nat) : Bool × List Tk := match T[n]? with
  | some nd => if nd.kind = 1 then (false, L ++ [nd.tok]) else (true, L ++ [tkOpen])
  | none => (true, L ++ [tkOpen])
set_option maxHeartbeats 8000000 in
set_option maxRecDepth 100000 in
theorem enterT_list (T : List Nd) (tv : Value) (k d q : Nat) (v : Value) (L : List Tk) (w : World) (ht : SxL w tv T) (hk : k < T.length) (k1 : ¬ (T[k]).kind = 1) (hd : w.heap[d]? = some (.cells #[tv] 22 (0, 0))) (h : TkC w q v L) (hlen : L.length ≤ 1048576) (hdq : d ≤ q) (hbq : ∀ b off m cap, tv = .slice (some ⟨b, off, none⟩) m cap → b ≤ q) :
    Calls Tryd.prog 34 #[.int .i64 (k : Int), .pointer (some ⟨d, 0, none⟩), .pointer (some ⟨q, 0, none⟩)] w fun e w' => e = .returned (.bool (entT T L k).1) ∧ ∃ y, (entT T L k).2 = L ++ [y] ∧ MoreO w w' q v L y := by
  have H := Lib.hid h
  have p0 := blk1s h.1
  have d0 := blk1s hd
  have hql : q < w.heap.size := (Array.getElem?_eq_some_iff.1 h.1).1
  obtain ⟨ao, cap, rfl⟩ := ht.shape
  obtain ⟨b, off, na, nc, rfl, hbl, c0, c1, c2, c3, c4, c5, c6, hkv⟩ := ht.at hk
  have ET : Hid (entT T L k = if (T[k]).kind = 1 then (false, L ++ [(T[k]).tok]) else (true, L ++ [tkOpen])) := Lib.hid (by unfold entT; rw [List.getElem?_eq_getElem hk])
  generalize T[k] = nd at *
  obtain ⟨kind, tok, kids⟩ := nd
  have HVC : Hid (∀ g, v.ownBlock = some g → q + 1 ≤ g) := Lib.hid (fun g hg => (h.2.lt g hg).1)
  replace k1 : ¬ kind = 1 := k1
  have ET2 : Hid (entT T L k = (true, L ++ [tkOpen])) := Lib.hid (by rw [ET.out]; exact if_neg k1)
  have d1 : (kind == 1) = false := beq_eq_false_iff_ne.2 k1
  obtain ⟨W, eW, g2, bW, hWs⟩ := allocS w (Obj.cells #[.int .i64 1, .string ⟨#[40]⟩, .bool false, .int .i64 0, .int .i64 0] 34)
  have KW := Lib.hid (Keeps.of_below bW)
  have HG : Hid (W.heap[w.heap.size]? = some (.cells #[.int .i64 tkOpen.k, .string tkOpen.t, .bool tkOpen.q, .int .i64 tkOpen.l, .int .i64 tkOpen.c] 34 (0, 0))) := Lib.hid g2
  have OWN := Lib.hid (own_keeps h.2 KW.out (fun _ _ => trivial))
  have HCW := Lib.hid (KW.out.at trivial h.1)
  clear h ht hd g2 bW hkv ET k1
  go_enter Tryd.func34, Tryd.ntmps34
  go_wp2_with (at_builtin; refine append_tokL rfl (.tmp 19) (.tmp 21) rfl (q + 1) _ L tkOpen w.heap.size 1 rfl rfl OWN.out HG.out hlen (by omega) ?_; intro v3 w3 hown3 hgr3 hor3; obtain ⟨ao3, n3, cap3, rfl⟩ := own_slc hown3; have MO := Lib.hid (more_of KW.out HCW.out HVC.out hown3 hgr3 hor3); have HC3 := Lib.hid ((Keeps.of_grown hgr3).at (b := q) (fun e => by have := HVC.out q e; omega) HCW.out); have c3 := blk1s HC3.out; have f3 := frozen_of_row w3 q 0 _ _ HC3.out; clear hown3 hgr3 hor3)
  go_ret
  exact ⟨by rw [ET2.out]; rfl, tkOpen, by rw [ET2.out], MO.out⟩
end Go.Proofs.YtpkdiciinhjfjaaDoor

/- sexp: tokens' enter at an atom, and at any node; tokens itself. -/
namespace Go.Proofs.YtpkdiciinhjfjaaDoor
open Go.RowKit Mth

theorem more_of2 {w w3 : World} {o : Obj} {q gg cap3 : Nat} {v : Value} {L : List Tk} {y : Tk} (hq : (w.drew.alloc o).heap[q]? = some (.cells #[v] 38 (0, 0))) (hvq : ∀ g, v.ownBlock = some g → q + 1 ≤ g)
    (ho : w3.ownsRow (q + 1) 34 5 (.slice (some ⟨gg, 0, none⟩) (L.length + 1) cap3) (L.length + 1) (tksCells L ++ tkCells y)) (hg : (w.drew.alloc o).grownBy w3 v.ownBlock) (hat : v.ownBlock = some gg ∨ gg = w.heap.size + 1) :
    MoreO w (w3.setCell ⟨q, 0, none⟩ (.slice (some ⟨gg, 0, none⟩) (L.length + 1) cap3)) q v L y := by
  refine more_of (Keeps.of_below ((Below.refl w.heap.size w).drew.alloc (by simp) o)) hq hvq ?_ hg ?_
  · rw [tks_app, List.length_append]
    have e : tksCells [y] = tkCells y := by simp [tksCells]
    rw [e]
    exact ho
  · rcases hat with h | h
    · exact .inl h.symm
    · exact .inr (by rw [h]; simp [Value.ownBlock])
set_option maxHeartbeats 8000000 in
set_option maxRecDepth 100000 in
theorem enterT_atom (T : List Nd) (tv : Value) (k d q : Nat) (v : Value) (L : List Tk) (w : World) (ht : SxL w tv T) (hk : k < T.length) (k1 : (T[k]).kind = 1) (hd : w.heap[d]? = some (.cells #[tv] 22 (0, 0))) (h : TkC w q v L) (hlen : L.length ≤ 1048576) (hdq : d ≤ q) (hbq : ∀ b off m cap, tv = .slice (some ⟨b, off, none⟩) m cap → b ≤ q) :
    Calls Tryd.prog 34 #[.int .i64 (k : Int), .pointer (some ⟨d, 0, none⟩), .pointer (some ⟨q, 0, none⟩)] w fun e w' => e = .returned (.bool (entT T L k).1) ∧ ∃ y, (entT T L k).2 = L ++ [y] ∧ MoreO w w' q v L y := by
  have H := Lib.hid h
  have p0 := blk1s h.1
  have d0 := blk1s hd
  have hql : q < w.heap.size := (Array.getElem?_eq_some_iff.1 h.1).1
  obtain ⟨ao, cap, rfl⟩ := ht.shape
  obtain ⟨b, off, na, nc, rfl, hbl, c0, c1, c2, c3, c4, c5, c6, hkv⟩ := ht.at hk
  have ET : Hid (entT T L k = if (T[k]).kind = 1 then (false, L ++ [(T[k]).tok]) else (true, L ++ [tkOpen])) := Lib.hid (by unfold entT; rw [List.getElem?_eq_getElem hk])
  generalize T[k] = nd at *
  obtain ⟨kind, tok, kids⟩ := nd
  have HVC : Hid (∀ g, v.ownBlock = some g → q + 1 ≤ g) := Lib.hid (fun g hg => (h.2.lt g hg).1)
  replace k1 : kind = 1 := k1
  have ET2 : Hid (entT T L k = (false, L ++ [tok])) := Lib.hid (by rw [ET.out]; exact if_pos k1)
  subst k1
  have hown := h.2
  have fq := frozen_of_row w q 0 _ _ h.1
  have aq : v.ownBlock ≠ some q := fun e => by have := HVC.out q e; omega
  have ad : v.ownBlock ≠ some d := fun e => by have := HVC.out d e; omega
  have ab : v.ownBlock ≠ some b := fun e => by have := HVC.out b e; have := hbq _ _ _ _ rfl; omega
  have hdl : d < w.heap.size := (Array.getElem?_eq_some_iff.1 hd).1
  have hk0 : (0 : Int) ≤ (k : Int) := Int.natCast_nonneg _
  have hk1 : (k : Int) < (T.length : Int) := by omega
  obtain ⟨i0, hi0, hz0, hz1, hz2⟩ := info_parts info_tok
  have HQ := Lib.hid h.1
  have A3 : Hid (∀ o : Obj, (w.drew.alloc o).heap[q]? = some (.cells #[v] 38 (0, 0))) := Lib.hid (fun o => (Keeps.of_below ((Below.refl w.heap.size w).drew.alloc (by simp) o)).at (b := q) trivial HQ.out)
  have n0 := World.new_ne w _ p0
  have n1 := World.new_ne w _ d0
  have n2 := World.new_ne w _ c1
  clear h ht hd hkv ET c6
  go_enter Tryd.func34, Tryd.ntmps34
  go_wp2_with fail
  go_region_law ((refine step_append_lies _ (by rfl) _ _ _ (by rfl) (q + 1) 34 i0 _ 5 48 Tryd.underlying38 hi0 hz0 hz1 hz2 rfl (by omega) v L.length (tksCells L) (by rfl) (hown.drew.alloc _) ⟨w.heap.size, 0, none⟩ 1 1 (tkCells tok) (by rfl) (by rfl) (World.news_of_block (cs := #[.int .i64 tok.k, .string tok.t, .bool tok.q, .int .i64 tok.l, .int .i64 tok.c]) (t := 34) (fr := (0, 0)) (heap_alloc_new w.drew _)) (by simp [tkCells, Value.oneCell']) (by omega) (by unfold maxLen; omega) (by omega) (by simp; omega) (w.heap.size + 1) (by simp) ?_; intro gg cap3 w3 hown1 hgrow hat hlt; have MO := Lib.hid (more_of2 (A3.out _) HVC.out hown1 hgrow hat); have HQ3 := Lib.hid ((Keeps.of_grown hgrow).at (b := q) aq (A3.out _)); have fq3 := frozen_of_row w3 q 0 _ _ HQ3.out; have cq3 := blk1s HQ3.out))
  all_goals
    go_wp2
    go_ret
    exact ⟨by rw [ET2.out]; rfl, tok, by rw [ET2.out], MO.out⟩
theorem enterT_any (T : List Nd) (tv : Value) (k d q : Nat) (v : Value) (L : List Tk) (w : World) (ht : SxL w tv T) (hk : k < T.length) (hd : w.heap[d]? = some (.cells #[tv] 22 (0, 0))) (h : TkC w q v L) (hlen : L.length ≤ 1048576) (hdq : d ≤ q) (hbq : ∀ b off m cap, tv = .slice (some ⟨b, off, none⟩) m cap → b ≤ q) :
    Calls Tryd.prog 34 #[.int .i64 (k : Int), .pointer (some ⟨d, 0, none⟩), .pointer (some ⟨q, 0, none⟩)] w fun e w' => e = .returned (.bool (entT T L k).1) ∧ ∃ y, (entT T L k).2 = L ++ [y] ∧ MoreO w w' q v L y := by
  by_cases k1 : (T[k]).kind = 1
  · exact enterT_atom T tv k d q v L w ht hk k1 hd h hlen hdq hbq
  · exact enterT_list T tv k d q v L w ht hk k1 hd h hlen hdq hbq
end Go.Proofs.YtpkdiciinhjfjaaDoor

/- sexp: tokens, by walk. -/
namespace Go.Proofs.YtpkdiciinhjfjaaDoor
open Go.RowKit Mth

/-- what holds between the closures' calls: the table as it came, the list behind its variable -/
def TokI (w0 : World) (tv : Value) (q d : Nat) (w : World) (L : List Tk) (F : Nat → Prop) : Prop :=
  ∃ v, TkC w q v L ∧ w.heap[d]? = some (.cells #[tv] 22 (0, 0)) ∧ Below w0.heap.size w0 w ∧ ∀ b, F b ↔ (b ≤ q ∨ v.ownBlock = some b)
theorem toki_more {w0 w w' : World} {tv v : Value} {q d : Nat} {L : List Tk} {y : Tk} {F : Nat → Prop} (hq : w0.heap.size ≤ q) (hd : d < q) (h1 : TkC w q v L) (h2 : w.heap[d]? = some (.cells #[tv] 22 (0, 0))) (h3 : Below w0.heap.size w0 w) (h4 : ∀ b, F b ↔ (b ≤ q ∨ v.ownBlock = some b))
    (h : MoreO w w' q v L y) : ∃ F', TokI w0 tv q d w' (L ++ [y]) F' ∧ Keeps w w' (fun b => ¬ F b) ∧ ∀ b, F' b → F b ∨ w.heap.size ≤ b := by
  obtain ⟨v', ht, hor, hk⟩ := h
  have hvl := h1.2.lt
  have hql : q < w.heap.size := (Array.getElem?_eq_some_iff.1 h1.1).1
  refine ⟨fun b => b ≤ q ∨ v'.ownBlock = some b, ⟨v', ht, hk.at ⟨by omega, fun e => by have := (hvl d e).1; omega⟩ h2, h3.trans (hk.below (by omega) (fun b hb => ⟨by omega, fun e => by have := (hvl b e).1; omega⟩)), fun b => Iff.rfl⟩,
    hk.weak (fun b _ hb => ⟨fun e => hb ((h4 b).2 (.inl (by omega))), fun e => hb ((h4 b).2 (.inr e))⟩), fun b hb => ?_⟩
  rcases hb with hb | hb
  · exact .inl ((h4 b).2 (.inl hb))
  · rcases hor with e | ⟨g, e, hg⟩
    · exact .inl ((h4 b).2 (.inr (e ▸ hb)))
    · rw [e] at hb
      obtain rfl := Option.some.inj hb
      exact .inr hg
theorem tok_vis (w0 : World) (tv : Value) (T : List Nd) (q d : Nat) (ht : SxL w0 tv T) (hq : w0.heap.size ≤ q) (hd : d < q) (hbq : ∀ b off m cap, tv = .slice (some ⟨b, off, none⟩) m cap → b < w0.heap.size) :
    Vis (entT T) (fun L _ => L ++ [tkClose]) (fun L n => n < T.length ∧ L.length ≤ 1048576) (fun L _ => L.length ≤ 1048576) (TokI w0 tv q d) tv T 34 35 #[.pointer (some ⟨d, 0, none⟩), .pointer (some ⟨q, 0, none⟩)] #[.pointer (some ⟨q, 0, none⟩)] where
  cfe := fun args W => enters_of Tryd.func34 (by kernel_rfl) rfl args W
  cfl := fun args W => enters_of Tryd.func35 (by kernel_rfl) rfl args W
  keep := fun w w' L F h hk => by
    obtain ⟨v, h1, h2, h3, h4⟩ := h
    have hql : q < w.heap.size := (Array.getElem?_eq_some_iff.1 h1.1).1
    exact ⟨v, h1.keeps hk ((h4 q).2 (.inl (Nat.le_refl _))) (fun g hg => (h4 g).2 (.inr hg)), hk.at ((h4 d).2 (.inl (by omega))) h2, h3.trans (hk.below (by omega) (fun b hb => (h4 b).2 (.inl (by omega)))), h4⟩
  tab := fun w L F h => by
    obtain ⟨v, h1, h2, h3, h4⟩ := h
    exact ht.below h3
  tabF := fun w L F b off n cap h e => by
    obtain ⟨v, h1, h2, h3, h4⟩ := h
    exact (h4 b).2 (.inl (by have := hbq _ _ _ _ e; omega))
  lt := fun w L F h b hb => by
    obtain ⟨v, h1, h2, h3, h4⟩ := h
    have hql : q < w.heap.size := (Array.getElem?_eq_some_iff.1 h1.1).1
    rcases (h4 b).1 hb with h | h
    · omega
    · exact (h1.2.lt b h).2
  enter := fun w L F n h ok => by
    obtain ⟨v, h1, h2, h3, h4⟩ := h
    refine (enterT_any T tv n d q v L w (ht.below h3) ok.1 h2 h1 ok.2 (by omega) (fun b off m cap e => by have := hbq _ _ _ _ e; omega)).mono ?_
    rintro e w' ⟨he, y, hy, hm⟩
    obtain ⟨F', a, b, c⟩ := toki_more hq hd h1 h2 h3 h4 hm
    exact ⟨F', he, by rw [hy]; exact a, b, c⟩
  leave := fun w L F n h ok => by
    obtain ⟨v, h1, h2, h3, h4⟩ := h
    refine (leaveT_any n q v L w h1 ok).mono ?_
    rintro e w' ⟨he, hm⟩
    obtain ⟨F', a, b, c⟩ := toki_more hq hd h1 h2 h3 h4 hm
    exact ⟨F', he, a, b, c⟩
end Go.Proofs.YtpkdiciinhjfjaaDoor

/- sexp: tokens. -/
namespace Go.Proofs.YtpkdiciinhjfjaaDoor
open Go.RowKit Mth

def okET (T : List Nd) (L : List Tk) (n : Nat) : Prop := n < T.length ∧ L.length ≤ 1048576
def okLT (L : List Tk) (_ : Nat) : Prop := L.length ≤ 1048576
def lvT (L : List Tk) (_ : Nat) : List Tk := L ++ [tkClose]
set_option maxHeartbeats 4000000 in
set_option maxRecDepth 100000 in
theorem tokens_any (T : List Nd) (tv : Value) (r j : Nat) (L1 : List Tk) (w : World) (ht : SxL w tv T) (hr : r < T.length) (hg : Goes T (entT T) lvT (okET T) okLT L1 j (intoC (entT T) [] [] r)) :
    Calls Tryd.prog 16 #[tv, .int .i64 (r : Int)] w fun e w' => ∃ v, e = .returned v ∧ w'.ownsRow (w.heap.size + 2) 34 5 v L1.length (tksCells L1) ∧ Below w.heap.size w w' := by
  have hbq : ∀ b off m cap, tv = .slice (some ⟨b, off, none⟩) m cap → b < w.heap.size := fun b off m cap e => by
    obtain ⟨ao, cap', e', h⟩ := ht
    obtain ⟨b', off', e2, hl, _⟩ := h (fun e => by rw [e] at hr; simp at hr)
    rw [e] at e'
    simp only [Value.slice.injEq] at e'
    rw [← e'.1] at e2
    simp only [Option.some.injEq, Addr.mk.injEq] at e2
    omega
  obtain ⟨W1, eW1, g1, bW1, -⟩ := allocS w (Obj.cells #[tv] 22)
  obtain ⟨W, eW, g2, bW, -⟩ := allocS W1 (Obj.cells #[.slice none 0 0] 38)
  have hsz1 : W1.heap.size = w.heap.size + 1 := by rw [← eW1]; simp
  have BW := Lib.hid (belowT bW1 bW)
  have HD := Lib.hid (blkT bW g1)
  rw [hsz1] at g2
  have HQ := Lib.hid g2
  have TI : Hid (TokI w tv (w.heap.size + 1) w.heap.size W [] (fun b => b ≤ w.heap.size + 1 ∨ (Value.slice none 0 0).ownBlock = some b)) := Lib.hid ⟨_, ⟨HQ.out, World.ownsRow_nil _ _ _ _⟩, HD.out, BW.out, fun b => Iff.rfl⟩
  have WK := Lib.hid (walk_any (tok_vis w tv T (w.heap.size + 1) w.heap.size ht (by omega) (by omega) hbq) W r j [] L1 _ TI.out ⟨hr, by simp⟩ hg)
  have p1 := blk1s HD.out
  obtain ⟨ao, cap, rfl⟩ := ht.shape
  clear ht hg g1 g2 bW1 bW hbq TI
  go_enter Tryd.func16, Tryd.ntmps16
  go_wp2_with fail
  refine WK.out.mono ?_
  rintro e w2 ⟨rfl, F, ⟨v, ⟨hq2, ho⟩, -, hb, -⟩, -⟩
  obtain ⟨ao2, n2, cap2, rfl⟩ := own_slc ho
  have HO := Lib.hid ho; have HB := Lib.hid hb
  have q0 := blk1s hq2
  clear ho hb hq2 WK p1
  go_wp2
  go_ret
  exact ⟨_, rfl, HO.out, HB.out⟩
end Go.Proofs.YtpkdiciinhjfjaaDoor

/- sexp: the tokens of a sound node; the run of walk over it. -/
namespace Go.Proofs.YtpkdiciinhjfjaaDoor
open Go.RowKit Mth

/-- the tokens of a node: kids stand below their list -/
def toksF (T : List Nd) (n : Nat) : List Tk := match T[n]? with
  | none => []
  | some nd => if nd.kind = 1 then [nd.tok] else tkOpen :: ((nd.kids.flatMap fun x => if _h : x.toNat < n then toksF T x.toNat else []) ++ [tkClose])
termination_by n
/-- a node and all below it are sound -/
inductive Sound (T : List Nd) : Nat → Prop
  | mk (n : Nat) (hn : n < T.length) : SndN T[n] n → (T[n].kind = 2 → ∀ x ∈ T[n].kids, Sound T x.toNat) → Sound T n
theorem flat_eq {l : List Int} {f g : Int → List Tk} (h : ∀ x ∈ l, f x = g x) : l.flatMap f = l.flatMap g := by
  induction l with
  | nil => rfl
  | cons x l ih => rw [List.flatMap_cons, List.flatMap_cons, h x (List.mem_cons_self ..), ih (fun y hy => h y (List.mem_cons_of_mem _ hy))]
theorem toks_atom {T : List Nd} {n : Nat} (hn : n < T.length) (h : T[n].kind = 1) : toksF T n = [T[n].tok] := by
  rw [toksF, List.getElem?_eq_getElem hn]
  exact if_pos h
theorem toks_list {T : List Nd} {n : Nat} (hn : n < T.length) (h : T[n].kind = 2) (hk : ∀ x ∈ T[n].kids, 0 ≤ x ∧ x < (n : Int)) : toksF T n = tkOpen :: ((T[n].kids.flatMap fun x => toksF T x.toNat) ++ [tkClose]) := by
  rw [toksF, List.getElem?_eq_getElem hn]
  show (if T[n].kind = 1 then _ else _) = _
  rw [if_neg (by omega)]
  congr 2
  refine flat_eq fun x hx => ?_
  have := hk x hx
  exact dif_pos (by omega)
/-- the run over a node: behind it its tokens are laid -/
theorem goes_node {T : List Nd} (HK : ∀ nd ∈ T, nd.kids.length ≤ 4611686018427387904) {n : Nat} (hs : Sound T n) : ∀ (L : List (Nat × Nat)) (s s1 : List Tk) (j : Nat), L.length + n < 1048576 → (s ++ toksF T n).length ≤ 1048576 →
    Goes T (entT T) lvT (okET T) okLT s1 j (L, s ++ toksF T n) → ∃ j', Goes T (entT T) lvT (okET T) okLT s1 j' (intoC (entT T) L s n) := by
  induction hs with
  | mk n hn hsn hkids ih =>
    intro L s s1 j hL hlen hg
    rcases hsn with ⟨k1, -⟩ | ⟨k2, hlt⟩
    · rw [toks_atom hn k1] at hg
      refine ⟨j, ?_⟩
      have e : entT T s n = (false, s ++ [T[n].tok]) := by unfold entT; rw [List.getElem?_eq_getElem hn]; exact if_pos k1
      unfold intoC
      rw [e]
      exact hg
    · rw [toks_list hn k2 hlt] at hg hlen
      have e : entT T s n = (true, s ++ [tkOpen]) := by unfold entT; rw [List.getElem?_eq_getElem hn]; exact if_neg (by omega)
      have ek : kidsF T (n : Int) = T[n].kids := by unfold kidsF; rw [ndAt_some hn]; exact if_pos k2
      have hkl := HK _ (List.getElem_mem hn)
      have H : ∀ (rest : List Int) (i : Nat) (s : List Tk), T[n].kids.drop i = rest → i ≤ T[n].kids.length → (s ++ ((rest.flatMap fun x => toksF T x.toNat) ++ [tkClose])).length ≤ 1048576 →
          Goes T (entT T) lvT (okET T) okLT s1 j (L, s ++ ((rest.flatMap fun x => toksF T x.toNat) ++ [tkClose])) → ∃ j', Goes T (entT T) lvT (okET T) okLT s1 j' (L ++ [(n, i)], s) := by
        intro rest
        induction rest with
        | nil =>
          intro i s hd hi hl hg
          have : i = T[n].kids.length := by have := List.drop_eq_nil_iff.1 hd; omega
          subst this
          refine ⟨j + 1, ?_⟩
          rw [← ek]
          exact Goes.leave L s n (by unfold okLT; simp at hl; omega) hg
        | cons x rest ih2 =>
          intro i s hd hi hl hg
          have hlt2 : i < T[n].kids.length := by
            rcases Nat.lt_or_ge i T[n].kids.length with h | h
            · exact h
            · rw [List.drop_eq_nil_of_le h] at hd; cases hd
          rw [List.drop_eq_getElem_cons hlt2] at hd
          obtain ⟨hx, hd2⟩ := List.cons.inj hd
          have hxm : x ∈ T[n].kids := hx ▸ List.getElem_mem hlt2
          have hx0 := hlt x hxm
          rw [List.flatMap_cons, List.append_assoc, ← List.append_assoc] at hg hl
          obtain ⟨j1, hg1⟩ := ih2 (i + 1) (s ++ toksF T x.toNat) hd2 (by omega) hl hg
          obtain ⟨j2, hg2⟩ := ih k2 x hxm (L ++ [(n, i + 1)]) s s1 j1 (by simp; omega) (by simp at hl ⊢; omega) hg1
          exact ⟨j2 + 1, Goes.into L s n i x.toNat (by rw [ek, List.getElem?_eq_getElem hlt2, hx]; congr 1; omega) ⟨by omega, by simp at hl; omega⟩ (by omega) (by omega) hg2⟩
      unfold intoC
      rw [e]
      exact H _ 0 _ rfl (Nat.zero_le _) (by simpa using hlen) (by simpa using hg)
theorem tokens_sound {T : List Nd} (HK : ∀ nd ∈ T, nd.kids.length ≤ 4611686018427387904) (tv : Value) (r : Nat) (w : World) (ht : SxL w tv T) (hs : Sound T r) (hr : r < 1048576) (hlen : (toksF T r).length ≤ 1048576) :
    Calls Tryd.prog 16 #[tv, .int .i64 (r : Int)] w fun e w' => ∃ v, e = .returned v ∧ w'.ownsRow (w.heap.size + 2) 34 5 v (toksF T r).length (tksCells (toksF T r)) ∧ Below w.heap.size w w' := by
  obtain ⟨j, hg⟩ := goes_node HK hs [] [] (toksF T r) 0 (by simp; omega) (by simpa using hlen) (by rw [List.nil_append]; exact Goes.done)
  have hn : r < T.length := by cases hs with | mk n hn _ _ => exact hn
  exact tokens_any T tv r j _ w ht hn hg
end Go.Proofs.YtpkdiciinhjfjaaDoor

/- sexp: the two rules; Kids. -/
namespace Go.Proofs.YtpkdiciinhjfjaaDoor
open Go.RowKit Mth

theorem results_rule {fn : Func} {tmps : Array Value} {w : World} {b : Nat} {x y z : Value} (h : fn.results = #[.cell 0 52]) (h1 : tmps.getD 0 undef = .pointer (some ⟨b, 0, none⟩)) (hb : w.heap[b]? = some (.cells #[x, y, z] 52 (0, 0))) :
    (results fn tmps).run Tryd.prog w = .ok (.agg #[x, y, z]) w := by
  obtain ⟨⟨c0, c1, c2⟩, _, _⟩ := blk3s hb
  rw [Array.getD_eq_getD_getElem?] at h1
  simp [results, h, h1, go_sem, c0, c1, c2]
set_option maxRecDepth 100000 in
theorem depths_any (w : World) : Calls Tryd.prog 23 #[] w fun e w' => e = .returned ruleD ∧ Below w.heap.size w w' := by
  have BE := Lib.hid (Below.refl w.heap.size w)
  go_enter Tryd.func23, Tryd.ntmps23
  go_wp2
  refine bodyPost_ret (results_rule rfl rfl (heap_alloc_new _ _)) rfl ?_
  exact ⟨rfl, BE.out.alloc (Nat.le_refl _) _⟩
set_option maxRecDepth 100000 in
theorem sizes_any (w : World) : Calls Tryd.prog 14 #[] w fun e w' => e = .returned ruleS ∧ Below w.heap.size w w' := by
  have BE := Lib.hid (Below.refl w.heap.size w)
  go_enter Tryd.func14, Tryd.ntmps14
  go_wp2
  refine bodyPost_ret (results_rule rfl rfl (heap_alloc_new _ _)) rfl ?_
  exact ⟨rfl, BE.out.alloc (Nat.le_refl _) _⟩
end Go.Proofs.YtpkdiciinhjfjaaDoor
