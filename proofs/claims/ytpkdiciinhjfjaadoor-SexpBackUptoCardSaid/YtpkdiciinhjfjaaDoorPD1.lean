/- PZC PZD PZF. -/
import Derived.Test.YtpkdiciinhjfjaaDoorPB1
import Derived.Test.YtpkdiciinhjfjaaDoorPG1
import Derived.Deep.QuietTactic
import Derived.BigQuiet
set_option linter.unusedVariables false
set_option linter.unusedSimpArgs false
/- SexpJoins: mathematics. -/
namespace Go.Proofs.YtpkdiciinhjfjaaDoor
open Go.RowKit Mth

/-- a run over two lists -/
theorem run_app : ∀ (A B : List Tk) (s : Rd), runR s (A ++ B) = (match (runR s A).2 with | none => runR (runR s A).1 B | some _ => runR s A)
  | [], B, s => rfl
  | t :: A, B, s => by
    rw [List.cons_append, runR]
    conv => rhs; rw [runR]
    split
    · exact run_app A B (stepS s t)
    · rfl
def shI (d : Nat) (x : Int) : Int := x + (d : Int)
def shN (d : Nat) (n : Nd) : Nd := ⟨n.kind, n.tok, n.kids.map (shI d)⟩
/-- the state s read behind a -/
def shR (a s : Rd) : Rd := ⟨a.nodes ++ s.nodes.map (shN a.nodes.length), a.free ++ s.free.map (shI a.nodes.length), s.opened.map fun p => (p.1, p.2 + a.free.length)⟩
theorem sh_zero (a : Rd) (h : a.opened = []) : shR a rd0 = a := by
  obtain ⟨n, f, o⟩ := a
  cases h
  simp [shR, rd0]
theorem sh_E (a s : Rd) (t : Tk) : stepE (shR a s) t = stepE s t := by
  unfold stepE shR
  simp only [List.length_map, List.map_eq_nil_iff]
theorem sh_S (a s : Rd) (t : Tk) : stepS (shR a s) t = shR a (stepS s t) := by
  have hn : ((shR a s).nodes.length : Int) = shI a.nodes.length (s.nodes.length : Int) := by
    unfold shR shI
    simp only [List.length_append, List.length_map]
    omega
  by_cases k1 : t.k = 1
  · unfold stepS
    rw [if_pos k1, if_pos k1]
    unfold shR
    simp only [List.length_append, List.length_map, List.map_append, List.map_cons, List.map_nil]
    rw [Nat.add_comm]
  · by_cases k2 : t.k = 2
    · unfold stepS
      rw [if_neg k1, if_pos k2, if_neg k1, if_pos k2]
      rcases List.eq_nil_or_concat s.opened with e | ⟨O, p, e⟩
      · have e' : (shR a s).opened = [] := by unfold shR; simp [e]
        rw [e, e']
        rfl
      · rw [List.concat_eq_append] at e
        obtain ⟨u, k⟩ := p
        have e' : (shR a s).opened = (O.map fun p => (p.1, p.2 + a.free.length)) ++ [(u, k + a.free.length)] := by unfold shR; simp [e]
        rw [hn, e, e', List.getLast?_concat, List.dropLast_concat, List.getLast?_concat, List.dropLast_concat]
        have hf : (shR a s).free = a.free ++ s.free.map (shI a.nodes.length) := rfl
        have hd : (shR a s).free.drop (k + a.free.length) = (s.free.drop k).map (shI a.nodes.length) := by
          rw [hf, Nat.add_comm, List.drop_append, List.drop_eq_nil_of_le (by omega), Nat.add_sub_cancel_left, List.nil_append, List.map_drop]
        have ht : (shR a s).free.take (k + a.free.length) = a.free ++ (s.free.take k).map (shI a.nodes.length) := by
          rw [hf, Nat.add_comm, List.take_append, List.take_of_length_le (by omega), Nat.add_sub_cancel_left, List.map_take]
        show (⟨_, _, _⟩ : Rd) = ⟨_, _, _⟩
        rw [hd, ht]
        unfold shR
        simp only [List.map_append, List.map_cons, List.map_nil, List.append_assoc]
        rfl
    · unfold stepS
      rw [if_neg k1, if_neg k2, if_neg k1, if_neg k2, hn]
      unfold shR
      simp only [List.map_append, List.map_cons, List.map_nil, List.append_assoc]
      rfl
theorem sh_run (a : Rd) : ∀ (L : List Tk) (s : Rd), runR (shR a s) L = (shR a (runR s L).1, (runR s L).2)
  | [], s => rfl
  | t :: L, s => by
    rw [runR, sh_E, sh_S]
    conv => rhs; rw [runR]
    split
    · exact sh_run a L (stepS s t)
    · rfl
/-- both lists are read: what is read of one behind the other -/
theorem joins_ok {A B : List Tk} {sa sb : Rd} (ha : runR rd0 A = (sa, none)) (ho : sa.opened = []) (hb : runR rd0 B = (sb, none)) : runR rd0 (A ++ B) = (shR sa sb, none) := by
  rw [run_app, ha]
  show runR sa B = _
  have h := sh_run sa B rd0
  rw [sh_zero sa ho, hb] at h
  exact h
theorem joins_opened {sa sb : Rd} (h : sb.opened = []) : (shR sa sb).opened = [] := by unfold shR; simp [h]
/-- the first is at fault: so are both, and so -/
theorem joins_bad {A B : List Tk} {s : Rd} {t : Tk} {x : Int} (h : runR rd0 A = (s, some (t, x))) : runR rd0 (A ++ B) = (s, some (t, x)) := by
  rw [run_app, h]
theorem run_fault : ∀ (L : List Tk) (s st : Rd) (t : Tk) (x : Int), runR s L = (st, some (t, x)) → x ≠ 0
  | [], s, st, t, x, h => by rw [runR] at h; injection h with _ h; cases h
  | u :: L, s, st, t, x, h => by
    rw [runR] at h
    split at h
    · exact run_fault L _ st t x h
    · injection h with h1 h2
      injection h2 with h2
      injection h2 with h3 h4
      rw [← h4]; assumption
end Go.Proofs.YtpkdiciinhjfjaaDoor

/- SexpJoins: the walk. -/
namespace Go.Proofs.YtpkdiciinhjfjaaDoor
open Go.RowKit Mth

/-- append(xs, ys...) of tokens to a row of the call's own -/
theorem append_tksL {w : World} {ops : Array Oper} {rest : List Oper} {o : Oper} {a : Act} {Q : Exit → Act → World → Prop} (hgd : o.guard = none) (s x : Operand)
    (ho : o.op = .call { callee := .builtin .append, args := #[s, x], argTypes := #[38, 38] }) (base : Nat) (v u : Value) (xs ys : List Tk)
    (hs : a.eval s = v) (hx : a.eval x = u) (hown : w.ownsRow base 34 5 v xs.length (tksCells xs)) (hu : TkL w u ys) (hlen : xs.length + ys.length ≤ 1048576) (hbase : base ≤ w.heap.size)
    (h : ∀ v' w', w'.ownsRow base 34 5 v' (xs ++ ys).length (tksCells (xs ++ ys)) → w.grownBy w' v.ownBlock → (v'.ownBlock = v.ownBlock ∨ v'.ownBlock = some w.heap.size) → wpList Tryd.prog ops Q rest (a.put o.dst v') w') : wpList Tryd.prog ops Q (o :: rest) a w := by
  obtain ⟨i0, hi, hz0, hz1, hz2⟩ := info_parts info_tok
  obtain ⟨ao, cap, rfl, hc⟩ := hu
  cases ao with
  | none =>
    have h0 : ys = [] := by
      rcases Classical.em (ys = []) with h0 | h0
      · exact h0
      · obtain ⟨b, off, e, _⟩ := hc h0
        cases e
    subst h0
    obtain ⟨so, scap, rfl⟩ := own_len hown
    refine Lib.wpList_append_run_sl w hgd s x 38 ho _ _ hs hx (run_append_nothing w 38 38 o.type 34 i0 Tryd.underlying38 hi so xs.length scap (own_cap hown) _ (Src.ofNil w Tryd.underlying38 cap)) ?_
    refine h _ _ ?_ (World.grownBy.refl _ _) (.inl rfl)
    rw [List.append_nil]; exact hown
  | some ad =>
    refine wpList_append_own_at w hgd s x 38 ho base 34 i0 _ 5 48 Tryd.underlying38 hi hz0 hz1 hz2 rfl (by decide) v _ _ hs hown ad ys.length cap (tksCells ys) hx (by rw [tks_len, Nat.mul_comm]) ?_ ?_
      (by unfold maxLen; omega) (by omega) hbase ?_
    · intro j y hj
      have hjl : 0 < ys.length := by
        have := (List.getElem?_eq_some_iff.1 hj).1
        rw [tks_len] at this; omega
      obtain ⟨b, off, e, _, hcc⟩ := hc (fun e => by rw [e] at hjl; simp at hjl)
      obtain rfl := Option.some.inj e
      rw [Addr.add_lit]
      exact hcc j _ hj
    · intro y hy
      obtain ⟨t, _, ht⟩ := List.mem_flatMap.1 hy
      simp [tkCells] at ht
      rcases ht with rfl | rfl | rfl | rfl | rfl <;> rfl
    · intro v' w' h2 h3 _ h5
      refine h v' w' ?_ h3 h5
      rw [tks_app, List.length_append]
      exact h2
/-- what Parse answers, in one form -/
noncomputable def errR (L : List Tk) : Int := match (runR rd0 L).2 with | some p => p.2 | none => if (runR rd0 L).1.opened = [] then 0 else 71
noncomputable def ndsR (L : List Tk) : List Nd := if errR L = 0 then (runR rd0 L).1.nodes else []
noncomputable def frR (L : List Tk) : List Int := if errR L = 0 then (runR rd0 L).1.free else []
/-- Parse's answer in one form, with its lengths named -/
def UniO (w' : World) (L : List Tk) (e : Ending) : Prop := ∃ na n nc fa m fc l c x, e = .returned (.tuple #[.slice na n nc, .slice fa m fc, .int .i64 l, .int .i64 c, .int .i64 x]) ∧ n = (ndsR L).length ∧ m = (frR L).length ∧ x = errR L ∧ n ≤ nc ∧ SxL w' (.slice na n nc) (ndsR L) ∧ InL w' (.slice fa m fc) (frR L)
theorem parse_uni {w w' : World} {L : List Tk} {e : Ending} (h : ParseO w w' L e) : UniO w' L e := by
  obtain ⟨_, ⟨st, t, x, h1, rfl⟩ | ⟨st, t, k, h1, h2, rfl⟩ | ⟨st, nv, fv, ov, N, h1, h2, h3, h4, h5, rfl⟩⟩ := h
  · have hx := fault_ne h1
    have he : errR L = x := by unfold errR; rw [h1]
    have hn : ndsR L = [] := by unfold ndsR; rw [he, if_neg hx]
    have hf : frR L = [] := by unfold frR; rw [he, if_neg hx]
    unfold UniO
    rw [he, hn, hf]
    exact ⟨none, 0, 0, none, 0, 0, _, _, _, rfl, rfl, rfl, rfl, Nat.le_refl _, SxL.nil _, InL.nil _⟩
  · have he : errR L = 71 := by
      unfold errR; rw [h1]
      exact if_neg (fun e => by rw [show st.opened = [] from e] at h2; cases h2)
    have hn : ndsR L = [] := by unfold ndsR; rw [he, if_neg (by decide)]
    have hf : frR L = [] := by unfold frR; rw [he, if_neg (by decide)]
    unfold UniO
    rw [he, hn, hf]
    exact ⟨none, 0, 0, none, 0, 0, _, _, _, rfl, rfl, rfl, rfl, Nat.le_refl _, SxL.nil _, InL.nil _⟩
  · have he : errR L = 0 := by unfold errR; rw [h1]; exact if_pos h2
    have hn : ndsR L = st.nodes := by unfold ndsR; rw [he, if_pos rfl, h1]
    have hf : frR L = st.free := by unfold frR; rw [he, if_pos rfl, h1]
    have hs := h4.sx
    have ho := h4.nodes
    have hl : st.nodes.length = N.length := by rw [← h5, List.length_map]
    rw [h5] at hs
    have hi := own_inL h4.free
    obtain ⟨na, nc, rfl⟩ := hs.shape
    obtain ⟨fa, fc, rfl⟩ := hi.shape
    rw [hl] at ho
    have hc := own_cap ho
    unfold UniO
    rw [he, hn, hf]
    exact ⟨na, _, nc, fa, _, fc, 0, 0, _, rfl, rfl, rfl, rfl, by rw [hl]; exact hc, hs, hi⟩
/-- the nodes of the second behind those of the first -/
theorem two_at {w : World} {ao : Option Addr} {n cap d k i : Nat} {TA TB : List Nd} (h : SxL w (.slice ao n cap) (TA ++ TB.map (shN d))) (hd : d = TA.length) (hk : k = d + i) (hi : i < TB.length) : ∃ b off ka kc, ao = some ⟨b, off, none⟩ ∧ b < w.heap.size ∧
    w.cell? ⟨b, off + k * 7, none⟩ = some (.int .i64 TB[i].kind) ∧ w.cell? ⟨b, off + k * 7 + 1, none⟩ = some (.int .i64 TB[i].tok.k) ∧ w.cell? ⟨b, off + k * 7 + 2, none⟩ = some (.string TB[i].tok.t) ∧ w.cell? ⟨b, off + k * 7 + 3, none⟩ = some (.bool TB[i].tok.q) ∧
    w.cell? ⟨b, off + k * 7 + 4, none⟩ = some (.int .i64 TB[i].tok.l) ∧ w.cell? ⟨b, off + k * 7 + 5, none⟩ = some (.int .i64 TB[i].tok.c) ∧ w.cell? ⟨b, off + k * 7 + 6, none⟩ = some (.slice ka TB[i].kids.length kc) ∧ InL w (.slice ka TB[i].kids.length kc) (TB[i].kids.map (shI d)) := by
  have hkl : k < (TA ++ TB.map (shN d)).length := by rw [List.length_append, List.length_map]; omega
  obtain ⟨b, off, ka, kc, h1, h2, c0, c1, c2, c3, c4, c5, c6, c7⟩ := h.at hkl
  have e : (TA ++ TB.map (shN d))[k] = shN d TB[i] := by
    rw [List.getElem_append_right (by omega), List.getElem_map]
    congr 1
    have : k - TA.length = i := by omega
    simp only [this]
  rw [e] at c0 c1 c2 c3 c4 c5 c6 c7
  have el : (shN d TB[i]).kids.length = TB[i].kids.length := by show (List.map _ _).length = _; rw [List.length_map]
  rw [el] at c6 c7
  exact ⟨b, off, ka, kc, h1, h2, c0, c1, c2, c3, c4, c5, c6, c7⟩
theorem err_bad {A B : List Tk} (h : errR A ≠ 0) (h' : errR A ≠ 71) : errR (A ++ B) = errR A := by
  rcases hr : runR rd0 A with ⟨s, _ | ⟨t, x⟩⟩
  · unfold errR at h h'
    rw [hr] at h h'
    dsimp only at h h'
    split at h
    · exact absurd rfl h
    · rename_i hh; rw [if_neg hh] at h'; exact absurd rfl h'
  · unfold errR
    rw [joins_bad hr, hr]
/-- two lists that are read -/
structure TwoR (A B : List Tk) : Prop where
  err : errR (A ++ B) = 0
  nds : ndsR (A ++ B) = ndsR A ++ (ndsR B).map (shN (ndsR A).length)
  fr : frR (A ++ B) = frR A ++ (frR B).map (shI (ndsR A).length)
  kids : ∀ i (h : i < (ndsR B).length), ∀ x ∈ (ndsR B)[i].kids, 0 ≤ x ∧ x < (i : Int)
  free : ∀ x ∈ frR B, 0 ≤ x ∧ x < ((ndsR B).length : Int)
  lens : (ndsR A).length ≤ A.length ∧ (frR A).length ≤ A.length ∧ (ndsR B).length ≤ B.length ∧ (frR B).length ≤ B.length
  klen : ∀ i (h : i < (ndsR A).length), (ndsR A)[i].kids.length ≤ A.length
  klenB : ∀ i (h : i < (ndsR B).length), (ndsR B)[i].kids.length ≤ B.length
theorem err_zero {A : List Tk} (h : errR A = 0) : ∃ s, runR rd0 A = (s, none) ∧ s.opened = [] ∧ ndsR A = s.nodes ∧ frR A = s.free := by
  rcases hr : runR rd0 A with ⟨s, _ | ⟨t, x⟩⟩
  · refine ⟨s, rfl, ?_, by unfold ndsR; rw [if_pos h, hr], by unfold frR; rw [if_pos h, hr]⟩
    unfold errR at h
    rw [hr] at h
    dsimp only at h
    split at h
    · assumption
    · cases h
  · unfold errR at h
    rw [hr] at h
    exact absurd h (fault_ne hr)
theorem rdb_run : ∀ (L : List Tk) {s st : Rd} {m : Nat}, runR s L = (st, none) → RdB s m → RdB st (m + L.length)
  | [], s, st, m, h, hb => by
    rw [runR] at h
    injection h with h _
    subst h; exact hb
  | t :: L, s, st, m, h, hb => by
    rw [runR] at h
    split at h
    · have := rdb_run L h (rdb_step hb ‹_›)
      rw [List.length_cons, show m + (L.length + 1) = m + 1 + L.length by omega]
      exact this
    · injection h with _ h; cases h
theorem kids_lenj {s : Rd} {j i : Nat} (h : RdO s j) (hi : i < s.nodes.length) : s.nodes[i].kids.length ≤ s.nodes.length := by
  have h1 := h.perm.length_eq
  have h2 : (rngI s.nodes.length).length = s.nodes.length := by unfold rngI; simp
  have h3 : s.nodes[i].kids.length ≤ (s.nodes.flatMap Nd.kids).length := (List.sublist_flatten_of_mem (List.mem_map.2 ⟨_, List.getElem_mem hi, rfl⟩)).length_le
  unfold seqQ at h1
  rw [List.length_append] at h1
  omega
theorem two_r {A B : List Tk} (ha : errR A = 0) (hb : errR B = 0) : TwoR A B := by
  obtain ⟨sa, a1, a2, a3, a4⟩ := err_zero ha
  obtain ⟨sb, b1, b2, b3, b4⟩ := err_zero hb
  have hj := joins_ok a1 a2 b1
  have hjo := joins_opened (sa := sa) b2
  have he : errR (A ++ B) = 0 := by unfold errR; rw [hj]; exact if_pos hjo
  have oa := rdo_run A a1 rdo0 rdb0
  have ob := rdo_run B b1 rdo0 rdb0
  have ba := rdb_run A a1 rdb0
  have bb := rdb_run B b1 rdb0
  rw [Nat.zero_add] at ba bb
  have hn : ndsR (A ++ B) = (shR sa sb).nodes := by unfold ndsR; rw [if_pos he, hj]
  have hf : frR (A ++ B) = (shR sa sb).free := by unfold frR; rw [if_pos he, hj]
  refine ⟨he, ?_, ?_, ?_, ?_, ?_, ?_, ?_⟩
  · rw [hn, a3, b3]; rfl
  · rw [hf, a3, a4, b4]; rfl
  · rw [b3]; exact ob.kids
  · rw [b3, b4]; exact fun x hx => ob.free_lt hx
  · rw [a3, b3, b4, a4]; exact ⟨ba.nodes, ba.free, bb.nodes, bb.free⟩
  · rw [a3]; intro i h
    exact Nat.le_trans (kids_lenj oa h) ba.nodes
  · rw [b3]; intro i h
    exact Nat.le_trans (kids_lenj ob h) bb.nodes
theorem SxL.take {w : World} {ao : Option Addr} {n cap k cap' : Nat} {L : List Nd} (h : SxL w (.slice ao n cap) L) (hk : k ≤ L.length) : SxL w (.slice ao k cap') (L.take k) := by
  obtain ⟨ao', cap'', e, hc⟩ := h
  simp only [Value.slice.injEq] at e
  obtain ⟨rfl, -, -⟩ := e
  refine ⟨ao, cap', by rw [List.length_take, Nat.min_eq_left hk], fun hne => ?_⟩
  obtain ⟨b, off, e, hb, hcc⟩ := hc (fun e => by rw [e] at hne; simp at hne)
  refine ⟨b, off, e, hb, fun i nd hi => hcc i nd ?_⟩
  rw [List.getElem?_take] at hi
  split at hi
  · exact hi
  · cases hi
theorem InL.get {w : World} {ao : Option Addr} {n cap : Nat} {l : List Int} (h : InL w (.slice ao n cap) l) {j : Nat} (hj : j < l.length) : ∃ b off, ao = some ⟨b, off, none⟩ ∧ b < w.heap.size ∧ w.cell? ⟨b, off + j, none⟩ = some (.int .i64 l[j]) := by
  obtain ⟨ao', cap', e, hc⟩ := h
  simp only [Value.slice.injEq] at e
  obtain ⟨rfl, -, -⟩ := e
  obtain ⟨b, off, e, hb, hcc⟩ := hc (fun e => by rw [e] at hj; simp at hj)
  exact ⟨b, off, e, hb, hcc j _ (List.getElem?_eq_getElem hj)⟩
end Go.Proofs.YtpkdiciinhjfjaaDoor

/- SexpJoins: the walk. -/
namespace Go.Proofs.YtpkdiciinhjfjaaDoor
open Go.RowKit Mth

/-- Parse's answer, its lengths given -/
def UniN (w' : World) (T : List Nd) (F : List Int) (n m : Nat) (x : Int) (e : Ending) : Prop := ∃ na nc fa fc l c, e = .returned (.tuple #[.slice na n nc, .slice fa m fc, .int .i64 l, .int .i64 c, .int .i64 x]) ∧ n ≤ nc ∧ SxL w' (.slice na n nc) T ∧ InL w' (.slice fa m fc) F
/-- what the two walks are given -/
structure JoI (w : World) (va vb : Value) (A B : List Tk) (TA TB TN : List Nd) (FA FB FN : List Int) (n m n6 m6 n7 m7 : Nat) (ea eb en : Int) : Prop where
  a : ∀ W, Below w.heap.size w W → Calls Tryd.prog 9 #[va] W fun e w' => UniN w' TA FA n m ea e ∧ Below W.heap.size W w'
  b : ∀ W, Below w.heap.size w W → Calls Tryd.prog 9 #[vb] W fun e w' => UniN w' TB FB n6 m6 eb e ∧ Below W.heap.size W w'
  n : ∀ W v, Below w.heap.size w W → TkL W v (A ++ B) → Calls Tryd.prog 9 #[v] W fun e w' => UniN w' TN FN n7 m7 en e ∧ Below W.heap.size W w'
  al : ∀ W, Below w.heap.size w W → Calls Tryd.prog 6 #[] W fun e w' => e = .returned (.bool true) ∧ Below W.heap.size W w'
  ta : TkL w va A
  tb : TkL w vb B
  len : A.length + B.length ≤ 1048576
set_option maxHeartbeats 32000000 in
set_option maxRecDepth 100000 in
theorem joins_sad (w : World) (va vb : Value) (A B : List Tk) (TA TB TN : List Nd) (FA FB FN : List Int) (n m n6 m6 n7 m7 : Nat) (ea eb en : Int) (hJ : JoI w va vb A B TA TB TN FA FB FN n m n6 m6 n7 m7 ea eb en) (h : (ea = 0 ∧ eb ≠ 0) ∨ (ea ≠ 0 ∧ ea = 71) ∨ (ea ≠ 0 ∧ ea ≠ 71 ∧ en = ea)) :
    Calls Tryd.prog 4 #[va, vb] w fun e w' => e = .returned (.bool true) ∧ Below w.heap.size w w' := by
  have J := Lib.hid hJ; have H := Lib.hid h
  have HA := Lib.hid hJ.ta; have HB := Lib.hid hJ.tb
  have hlen := hJ.len
  obtain ⟨aoa, capa, rfl, -⟩ := hJ.ta
  obtain ⟨aob, capb, rfl, -⟩ := hJ.tb
  clear hJ h
  go_enter Tryd.func4, Tryd.ntmps4
  go_wp2_with (first | (at_builtin; refine append_tksL rfl _ _ rfl w.heap.size (.slice none 0 0) _ [] A rfl rfl (World.ownsRow_nil _ _ _ _) HA.out (by simp; omega) (Nat.le_refl _) ?_; intro v3 w3 hown3 hgr3 hor3; rw [List.nil_append] at hown3; obtain ⟨ao3, n3, cap3, rfl⟩ := own_slc hown3; have HO3 := Lib.hid hown3; have B3 := Lib.hid ((Keeps.of_grown hgr3).below (Nat.le_refl _) (fun b hb => by simp [Value.ownBlock])); clear hown3 hgr3 hor3) | (at_builtin; refine append_tksL rfl _ _ rfl w.heap.size (.slice ao3 n3 cap3) _ A B rfl rfl HO3.out (HB.out.below B3.out) hlen B3.out.size ?_; intro v4 w4 hown4 hgr4 hor4; obtain ⟨ao4, n4, cap4, rfl⟩ := own_slc hown4; have HO4 := Lib.hid (TkL.own hown4); have B4 := Lib.hid (B3.out.trans ((Keeps.of_grown hgr4).below B3.out.size (fun b hb e => by have := (HO3.out.lt b e).1; omega))); clear hown4 hgr4 hor4))
  refine (J.out.a _ B4.out).mono ?_
  rintro e w5 ⟨⟨na, nc, fa, fc, l5, c5, rfl, -, -, -⟩, hb5⟩
  have B5 := Lib.hid (belowT B4.out hb5)
  have HO5 := Lib.hid (HO4.out.below hb5)
  clear hb5 HO4
  go_wp2_with fail
  refine (J.out.b _ B5.out).mono ?_
  rintro e w6 ⟨⟨na6, nc6, fa6, fc6, l6, c6, rfl, -, -, -⟩, hb6⟩
  have B6 := Lib.hid (belowT B5.out hb6)
  have HO6 := Lib.hid (HO5.out.below hb6)
  clear hb6 HO5
  go_wp2_with fail
  refine (J.out.n _ _ B6.out HO6.out).mono ?_
  rintro e w7 ⟨⟨na7, nc7, fa7, fc7, l7, c7, rfl, -, -, -⟩, hb7⟩
  have B7 := Lib.hid (belowT B6.out hb7)
  have AL7 := Lib.hid (J.out.al _ B7.out)
  clear hb7 HO6 HO3 HA HB J B3 B4 B5 B6
  obtain ⟨d1, h1⟩ | ⟨d1, h1⟩ | ⟨d1, h1, hee⟩ := H.out
  · have d2 : (ea != 0) = false := by rw [d1]; rfl
    have d3 : (eb != 0) = true := bne_iff_ne.2 h1
    have d4 : (ea == 0) = true := by rw [d1]; rfl
    clear d1 h1 H
    go_wp2_with fail
    refine AL7.out.mono ?_
    rintro e w8 ⟨rfl, hb8⟩
    have B8 := Lib.hid (belowT B7.out hb8)
    clear hb8
    go_wp2
    go_ret
    exact ⟨rfl, B8.out⟩
  · have d2 : (ea != 0) = true := bne_iff_ne.2 d1
    have d3 : (ea == 0) = false := beq_eq_false_iff_ne.2 d1
    have d4 : (ea == 71) = true := by rw [h1]; rfl
    clear d1 h1 H
    go_wp2_with fail
    refine AL7.out.mono ?_
    rintro e w8 ⟨rfl, hb8⟩
    have B8 := Lib.hid (belowT B7.out hb8)
    clear hb8
    go_wp2
    go_ret
    exact ⟨rfl, B8.out⟩
  · have d2 : (ea != 0) = true := bne_iff_ne.2 d1
    have d3 : (ea == 0) = false := beq_eq_false_iff_ne.2 d1
    have d4 : (ea == 71) = false := beq_eq_false_iff_ne.2 h1
    have d5 : (en == ea) = true := by rw [hee]; exact beq_self_eq_true _
    clear d1 h1 H hee
    go_wp2_with fail
    refine AL7.out.mono ?_
    rintro e w8 ⟨rfl, hb8⟩
    have B8 := Lib.hid (belowT B7.out hb8)
    clear hb8
    go_wp2
    go_ret
    exact ⟨rfl, B8.out⟩
end Go.Proofs.YtpkdiciinhjfjaaDoor
