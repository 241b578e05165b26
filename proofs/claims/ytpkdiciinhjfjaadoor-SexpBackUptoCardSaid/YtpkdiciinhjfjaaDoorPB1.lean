/- PZA PZB. -/
import Derived.Test.YtpkdiciinhjfjaaDoorPG6
import Derived.Deep.QuietTactic
import Derived.BigQuiet
set_option linter.unusedVariables false
set_option linter.unusedSimpArgs false
/- SexpOnce: mathematics. -/
namespace Go.Proofs.YtpkdiciinhjfjaaDoor
open Go.RowKit Mth

/-- all numbers that stand somewhere: on the stack, or as kids -/
def seqQ (s : Rd) : List Int := s.free ++ s.nodes.flatMap Nd.kids
def rngI (n : Nat) : List Int := (List.range n).map fun i : Nat => (i : Int)
def atomsN (l : List Nd) : Nat := l.countP fun nd => decide (nd.kind = 1)
theorem atoms_le (l : List Nd) : atomsN l ≤ l.length := List.countP_le_length
structure RdO (s : Rd) (j : Nat) : Prop where
  perm : (seqQ s).Perm (rngI s.nodes.length)
  inc : s.free.Pairwise (· < ·)
  kids : ∀ i (h : i < s.nodes.length), ∀ x ∈ s.nodes[i].kids, 0 ≤ x ∧ x < (i : Int)
  cnt : atomsN s.nodes + 2 * (s.nodes.length - atomsN s.nodes) + s.opened.length = j
theorem rngI_succ (n : Nat) : rngI (n + 1) = rngI n ++ [(n : Int)] := by unfold rngI; rw [List.range_succ, List.map_append]; rfl
theorem mem_rngI {n : Nat} {x : Int} (h : x ∈ rngI n) : 0 ≤ x ∧ x < (n : Int) := by
  obtain ⟨i, hi, rfl⟩ := List.mem_map.1 h
  have := List.mem_range.1 hi
  omega
theorem nodup_rngI (n : Nat) : (rngI n).Nodup := by
  unfold rngI
  rw [List.nodup_iff_pairwise_ne, List.pairwise_map]
  exact List.nodup_range.imp (fun h e => h (Int.ofNat.inj e))
theorem RdO.free_lt {s : Rd} {j : Nat} (h : RdO s j) {x : Int} (hx : x ∈ s.free) : 0 ≤ x ∧ x < (s.nodes.length : Int) := mem_rngI (h.perm.mem_iff.1 (List.mem_append_left _ hx))
theorem rdo0 : RdO rd0 0 := ⟨List.Perm.refl _, List.Pairwise.nil, fun i h => absurd h (Nat.not_lt_zero _), rfl⟩
theorem kids_snoc {l : List Nd} {nd : Nd} (h : ∀ i (h : i < l.length), ∀ x ∈ l[i].kids, 0 ≤ x ∧ x < (i : Int)) (hn : ∀ x ∈ nd.kids, 0 ≤ x ∧ x < (l.length : Int)) : ∀ i (h : i < (l ++ [nd]).length), ∀ x ∈ (l ++ [nd])[i].kids, 0 ≤ x ∧ x < (i : Int) := by
  intro i hi x hx
  rw [List.length_append, List.length_singleton] at hi
  by_cases e : i < l.length
  · rw [List.getElem_append_left e] at hx; exact h i e x hx
  · obtain rfl : i = l.length := by omega
    rw [List.getElem_append_right (Nat.le_refl _)] at hx
    simp at hx
    exact hn x hx
theorem rdo_step {s : Rd} {t : Tk} {j m : Nat} (h : RdO s j) (hb : RdB s m) (he : stepE s t = 0) : RdO (stepS s t) (j + 1) := by
  have hfl := fun {x} => h.free_lt (x := x)
  obtain ⟨h1, h2, h3, h4⟩ := h
  have hal := atoms_le s.nodes
  have hg : Good t := by
    rcases Classical.em (Good t) with hg | hg
    · exact hg
    · unfold stepE at he; rw [if_pos hg] at he; cases he
  unfold stepE at he
  rw [if_neg (not_not_intro hg)] at he
  unfold stepS
  by_cases k1 : t.k = 1
  · rw [if_pos k1]
    refine ⟨h1, h2, h3, ?_⟩
    show atomsN s.nodes + 2 * (s.nodes.length - atomsN s.nodes) + (s.opened ++ [(t, s.free.length)]).length = j + 1
    rw [List.length_append]; simp; omega
  · rw [if_neg k1] at he ⊢
    by_cases k2 : t.k = 2
    · rw [if_pos k2] at he ⊢
      rcases List.eq_nil_or_concat s.opened with e | ⟨O, p, e⟩
      · rw [if_pos e] at he; cases he
      · rw [List.concat_eq_append] at e
        rw [e, List.getLast?_concat, List.dropLast_concat]
        obtain ⟨u, k⟩ := p
        rw [e, List.length_append] at h4
        have hk : k ≤ s.free.length := hb.le (u, k) (by rw [e]; simp)
        refine ⟨?_, ?_, kids_snoc h3 (fun x hx => hfl (List.mem_of_mem_drop hx)), ?_⟩
        · show ((s.free.take k ++ [(s.nodes.length : Int)]) ++ (s.nodes ++ [(⟨2, u, s.free.drop k⟩ : Nd)]).flatMap Nd.kids).Perm (rngI (s.nodes ++ [(⟨2, u, s.free.drop k⟩ : Nd)]).length)
          rw [List.flatMap_append, List.length_append, List.length_singleton, rngI_succ]
          have e1 : [(⟨2, u, s.free.drop k⟩ : Nd)].flatMap Nd.kids = s.free.drop k := by simp
          rw [e1]
          have e2 : seqQ s = s.free.take k ++ (s.free.drop k ++ s.nodes.flatMap Nd.kids) := by unfold seqQ; rw [← List.append_assoc, List.take_append_drop]
          rw [e2] at h1
          refine List.Perm.trans ?_ (h1.append_right _)
          rw [List.append_assoc, List.append_assoc]
          refine List.Perm.append_left _ ?_
          show (((s.nodes.length : Int)) :: (s.nodes.flatMap Nd.kids ++ s.free.drop k)).Perm _
          refine List.Perm.trans ?_ (List.perm_append_comm (l₁ := [(s.nodes.length : Int)]) (l₂ := s.free.drop k ++ s.nodes.flatMap Nd.kids))
          exact List.Perm.cons _ List.perm_append_comm
        · show (s.free.take k ++ [(s.nodes.length : Int)]).Pairwise (· < ·)
          refine List.pairwise_append.2 ⟨h2.sublist (List.take_sublist _ _), List.pairwise_singleton _ _, fun a ha b hb => ?_⟩
          obtain rfl := List.mem_singleton.1 hb
          exact (hfl (List.mem_of_mem_take ha)).2
        · show atomsN (s.nodes ++ [(⟨2, u, s.free.drop k⟩ : Nd)]) + 2 * ((s.nodes ++ [(⟨2, u, s.free.drop k⟩ : Nd)]).length - atomsN (s.nodes ++ [(⟨2, u, s.free.drop k⟩ : Nd)])) + O.length = j + 1
          have ea : atomsN (s.nodes ++ [(⟨2, u, s.free.drop k⟩ : Nd)]) = atomsN s.nodes := by unfold atomsN; rw [List.countP_append]; simp
          rw [ea, List.length_append]
          simp only [List.length_singleton] at h4 ⊢
          omega
    · rw [if_neg k2]
      refine ⟨?_, ?_, kids_snoc h3 (fun x hx => by cases hx), ?_⟩
      · show ((s.free ++ [(s.nodes.length : Int)]) ++ (s.nodes ++ [(⟨1, t, []⟩ : Nd)]).flatMap Nd.kids).Perm (rngI (s.nodes ++ [(⟨1, t, []⟩ : Nd)]).length)
        rw [List.flatMap_append, List.length_append, List.length_singleton, rngI_succ]
        have e1 : [(⟨1, t, []⟩ : Nd)].flatMap Nd.kids = [] := by simp
        rw [e1, List.append_nil]
        refine List.Perm.trans ?_ (h1.append_right _)
        unfold seqQ
        rw [List.append_assoc, List.append_assoc]
        exact List.Perm.append_left _ List.perm_append_comm
      · show (s.free ++ [(s.nodes.length : Int)]).Pairwise (· < ·)
        refine List.pairwise_append.2 ⟨h2, List.pairwise_singleton _ _, fun a ha b hb => ?_⟩
        obtain rfl := List.mem_singleton.1 hb
        exact (hfl ha).2
      · show atomsN (s.nodes ++ [(⟨1, t, []⟩ : Nd)]) + 2 * ((s.nodes ++ [(⟨1, t, []⟩ : Nd)]).length - atomsN (s.nodes ++ [(⟨1, t, []⟩ : Nd)])) + s.opened.length = j + 1
        have ea : atomsN (s.nodes ++ [(⟨1, t, []⟩ : Nd)]) = atomsN s.nodes + 1 := by unfold atomsN; rw [List.countP_append]; simp
        rw [ea, List.length_append]
        simp only [List.length_singleton]
        omega
theorem rdo_run : ∀ (L : List Tk) {s st : Rd} {j m : Nat}, runR s L = (st, none) → RdO s j → RdB s m → RdO st (j + L.length)
  | [], s, st, j, m, h, ho, _ => by
    rw [runR] at h
    injection h with h _
    subst h; exact ho
  | t :: L, s, st, j, m, h, ho, hb => by
    rw [runR] at h
    split at h
    · have := rdo_run L h (rdo_step ho hb ‹_›) (rdb_step hb ‹_›)
      rw [List.length_cons, show j + (L.length + 1) = j + 1 + L.length by omega]
      exact this
    · injection h with _ h; cases h
/-- counts of a row of numbers -/
def bump (m : List Int) (x : Int) : List Int := m.set x.toNat ((m[x.toNat]?).getD 0 + 1)
def tmOf (n : Nat) (P : List Int) : List Int := P.foldl bump (List.replicate n 0)
theorem tm_snoc (n : Nat) (P : List Int) (x : Int) : tmOf n (P ++ [x]) = bump (tmOf n P) x := by unfold tmOf; rw [List.foldl_append]; rfl
theorem bump_len (m : List Int) (x : Int) : (bump m x).length = m.length := List.length_set
theorem tm_get (n : Nat) : ∀ (k : Nat) (P : List Int), P.length = k → (∀ x ∈ P, 0 ≤ x ∧ x < (n : Int)) → (tmOf n P).length = n ∧ ∀ y, y < n → (tmOf n P)[y]? = some ((P.count (y : Int) : Nat) : Int)
  | 0, P, hk, _ => by
    obtain rfl := List.eq_nil_of_length_eq_zero hk
    refine ⟨by simp [tmOf], fun y hy => ?_⟩
    show (List.replicate n (0 : Int))[y]? = _
    rw [List.getElem?_replicate, if_pos hy]; rfl
  | k + 1, P, hk, h => by
    rcases List.eq_nil_or_concat P with rfl | ⟨Q, x, rfl⟩
    · cases hk
    · rw [List.concat_eq_append] at hk h ⊢
      rw [List.length_append, List.length_singleton] at hk
      obtain ⟨ih1, ih2⟩ := tm_get n k Q (by omega) (fun y hy => h y (List.mem_append_left _ hy))
      have hx := h x (by simp)
      rw [tm_snoc]
      refine ⟨by rw [bump_len, ih1], fun y hy => ?_⟩
      unfold bump
      rw [List.count_append]
      by_cases e : x.toNat = y
      · have ex : x = (y : Int) := by omega
        rw [e, List.getElem?_set_self (by rw [ih1]; exact hy), ih2 y hy, Option.getD_some, ex]
        simp
      · rw [List.getElem?_set_ne e, ih2 y hy]
        have : List.count (y : Int) [x] = 0 := List.count_eq_zero.2 (by simp; omega)
        rw [this]; rfl
/-- behind all of them each count is one -/
theorem tm_one {s : Rd} {j : Nat} (h : RdO s j) {y : Nat} (hy : y < s.nodes.length) : (seqQ s).count (y : Int) = 1 := by
  have hc := h.perm.count_eq (y : Int)
  rw [hc]
  refine Nat.le_antisymm (List.nodup_iff_count.1 (nodup_rngI _) _) (List.count_pos_iff.2 ?_)
  exact List.mem_map.2 ⟨y, List.mem_range.2 hy, rfl⟩
theorem seq_lt {s : Rd} {j : Nat} (h : RdO s j) : ∀ x ∈ seqQ s, 0 ≤ x ∧ x < (s.nodes.length : Int) := fun x hx => mem_rngI (h.perm.mem_iff.1 hx)
theorem count_pre {P Q : List Int} (h : P <+: Q) (y : Int) : P.count y ≤ Q.count y := h.sublist.count_le y
end Go.Proofs.YtpkdiciinhjfjaaDoor

/- SexpOnce: the walk. -/
namespace Go.Proofs.YtpkdiciinhjfjaaDoor
open Go.RowKit Mth

theorem bump_set {n : Nat} {P : List Int} {y : Nat} {x : Int} (hx : x = (y : Int)) : tmOf n (P ++ [x]) = (tmOf n P).set y (((tmOf n P)[y]?).getD 0 + 1) := by
  rw [tm_snoc]; unfold bump
  rw [show x.toNat = y by omega]
/-- what the law's loops have: a prefix of all numbers was counted -/
def OnI (w wr : World) (g n : Nat) (P : List Int) : Prop := IlW wr g (tmOf n P) ∧ Below w.heap.size w wr
theorem OnI.at {w wr : World} {g n y : Nat} {P Q : List Int} (h : OnI w wr g n P) (hp : P <+: Q) (hQ : ∀ x ∈ Q, 0 ≤ x ∧ x < (n : Int)) (h1 : Q.count (y : Int) = 1) (hy : y < n) :
    wr.cell? ⟨g, y, none⟩ = some (.int .i64 ((P.count (y : Int) : Nat) : Int)) ∧ wr.frozen? ⟨g, y, none⟩ = false ∧ P.count (y : Int) ≤ 1 := by
  obtain ⟨h1', h2'⟩ := tm_get n P.length P rfl (fun x hx => hQ x (hp.subset hx))
  have hyl : y < (tmOf n P).length := by rw [h1']; exact hy
  obtain ⟨c, f⟩ := h.1.at hyl
  have := h2' y hy
  rw [List.getElem?_eq_getElem hyl] at this
  rw [Option.some.inj this] at c
  exact ⟨c, f, by rw [← h1]; exact count_pre hp _⟩
theorem OnI.step {w wr : World} {g n y : Nat} {P : List Int} {x : Int} (h : OnI w wr g n P) (hP : ∀ x ∈ P, 0 ≤ x ∧ x < (n : Int)) (hx : x = (y : Int)) (hy : y < n) (hg : w.heap.size ≤ g) : OnI w (wr.setCell ⟨g, y, none⟩ (.int .i64 (((P.count (y : Int) : Nat) : Int) + 1))) g n (P ++ [x]) := by
  obtain ⟨h1', h2'⟩ := tm_get n P.length P rfl hP
  refine ⟨?_, h.2.setCell hg _⟩
  rw [bump_set hx, h2' y hy, Option.getD_some]
  exact h.1.set
theorem OnI.drewN {w wr : World} {g n m : Nat} {P : List Int} (h : OnI w wr g n P) : OnI w (wr.drewN m) g n P := ⟨h.1.keeps (Keeps.of_below (below_drewN (Below.refl _ _) m)) trivial, below_drewN h.2 m⟩
theorem take_snoc' {l : List Int} {i : Nat} (h : i < l.length) : l.take (i + 1) = l.take i ++ [l[i]] := List.take_succ_eq_append_getElem h
theorem kids_len {s : Rd} {j i : Nat} (h : RdO s j) (hi : i < s.nodes.length) : s.nodes[i].kids.length ≤ s.nodes.length := by
  have h1 := h.perm.length_eq
  have h2 : (rngI s.nodes.length).length = s.nodes.length := by unfold rngI; simp
  have h3 : s.nodes[i].kids.length ≤ (s.nodes.flatMap Nd.kids).length := (List.sublist_flatten_of_mem (List.mem_map.2 ⟨_, List.getElem_mem hi, rfl⟩)).length_le
  unfold seqQ at h1
  rw [List.length_append] at h1
  omega
theorem flat_take {l : List Nd} {i : Nat} (h : i < l.length) : (l.take (i + 1)).flatMap Nd.kids = (l.take i).flatMap Nd.kids ++ l[i].kids := by
  rw [List.take_succ_eq_append_getElem h, List.flatMap_append]; simp
theorem flat_pre {l : List Nd} {i : Nat} : (l.take i).flatMap Nd.kids <+: l.flatMap Nd.kids := by
  conv => rhs; rw [← List.take_append_drop i l, List.flatMap_append]
  exact List.prefix_append _ _
theorem pre_kids {s : Rd} {i q : Nat} (h : i < s.nodes.length) : s.free ++ ((s.nodes.take i).flatMap Nd.kids ++ s.nodes[i].kids.take q) <+: seqQ s := by
  unfold seqQ
  refine (List.prefix_append_right_inj _).2 (List.IsPrefix.trans ?_ (flat_pre (i := i + 1)))
  rw [flat_take h]
  exact (List.prefix_append_right_inj _).2 (List.take_prefix _ _)
theorem kids_len' {s : Rd} {j i : Nat} {T : List Nd} (h : RdO s j) (hT : s.nodes = T) (hi : i < T.length) : T[i].kids.length ≤ T.length := by subst hT; exact kids_len h hi
theorem pre_kids' {s : Rd} {i q : Nat} {T : List Nd} {F : List Int} (hT : s.nodes = T) (hF : s.free = F) (h : i < T.length) : F ++ ((T.take i).flatMap Nd.kids ++ T[i].kids.take q) <+: seqQ s := by subst hT; subst hF; exact pre_kids h
theorem kids_lt' {s : Rd} {j i : Nat} {T : List Nd} (h : RdO s j) (hT : s.nodes = T) (hi : i < T.length) : ∀ x ∈ T[i].kids, 0 ≤ x ∧ x < (i : Int) := by subst hT; exact h.kids i hi
theorem atoms_snoc {l : List Nd} {i : Nat} (h : i < l.length) : atomsN (l.take (i + 1)) = atomsN (l.take i) + (if l[i].kind = 1 then 1 else 0) := by
  unfold atomsN
  rw [List.take_succ_eq_append_getElem h, List.countP_append, List.countP_singleton]
  simp
end Go.Proofs.YtpkdiciinhjfjaaDoor
