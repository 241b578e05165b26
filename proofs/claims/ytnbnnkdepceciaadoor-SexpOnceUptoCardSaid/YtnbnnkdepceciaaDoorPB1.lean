/- PZA PZB. -/
import Derived.Test.YtnbnnkdepceciaaDoorPG6
import Derived.Deep.QuietTactic
import Derived.BigQuiet
set_option linter.unusedVariables false
set_option linter.unusedSimpArgs false
/- SexpOnce: mathematics. -/
namespace Go.Proofs.YtnbnnkdepceciaaDoor
open Go.RowKit Mth

/-- all numbers that stand somewhere: on the stack, or as kids -/
def seqQ (s : Rd) : List Int := s.free ++ s.nodes.flatMap Nd.kids
def rngI (n : Nat) : List Int := (List.range n).map fun i : Nat => (i : Int)
def atomsN (l : List Nd) : Nat := l.countP fun nd => decide (nd.kind = 1)
theorem atoms_le (l : List Nd) : atomsN l ≤ l.length := List.countP_le_length
structure RdO (s : Rd) (j : Nat) : Prop where
  perm : (seqQ s).Perm (rngI s.nodes.length)
  inc : s.free.Pairwise (· < ·)
  kids : ∀ i (h : i < s.nodes.length), ∀ x ∈ s.nodes[i].kids, 0 ≤ x ∧ x < (i : Int)
  cnt : atomsN s.nodes + 2 * (s.nodes.length - atomsN s.nodes) + s.opened.length = j
theorem rngI_succ (n : Nat) : rngI (n + 1) = rngI n ++ [(n : Int)] := by unfold rngI; rw [List.range_succ, List.map_append]; rfl
theorem mem_rngI {n : Nat} {x : Int} (h : x ∈ rngI n) : 0 ≤ x ∧ x < (n : Int) := by
  obtain ⟨i, hi, rfl⟩ := List.mem_map.1 h
  have := List.mem_range.1 hi
  omega
theorem nodup_rngI (n : Nat) : (rngI n).Nodup := by
  unfold rngI
  rw [List.nodup_iff_pairwise_ne, List.pairwise_map]
  exact List.nodup_range.imp (fun h e => h (Int.ofNat.inj e))
theorem RdO.free_lt {s : Rd} {j : Nat} (h : RdO s j) {x : Int} (hx : x ∈ s.free) : 0 ≤ x ∧ x < (s.nodes.length : Int) := mem_rngI (h.perm.mem_iff.1 (List.mem_append_left _ hx))
theorem rdo0 : RdO rd0 0 := ⟨List.Perm.refl _, List.Pairwise.nil, fun i h => absurd h (Nat.not_lt_zero _), rfl⟩
theorem kids_snoc {l : List Nd} {nd : Nd} (h : ∀ i (h : i < l.length), ∀ x ∈ l[i].kids, 0 ≤ x ∧ x < (i : Int)) (hn : ∀ x ∈ nd.kids, 0 ≤ x ∧ x < (l.length : Int)) : ∀ i (h : i < (l ++ [nd]).length), ∀ x ∈ (l ++ [nd])[i].kids, 0 ≤ x ∧ x < (i : Int) := by
  intro i hi x hx
  rw [List.length_append, List.length_singleton] at hi
  by_cases e : i < l.length
  · rw [List.getElem_append_left e] at hx; exact h i e x hx
  · obtain rfl : i = l.length := by omega
    rw [List.getElem_append_right (Nat.le_refl _)] at hx
    simp at hx
    exact hn x hx
theorem rdo_step {s : Rd} {t : Tk} {j m : Nat} (h : RdO s j) (hb : RdB s m) (he : stepE s t = 0) : RdO (stepS s t) (j + 1) := by
  have hfl := fun {x} => h.free_lt (x := x)
  obtain ⟨h1, h2, h3, h4⟩ := h
  have hal := atoms_le s.nodes
  have hg : Good t := by
    rcases Classical.em (Good t) with hg | hg
    · exact hg
    · unfold stepE at he; rw [if_pos hg] at he; cases he
  unfold stepE at he
  rw [if_neg (not_not_intro hg)] at he
  unfold stepS
  by_cases k1 : t.k = 1
  · rw [if_pos k1]
    refine ⟨h1, h2, h3, ?_⟩
    show atomsN s.nodes + 2 * (s.nodes.length - atomsN s.nodes) + (s.opened ++ [(t, s.free.length)]).length = j + 1
    rw [List.length_append]; simp; omega
  · rw [if_neg k1] at he ⊢
    by_cases k2 : t.k = 2
    · rw [if_pos k2] at he ⊢
      rcases List.eq_nil_or_concat s.opened with e | ⟨O, p, e⟩
      · rw [if_pos e] at he; cases he
      · rw [List.concat_eq_append] at e
        rw [e, List.getLast?_concat, List.dropLast_concat]
        obtain ⟨u, k⟩ := p
        rw [e, List.length_append] at h4
        have hk : k ≤ s.free.length := hb.le (u, k) (by rw [e]; simp)
        refine ⟨?_, ?_, kids_snoc h3 (fun x hx => hfl (List.mem_of_mem_drop hx)), ?_⟩
        · show ((s.free.take k ++ [(s.nodes.length : Int)]) ++ (s.nodes ++ [(⟨2, u, s.free.drop k⟩ : Nd)]).flatMap Nd.kids).Perm (rngI (s.nodes ++ [(⟨2, u, s.free.drop k⟩ : Nd)]).length)
          rw [List.flatMap_append, List.length_append, List.length_singleton, rngI_succ]
          have e1 : [(⟨2, u, s.free.drop k⟩ : Nd)].flatMap Nd.kids = s.free.drop k := by simp
          rw [e1]
          have e2 : seqQ s = s.free.take k ++ (s.free.drop k ++ s.nodes.flatMap Nd.kids) := by unfold seqQ; rw [← List.append_assoc, List.take_append_drop]
          rw [e2] at h1
          refine List.Perm.trans ?_ (h1.append_right _)
          rw [List.append_assoc, List.append_assoc]
          refine List.Perm.append_left _ ?_
          show (((s.nodes.length : Int)) :: (s.nodes.flatMap Nd.kids ++ s.free.drop k)).Perm _
          refine List.Perm.trans ?_ (List.perm_append_comm (l₁ := [(s.nodes.length : Int)]) (l₂ := s.free.drop k ++ s.nodes.flatMap Nd.kids))
          exact List.Perm.cons _ List.perm_append_comm
        · show (s.free.take k ++ [(s.nodes.length : Int)]).Pairwise (· < ·)
          refine List.pairwise_append.2 ⟨h2.sublist (List.take_sublist _ _), List.pairwise_singleton _ _, fun a ha b hb => ?_⟩
          obtain rfl := List.mem_singleton.1 hb
          exact (hfl (List.mem_of_mem_take ha)).2
        · show atomsN (s.nodes ++ [(⟨2, u, s.free.drop k⟩ : Nd)]) + 2 * ((s.nodes ++ [(⟨2, u, s.free.drop k⟩ : Nd)]).length - atomsN (s.nodes ++ [(⟨2, u, s.free.drop k⟩ : Nd)])) + O.length = j + 1
          have ea : atomsN (s.nodes ++ [(⟨2, u, s.free.drop k⟩ : Nd)]) = atomsN s.nodes := by unfold atomsN; rw [List.countP_append]; simp
          rw [ea, List.length_append]
          simp only [List.length_singleton] at h4 ⊢
          omega
    · rw [if_neg k2]
      refine ⟨?_, ?_, kids_snoc h3 (fun x hx => by cases hx), ?_⟩
      · show ((s.free ++ [(s.nodes.length : Int)]) ++ (s.nodes ++ [(⟨1, t, []⟩ : Nd)]).flatMap Nd.kids).Perm (rngI (s.nodes ++ [(⟨1, t, []⟩ : Nd)]).length)
        rw [List.flatMap_append, List.length_append, List.length_singleton, rngI_succ]
        have e1 : [(⟨1, t, []⟩ : Nd)].flatMap Nd.kids = [] := by simp
        rw [e1, List.append_nil]
        refine List.Perm.trans ?_ (h1.append_right _)
        unfold seqQ
        rw [List.append_assoc, List.append_assoc]
        exact List.Perm.append_left _ List.perm_append_comm
      · show (s.free ++ [(s.nodes.length : Int)]).Pairwise (· < ·)
        refine List.pairwise_append.2 ⟨h2, List.pairwise_singleton _ _, fun a ha b hb => ?_⟩
        obtain rfl := List.mem_singleton.1 hb
        exact (hfl ha).2
      · show atomsN (s.nodes ++ [(⟨1, t, []⟩ : Nd)]) + 2 * ((s.nodes ++ [(⟨1, t, []⟩ : Nd)]).length - atomsN (s.nodes ++ [(⟨1, t, []⟩ : Nd)])) + s.opened.length = j + 1
        have ea : atomsN (s.nodes ++ [(⟨1, t, []⟩ : Nd)]) = atomsN s.nodes + 1 := by unfold atomsN; rw [List.countP_append]; simp
        rw [ea, List.length_append]
        simp only [List.length_singleton]
        omega
theorem rdo_run : ∀ (L : List Tk) {s st : Rd} {j m : Nat}, runR s L = (st, none) → RdO s j → RdB s m → RdO st (j + L.length)
  | [], s, st, j, m, h, ho, _ => by
    rw [runR] at h
    injection h with h _
    subst h; exact ho
  | t :: L, s, st, j, m, h, ho, hb => by
    rw [runR] at h
    split at h
    · have := rdo_run L h (rdo_step ho hb ‹_›) (rdb_step hb ‹_›)
      rw [List.length_cons, show j + (L.length + 1) = j + 1 + L.length by omega]
      exact this
    · injection h with _ h; cases h
/-- counts of a row of numbers -/
def bump (m : List Int) (x : Int) : List Int := m.set x.toNat ((m[x.toNat]?).getD 0 + 1)
def tmOf (n : Nat) (P : List Int) : List Int := P.foldl bump (List.replicate n 0)
theorem tm_snoc (n : Nat) (P : List Int) (x : Int) : tmOf n (P ++ [x]) = bump (tmOf n P) x := by unfold tmOf; rw [List.foldl_append]; rfl
theorem bump_len (m : List Int) (x : Int) : (bump m x).length = m.length := List.length_set
theorem tm_get (n : Nat) : ∀ (k : Nat) (P : List Int), P.length = k → (∀ x ∈ P, 0 ≤ x ∧ x < (n : Int)) → (tmOf n P).length = n ∧ ∀ y, y < n → (tmOf n P)[y]? = some ((P.count (y : Int) : Nat) : Int)
  | 0, P, hk, _ => by
    obtain rfl := List.eq_nil_of_length_eq_zero hk
    refine ⟨by simp [tmOf], fun y hy => ?_⟩
    show (List.replicate n (0 : Int))[y]? = _
    rw [List.getElem?_replicate, if_pos hy]; rfl
  | k + 1, P, hk, h => by
    rcases List.eq_nil_or_concat P with rfl | ⟨Q, x, rfl⟩
    · cases hk
    · rw [List.concat_eq_append] at hk h ⊢
      rw [List.length_append, List.length_singleton] at hk
      obtain ⟨ih1, ih2⟩ := tm_get n k Q (by omega) (fun y hy => h y (List.mem_append_left _ hy))
      have hx := h x (by simp)
      rw [tm_snoc]
      refine ⟨by rw [bump_len, ih1], fun y hy => ?_⟩
      unfold bump
      rw [List.count_append]
      by_cases e : x.toNat = y
      · have ex : x = (y : Int) := by omega
        rw [e, List.getElem?_set_self (by rw [ih1]; exact hy), ih2 y hy, Option.getD_some, ex]
        simp
      · rw [List.getElem?_set_ne e, ih2 y hy]
        have : List.count (y : Int) [x] = 0 := List.count_eq_zero.2 (by simp; omega)
        rw [this]; rfl
/-- behind all of them each count is one -/
theorem tm_one {s : Rd} {j : Nat} (h : RdO s j) {y : Nat} (hy : y < s.nodes.length) : (seqQ s).count (y : Int) = 1 := by
  have hc := h.perm.count_eq (y : Int)
  rw [hc]
  refine Nat.le_antisymm (List.nodup_iff_count.1 (nodup_rngI _) _) (List.count_pos_iff.2 ?_)
  exact List.mem_map.2 ⟨y, List.mem_range.2 hy, rfl⟩
theorem seq_lt {s : Rd} {j : Nat} (h : RdO s j) : ∀ x ∈ seqQ s, 0 ≤ x ∧ x < (s.nodes.length : Int) := fun x hx => mem_rngI (h.perm.mem_iff.1 hx)
theorem count_pre {P Q : List Int} (h : P <+: Q) (y : Int) : P.count y ≤ Q.count y := h.sublist.count_le y
end Go.Proofs.YtnbnnkdepceciaaDoor

/- SexpOnce: the walk. -/
namespace Go.Proofs.YtnbnnkdepceciaaDoor
open Go.RowKit Mth

theorem bump_set {n : Nat} {P : List Int} {y : Nat} {x : Int} (hx : x = (y : Int)) : tmOf n (P ++ [x]) = (tmOf n P).set y (((tmOf n P)[y]?).getD 0 + 1) := by
  rw [tm_snoc]; unfold bump
  rw [show x.toNat = y by omega]
/-- what the law's loops have: a prefix of all numbers was counted -/
def OnI (w wr : World) (g n : Nat) (P : List Int) : Prop := IlW wr g (tmOf n P) ∧ Below w.heap.size w wr
theorem OnI.at {w wr : World} {g n y : Nat} {P Q : List Int} (h : OnI w wr g n P) (hp : P <+: Q) (hQ : ∀ x ∈ Q, 0 ≤ x ∧ x < (n : Int)) (h1 : Q.count (y : Int) = 1) (hy : y < n) :
    wr.cell? ⟨g, y, none⟩ = some (.int .i64 ((P.count (y : Int) : Nat) : Int)) ∧ wr.frozen? ⟨g, y, none⟩ = false ∧ P.count (y : Int) ≤ 1 := by
  obtain ⟨h1', h2'⟩ := tm_get n P.length P rfl (fun x hx => hQ x (hp.subset hx))
  have hyl : y < (tmOf n P).length := by rw [h1']; exact hy
  obtain ⟨c, f⟩ := h.1.at hyl
  have := h2' y hy
  rw [List.getElem?_eq_getElem hyl] at this
  rw [Option.some.inj this] at c
  exact ⟨c, f, by rw [← h1]; exact count_pre hp _⟩
theorem OnI.step {w wr : World} {g n y : Nat} {P : List Int} {x : Int} (h : OnI w wr g n P) (hP : ∀ x ∈ P, 0 ≤ x ∧ x < (n : Int)) (hx : x = (y : Int)) (hy : y < n) (hg : w.heap.size ≤ g) : OnI w (wr.setCell ⟨g, y, none⟩ (.int .i64 (((P.count (y : Int) : Nat) : Int) + 1))) g n (P ++ [x]) := by
  obtain ⟨h1', h2'⟩ := tm_get n P.length P rfl hP
  refine ⟨?_, h.2.setCell hg _⟩
  rw [bump_set hx, h2' y hy, Option.getD_some]
  exact h.1.set
theorem OnI.drewN {w wr : World} {g n m : Nat} {P : List Int} (h : OnI w wr g n P) : OnI w (wr.drewN m) g n P := ⟨h.1.keeps (Keeps.of_below (below_drewN (Below.refl _ _) m)) trivial, below_drewN h.2 m⟩
theorem take_snoc' {l : List Int} {i : Nat} (h : i < l.length) : l.take (i + 1) = l.take i ++ [l[i]] := List.take_succ_eq_append_getElem h
theorem kids_len {s : Rd} {j i : Nat} (h : RdO s j) (hi : i < s.nodes.length) : s.nodes[i].kids.length ≤ s.nodes.length := by
  have h1 := h.perm.length_eq
  have h2 : (rngI s.nodes.length).length = s.nodes.length := by unfold rngI; simp
  have h3 : s.nodes[i].kids.length ≤ (s.nodes.flatMap Nd.kids).length := (List.sublist_flatten_of_mem (List.mem_map.2 ⟨_, List.getElem_mem hi, rfl⟩)).length_le
  unfold seqQ at h1
  rw [List.length_append] at h1
  omega
theorem flat_take {l : List Nd} {i : Nat} (h : i < l.length) : (l.take (i + 1)).flatMap Nd.kids = (l.take i).flatMap Nd.kids ++ l[i].kids := by
  rw [List.take_succ_eq_append_getElem h, List.flatMap_append]; simp
theorem flat_pre {l : List Nd} {i : Nat} : (l.take i).flatMap Nd.kids <+: l.flatMap Nd.kids := by
  conv => rhs; rw [← List.take_append_drop i l, List.flatMap_append]
  exact List.prefix_append _ _
theorem pre_kids {s : Rd} {i q : Nat} (h : i < s.nodes.length) : s.free ++ ((s.nodes.take i).flatMap Nd.kids ++ s.nodes[i].kids.take q) <+: seqQ s := by
  unfold seqQ
  refine (List.prefix_append_right_inj _).2 (List.IsPrefix.trans ?_ (flat_pre (i := i + 1)))
  rw [flat_take h]
  exact (List.prefix_append_right_inj _).2 (List.take_prefix _ _)
theorem kids_len' {s : Rd} {j i : Nat} {T : List Nd} (h : RdO s j) (hT : s.nodes = T) (hi : i < T.length) : T[i].kids.length ≤ T.length := by subst hT; exact kids_len h hi
theorem pre_kids' {s : Rd} {i q : Nat} {T : List Nd} {F : List Int} (hT : s.nodes = T) (hF : s.free = F) (h : i < T.length) : F ++ ((T.take i).flatMap Nd.kids ++ T[i].kids.take q) <+: seqQ s := by subst hT; subst hF; exact pre_kids h
theorem kids_lt' {s : Rd} {j i : Nat} {T : List Nd} (h : RdO s j) (hT : s.nodes = T) (hi : i < T.length) : ∀ x ∈ T[i].kids, 0 ≤ x ∧ x < (i : Int) := by subst hT; exact h.kids i hi
theorem atoms_snoc {l : List Nd} {i : Nat} (h : i < l.length) : atomsN (l.take (i + 1)) = atomsN (l.take i) + (if l[i].kind = 1 then 1 else 0) := by
  unfold atomsN
  rw [List.take_succ_eq_append_getElem h, List.countP_append, List.countP_singleton]
  simp
set_option maxHeartbeats 32000000 in
set_option maxRecDepth 100000 in
theorem once_walk (w : World) (v : Value) (L : List Tk) (hv : TkL w v L) (hlen : L.length ≤ 1048576) (ht : ∀ x ∈ L, x.t.size ≤ 1048576) (hL : LexW w) : Calls Tryd.prog 5 #[v] w fun e w' => e = .returned (.bool true) ∧ Below w.heap.size w w' := by
  have PA := Lib.hid (parse_any L v w hL hv hlen ht)
  have AL : Hid (∀ W, Below w.heap.size w W → Calls Tryd.prog 7 #[] W fun e w' => e = .returned (.bool true) ∧ Below W.heap.size W w') := Lib.hid (fun W hW => alive7_any W (hL.below hW))
  obtain ⟨ao, cap, rfl, -⟩ := hv
  clear hL ht
  go_enter Tryd.func5, Tryd.ntmps5
  go_wp2_with fail
  refine PA.out.mono ?_
  rintro e w1 ⟨hb1, ⟨st, t, x, h1, rfl⟩ | ⟨st, t, k, h1, h2, rfl⟩ | ⟨st, nv, fv, ov, N, h1, h2, h3, h4, h5, rfl⟩⟩
  · have B1 := Lib.hid hb1
    have d1 : (x != 0) = true := bne_iff_ne.2 (fault_ne h1)
    have AW := Lib.hid (AL.out _ hb1)
    clear hb1 h1 PA
    go_wp2_with fail
    refine AW.out.mono ?_
    rintro e w2 ⟨rfl, hb2⟩
    have B2 := Lib.hid (belowT B1.out hb2)
    clear hb2
    go_wp2
    go_ret
    exact ⟨rfl, B2.out⟩
  · have B1 := Lib.hid hb1
    have AW := Lib.hid (AL.out _ hb1)
    clear hb1 h1 h2 PA
    go_wp2_with fail
    refine AW.out.mono ?_
    rintro e w2 ⟨rfl, hb2⟩
    have B2 := Lib.hid (belowT B1.out hb2)
    clear hb2
    go_wp2
    go_ret
    exact ⟨rfl, B2.out⟩
  · have RO := Lib.hid (rdo_run L h1 rdo0 rdb0)
    have HOP := Lib.hid h2
    have hsx := h4.sx
    rw [h5] at hsx
    have HSX := Lib.hid hsx
    have HIN := Lib.hid (own_inL h4.free)
    have B1 := Lib.hid hb1
    have hnl := h3.nodes
    obtain ⟨na, nc, rfl⟩ := hsx.shape
    obtain ⟨fa, fc, rfl⟩ := HIN.out.shape
    obtain ⟨T, hT⟩ : ∃ T, st.nodes = T := ⟨_, rfl⟩
    obtain ⟨F, hF⟩ : ∃ F, st.free = F := ⟨_, rfl⟩
    have hfl : F.length ≤ 1048576 := by rw [← hF]; exact Nat.le_trans h3.free hlen
    have hFN : F.length ≤ T.length := by
      have h1 := RO.out.perm.length_eq
      have h2 : (rngI st.nodes.length).length = st.nodes.length := by unfold rngI; simp
      unfold seqQ at h1
      rw [List.length_append] at h1
      rw [← hT, ← hF]; omega
    rw [hT] at HSX hnl
    rw [hF] at HIN
    have HT := Lib.hid hT; have HF := Lib.hid hF
    have HQ : Hid (∀ x ∈ seqQ st, 0 ≤ x ∧ x < (T.length : Int)) := Lib.hid (by rw [← hT]; exact seq_lt RO.out)
    have H1 : Hid (∀ y, y < T.length → (seqQ st).count (y : Int) = 1) := Lib.hid (fun y hy => tm_one RO.out (by rw [hT]; exact hy))
    rw [hT, hF]
    clear h1 h2 h3 h4 h5 hsx hb1 PA hT hF
    go_wp2_with (at_make; refine make_ints rfl _ _ rfl _ _ T.length rfl rfl (by omega) (by omega) (by omega) ?_; intro w2 hrow hb2; have HROW := Lib.hid hrow; have B2 := Lib.hid (belowT B1.out hb2); have BT := Lib.hid hb2; clear hrow hb2)
    have hg : w.heap.size ≤ w1.heap.size := B1.out.size
    go_loopw [9] (fun v wr => ∃ i : Nat, i ≤ F.length ∧ v = .int .i64 (i : Int) ∧ OnI w wr w1.heap.size T.length (F.take i) ∧ Below w1.heap.size w1 wr) (fun v _ => F.length - (intOf v).toNat)
    case atStart => exact ⟨0, Nat.zero_le _, rfl, ⟨HROW.out, B2.out⟩, BT.out⟩
    case round =>
      obtain ⟨i, hi, rfl, hO, hbw⟩ := hrel
      have HO := Lib.hid hO
      have HBW := Lib.hid hbw
      by_cases hil : i < F.length
      · have hFi := List.getElem?_eq_getElem hil
        have hq : F[i] ∈ seqQ st := by unfold seqQ; rw [HF.out]; exact List.mem_append_left _ (List.getElem_mem hil)
        have hx := HQ.out _ hq
        have HSN := Lib.hid (take_snoc' hil)
        have hpre : F.take i <+: seqQ st := by unfold seqQ; rw [HF.out]; exact (List.take_prefix _ _).trans (List.prefix_append _ _)
        obtain ⟨y, hy⟩ : ∃ y : Nat, F[i] = (y : Int) := ⟨F[i].toNat, by omega⟩
        have hyl : y < T.length := by omega
        obtain ⟨m1, m2, m3⟩ := hO.at hpre HQ.out (H1.out y hyl) hyl
        obtain ⟨fa1, fc1, ee, hc1⟩ := HIN.out.below hbw
        obtain ⟨b1, o1, x1, -, hcc1⟩ := hc1 (fun e => by rw [e] at hil; simp at hil)
        simp only [Value.slice.injEq] at ee
        obtain ⟨rfl, -, -⟩ := ee
        subst x1
        have c1 := hcc1 i _ hFi
        have HINC : Hid (0 < i → ∀ (h : i - 1 < F.length), F[i - 1] < F[i]) := Lib.hid (fun h0 h => by
          have hp := RO.out.inc
          rw [HF.out] at hp
          exact List.pairwise_iff_getElem.1 hp (i - 1) i h hil (by omega))
        have HST := Lib.hid (fun (W : World) (h : OnI w W w1.heap.size T.length (F.take i)) => h.step (x := F[i]) (fun x hx => HQ.out x (hpre.subset hx)) hy hyl hg)
        rw [hy] at c1 HSN HST
        have d1 : decide ((y : Int) < 0) = false := decide_eq_false (by omega)
        have d2 : decide ((T.length : Int) ≤ (y : Int)) = false := decide_eq_false (by omega)
        have d2' : decide (T.length ≤ y) = false := decide_eq_false (by omega)
        generalize hcn : (F.take i).count (y : Int) = cn at m1 m3 HST
        have e1 : wrap64 ((cn : Int) + 1) = (cn : Int) + 1 := IntWalk.wrap64_in _ (by omega)
        by_cases h0 : i = 0
        · subst h0
          clear hO hbw hFi hq hx hpre hcc1 hc1 HINC hcn hy
          have e0 : ((0 : Nat) : Int) = 0 := rfl
          have e3 : o1 + 0 = o1 := rfl
          rw [e3] at c1
          try rw [e0]
          go_wp2_with fail
          go_quiet (fail)
          go_wp2
          go_roundw
          case rel => exact ⟨1, by omega, rfl, by rw [HSN.out]; exact HST.out _ HO.out.drewN, (below_drewN HBW.out _).setCell (Nat.le_refl _) _⟩
          case measure => (simp [intOf]; try omega)
        · have hil1 : i - 1 < F.length := by omega
          have hFj := List.getElem?_eq_getElem hil1
          have hlt := HINC.out (by omega) hil1
          obtain ⟨z, hz⟩ : ∃ z : Nat, F[i - 1] = (z : Int) := ⟨F[i - 1].toNat, by
            have := HQ.out F[i - 1] (by unfold seqQ; rw [HF.out]; exact List.mem_append_left _ (List.getElem_mem hil1))
            omega⟩
          have c2 := hcc1 (i - 1) _ hFj
          rw [hz] at c2 hlt
          rw [hy] at hlt
          have d3 : decide ((y : Int) ≤ (z : Int)) = false := decide_eq_false (by omega)
          have d3' : decide (y ≤ z) = false := decide_eq_false (by omega)
          have d4 : decide ((0 : Int) < (i : Int)) = true := decide_eq_true (by omega)
          have d4' : decide (0 < i) = true := decide_eq_true (by omega)
          have e2 : wrap64 ((i : Int) - 1) = ((i - 1 : Nat) : Int) := by rw [show ((i : Int) - 1) = ((i - 1 : Nat) : Int) by omega]; exact IntWalk.wrap64_in _ (by omega)
          clear hO hbw hFi hq hx hpre hcc1 hc1 HINC hcn hy hFj hlt hz
          go_wp2_with fail
          go_quiet (fail)
          go_wp2
          go_roundw
          case rel => exact ⟨i + 1, by omega, by go_num, by rw [HSN.out]; exact HST.out _ HO.out.drewN, (below_drewN HBW.out _).setCell (Nat.le_refl _) _⟩
          case measure => (simp [intOf]; try omega)
      · obtain rfl : i = F.length := by omega
        have HO2 : Hid (OnI w wr w1.heap.size T.length (F ++ (T.take 0).flatMap Nd.kids)) := Lib.hid (by
          have := hO
          rw [List.take_length] at this
          simpa using this)
        have HSXW := Lib.hid (HSX.out.below hbw)
        clear hO hbw HROW
        go_wp2_with fail
        go_loopw [10, 11] (fun a v wr => ∃ i : Nat, i ≤ T.length ∧ a = .int .i64 ((atomsN (T.take i) : Nat) : Int) ∧ v = .int .i64 (i : Int) ∧ OnI w wr w1.heap.size T.length (F ++ (T.take i).flatMap Nd.kids) ∧ Below w1.heap.size w1 wr) (fun _ v _ => T.length - (intOf v).toNat)
        case atStart => exact ⟨0, Nat.zero_le _, rfl, rfl, HO2.out, HBW.out⟩
        case round =>
          obtain ⟨i, hi, rfl, rfl, hO, hbw⟩ := hrel
          have HO := Lib.hid hO
          have HBW2 := Lib.hid hbw
          have hab : atomsN (T.take i) ≤ i := by have := atoms_le (T.take i); rw [List.length_take] at this; omega
          by_cases hil : i < T.length
          · obtain ⟨b, off, ka, kc, rfl, hbl, c0, -, -, -, -, -, c6, hkv⟩ := (HSX.out.below hbw).at hil
            have HKV := Lib.hid hkv
            have HAS := Lib.hid (atoms_snoc hil)
            have hkl : T[i].kids.length ≤ 1048576 := by have := kids_len' RO.out HT.out hil; omega
            have HPK : Hid (∀ q, F ++ ((T.take i).flatMap Nd.kids ++ T[i].kids.take q) <+: seqQ st) := Lib.hid (fun q => pre_kids' HT.out HF.out hil)
            have HKLT := Lib.hid (kids_lt' RO.out HT.out hil)
            have HFT := Lib.hid (flat_take hil)
            obtain ⟨ks, hks⟩ : ∃ ks, T[i].kids = ks := ⟨_, rfl⟩
            have HKS := Lib.hid hks
            rw [hks] at HKV HPK HKLT HFT c6 hkl
            have HOI : Hid (∀ wr, OnI w wr w1.heap.size T.length (F ++ (T.take i).flatMap Nd.kids) → OnI w wr w1.heap.size T.length (F ++ ((T.take i).flatMap Nd.kids ++ ks.take 0))) := Lib.hid (fun wr h => by rw [List.take_zero, List.append_nil]; exact h)
            by_cases k1 : T[i].kind = 1
            · have HAE : Hid (((atomsN (T.take (i + 1)) : Nat) : Int) = ((atomsN (T.take i) : Nat) : Int) + 1) := Lib.hid (by rw [HAS.out, if_pos k1]; omega)
              have d1 : (T[i].kind == 1) = true := by rw [k1]; rfl
              generalize T[i].kind = kd at *
              generalize atomsN (T.take i) = a1 at *
              clear k1 hO hbw hkv hks HAS
              go_wp2_with fail
              go_loopw [12] (fun k wr => ∃ q : Nat, q ≤ ks.length ∧ k = .int .i64 (q : Int) ∧ OnI w wr w1.heap.size T.length (F ++ ((T.take i).flatMap Nd.kids ++ ks.take q)) ∧ Below w1.heap.size w1 wr) (fun k _ => ks.length - (intOf k).toNat)
              case atStart => exact ⟨0, Nat.zero_le _, rfl, HOI.out _ HO.out, HBW2.out⟩
              case round =>
                obtain ⟨q, hq, rfl, hOq, hbq⟩ := hrel
                have HOQ := Lib.hid hOq
                have HBQ := Lib.hid hbq
                obtain ⟨b', off', ka', kc', eb', hbl', -, -, -, -, -, -, d6, hkv'⟩ := (HSX.out.below hbq).at hil
                rw [HKS.out] at d6 hkv'
                simp only [Option.some.injEq, Addr.mk.injEq, and_true] at eb'
                obtain ⟨rfl, rfl⟩ := eb'
                by_cases hqk : q < ks.length
                · have hkx := List.getElem?_eq_getElem hqk
                  have hx := HKLT.out ks[q] (List.getElem_mem hqk)
                  have HSN := Lib.hid (take_snoc' hqk)
                  obtain ⟨y, hy⟩ : ∃ y : Nat, ks[q] = (y : Int) := ⟨ks[q].toNat, by omega⟩
                  have hyl : y < T.length := by omega
                  obtain ⟨m1, m2, m3⟩ := hOq.at (HPK.out q) HQ.out (H1.out y hyl) hyl
                  obtain ⟨fa1, fc1, ee, hc1⟩ := hkv'
                  obtain ⟨b2, o2, x1, -, hcc1⟩ := hc1 (fun e => by rw [e] at hqk; simp at hqk)
                  simp only [Value.slice.injEq] at ee
                  obtain ⟨rfl, -, -⟩ := ee
                  subst x1
                  have c1 := hcc1 q _ hkx
                  have HST := Lib.hid (fun (W : World) (h : OnI w W w1.heap.size T.length (F ++ ((T.take i).flatMap Nd.kids ++ ks.take q))) => h.step (x := ks[q]) (fun x hx => HQ.out x ((HPK.out q).subset hx)) hy hyl hg)
                  rw [hy] at c1 HSN HST
                  have d2 : decide ((y : Int) < 0) = false := decide_eq_false (by omega)
                  have d3 : decide ((i : Int) ≤ (y : Int)) = false := decide_eq_false (by omega)
                  have d3' : decide (i ≤ y) = false := decide_eq_false (by omega)
                  generalize hcn : (F ++ ((T.take i).flatMap Nd.kids ++ ks.take q)).count (y : Int) = cn at m1 m3 HST
                  have e3 : wrap64 ((cn : Int) + 1) = (cn : Int) + 1 := IntWalk.wrap64_in _ (by omega)
                  clear hOq hbq hkx hx hcc1 hc1 hcn hy
                  go_wp2
                  go_roundw
                  case rel => exact ⟨q + 1, by omega, by go_num, by rw [HSN.out, ← List.append_assoc, ← List.append_assoc]; have := HST.out _ HOQ.out; rwa [← List.append_assoc] at this, HBQ.out.setCell (Nat.le_refl _) _⟩
                  case measure => (simp [intOf]; try omega)
                · obtain rfl : q = ks.length := by omega
                  have HON : Hid (OnI w wr w1.heap.size T.length (F ++ (T.take (i + 1)).flatMap Nd.kids)) := Lib.hid (by rw [HFT.out]; rw [List.take_length] at hOq; exact hOq)
                  clear hOq hbq hkv'
                  go_wp2
                  go_roundw
                  case rel => exact ⟨i + 1, by omega, by rw [HAE.out], by go_num, HON.out, HBQ.out⟩
                  case measure => (simp [intOf]; try omega)
            · have HAE : Hid (((atomsN (T.take (i + 1)) : Nat) : Int) = ((atomsN (T.take i) : Nat) : Int)) := Lib.hid (by rw [HAS.out, if_neg k1]; omega)
              have d1 : (T[i].kind == 1) = false := beq_eq_false_iff_ne.2 k1
              generalize T[i].kind = kd at *
              generalize atomsN (T.take i) = a1 at *
              clear k1 hO hbw hkv hks HAS
              go_wp2_with fail
              go_loopw [12] (fun k wr => ∃ q : Nat, q ≤ ks.length ∧ k = .int .i64 (q : Int) ∧ OnI w wr w1.heap.size T.length (F ++ ((T.take i).flatMap Nd.kids ++ ks.take q)) ∧ Below w1.heap.size w1 wr) (fun k _ => ks.length - (intOf k).toNat)
              case atStart => exact ⟨0, Nat.zero_le _, rfl, HOI.out _ HO.out, HBW2.out⟩
              case round =>
                obtain ⟨q, hq, rfl, hOq, hbq⟩ := hrel
                have HOQ := Lib.hid hOq
                have HBQ := Lib.hid hbq
                obtain ⟨b', off', ka', kc', eb', hbl', -, -, -, -, -, -, d6, hkv'⟩ := (HSX.out.below hbq).at hil
                rw [HKS.out] at d6 hkv'
                simp only [Option.some.injEq, Addr.mk.injEq, and_true] at eb'
                obtain ⟨rfl, rfl⟩ := eb'
                by_cases hqk : q < ks.length
                · have hkx := List.getElem?_eq_getElem hqk
                  have hx := HKLT.out ks[q] (List.getElem_mem hqk)
                  have HSN := Lib.hid (take_snoc' hqk)
                  obtain ⟨y, hy⟩ : ∃ y : Nat, ks[q] = (y : Int) := ⟨ks[q].toNat, by omega⟩
                  have hyl : y < T.length := by omega
                  obtain ⟨m1, m2, m3⟩ := hOq.at (HPK.out q) HQ.out (H1.out y hyl) hyl
                  obtain ⟨fa1, fc1, ee, hc1⟩ := hkv'
                  obtain ⟨b2, o2, x1, -, hcc1⟩ := hc1 (fun e => by rw [e] at hqk; simp at hqk)
                  simp only [Value.slice.injEq] at ee
                  obtain ⟨rfl, -, -⟩ := ee
                  subst x1
                  have c1 := hcc1 q _ hkx
                  have HST := Lib.hid (fun (W : World) (h : OnI w W w1.heap.size T.length (F ++ ((T.take i).flatMap Nd.kids ++ ks.take q))) => h.step (x := ks[q]) (fun x hx => HQ.out x ((HPK.out q).subset hx)) hy hyl hg)
                  rw [hy] at c1 HSN HST
                  have d2 : decide ((y : Int) < 0) = false := decide_eq_false (by omega)
                  have d3 : decide ((i : Int) ≤ (y : Int)) = false := decide_eq_false (by omega)
                  have d3' : decide (i ≤ y) = false := decide_eq_false (by omega)
                  generalize hcn : (F ++ ((T.take i).flatMap Nd.kids ++ ks.take q)).count (y : Int) = cn at m1 m3 HST
                  have e3 : wrap64 ((cn : Int) + 1) = (cn : Int) + 1 := IntWalk.wrap64_in _ (by omega)
                  clear hOq hbq hkx hx hcc1 hc1 hcn hy
                  go_wp2
                  go_roundw
                  case rel => exact ⟨q + 1, by omega, by go_num, by rw [HSN.out, ← List.append_assoc, ← List.append_assoc]; have := HST.out _ HOQ.out; rwa [← List.append_assoc] at this, HBQ.out.setCell (Nat.le_refl _) _⟩
                  case measure => (simp [intOf]; try omega)
                · obtain rfl : q = ks.length := by omega
                  have HON : Hid (OnI w wr w1.heap.size T.length (F ++ (T.take (i + 1)).flatMap Nd.kids)) := Lib.hid (by rw [HFT.out]; rw [List.take_length] at hOq; exact hOq)
                  clear hOq hbq hkv'
                  go_wp2
                  go_roundw
                  case rel => exact ⟨i + 1, by omega, by rw [HAE.out], by go_num, HON.out, HBQ.out⟩
                  case measure => (simp [intOf]; try omega)
          · obtain rfl : i = T.length := by omega
            have HO3 : Hid (OnI w wr w1.heap.size T.length (seqQ st)) := Lib.hid (by
              rw [List.take_length] at hO
              unfold seqQ
              rw [HF.out, HT.out]; exact hO)
            rw [List.take_length] at hab
            have hcnt := RO.out.cnt
            rw [HT.out, HOP.out, List.length_nil] at hcnt
            have HAT : Hid (atomsN (T.take T.length) = atomsN T) := Lib.hid (by rw [List.take_length])
            rw [HAT.out]
            generalize atomsN T = a1 at *
            have e1 : wrap64 ((T.length : Int) - (a1 : Int)) = (T.length : Int) - (a1 : Int) := IntWalk.wrap64_in _ (by omega)
            have e2 : wrap64 (2 * ((T.length : Int) - (a1 : Int))) = 2 * ((T.length : Int) - (a1 : Int)) := IntWalk.wrap64_in _ (by omega)
            have e3 : wrap64 ((a1 : Int) + 2 * ((T.length : Int) - (a1 : Int))) = (L.length : Int) := by
              rw [show (a1 : Int) + 2 * ((T.length : Int) - (a1 : Int)) = (L.length : Int) by omega]
              exact IntWalk.wrap64_in _ (by omega)
            have e4 : (a1 : Int) + 2 * ((T.length : Int) - (a1 : Int)) = (L.length : Int) := by omega
            clear hO hbw hcnt
            go_wp2_with fail
            go_loopw [13] (fun v wr => ∃ j : Nat, j ≤ T.length ∧ v = .int .i64 (j : Int) ∧ OnI w wr w1.heap.size T.length (seqQ st)) (fun v _ => T.length - (intOf v).toNat)
            case atStart => exact ⟨0, Nat.zero_le _, rfl, HO3.out⟩
            case round =>
              obtain ⟨j, hj, rfl, hOj⟩ := hrel
              have HOJ := Lib.hid hOj
              by_cases hjl : j < T.length
              · obtain ⟨m1, -, -⟩ := hOj.at (List.prefix_rfl) HQ.out (H1.out j hjl) hjl
                rw [H1.out j hjl] at m1
                clear hOj
                go_wp2
                go_roundw
                case rel => exact ⟨j + 1, by omega, by go_num, HOJ.out⟩
                case measure => (simp [intOf]; try omega)
              · have AW := Lib.hid (AL.out wr hOj.2)
                have HBE := Lib.hid hOj.2
                clear hOj
                go_wp2_with fail
                refine AW.out.mono ?_
                rintro e w9 ⟨rfl, hb9⟩
                have B9 := Lib.hid (belowT HBE.out hb9)
                clear hb9
                go_wp2
                go_ret
                exact ⟨rfl, B9.out⟩
end Go.Proofs.YtnbnnkdepceciaaDoor
