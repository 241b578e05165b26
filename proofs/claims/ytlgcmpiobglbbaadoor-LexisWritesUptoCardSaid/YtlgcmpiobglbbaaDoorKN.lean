/- lexis: what is joined is read as the tokens, in plain mathematics. -/
import Derived.Test.YtlgcmpiobglbbaaDoorKE
import Derived.Test.YtlgcmpiobglbbaaDoorKB
set_option linter.unusedVariables false
set_option linter.unusedSimpArgs false
namespace Go.Proofs.YtlgcmpiobglbbaaDoor
open Go.RowKit Mth

def tkq (x : Tk) : Int × ByteArray × Bool := (x.k, x.t, x.q)
theorem sameL_of_map {A B : List Tk} (h : B.map tkq = A.map tkq) : SameL false A B := by
  refine ⟨?_, fun i x y hx hy => ?_⟩
  · have := congrArg List.length h
    simpa using this.symm
  · have h1 : (A.map tkq)[i]? = some (tkq x) := by rw [List.getElem?_map, hx]; rfl
    have h2 : (B.map tkq)[i]? = some (tkq y) := by rw [List.getElem?_map, hy]; rfl
    rw [h, h1] at h2
    have := Option.some.inj h2
    unfold tkq at this
    injection this with a b
    injection b with b c
    exact ⟨a, b, c, fun h => by cases h⟩
theorem good_first {s : ByteArray} {q : Nat} {x : Tk} (hg : Good x) (hb : Byt s q (wrT x)) : 0 < (wrT x).length ∧ cb s q = cb (wrB x) 0 ∧ bBlank (cb s q) = false ∧ cb s q ≠ 59 := by
  obtain ⟨kn, hk, h0, hz, ho⟩ := hg
  have hl : 0 < (wrT x).length := by rw [wrT_len]; exact h0
  have e : cb s q = cb (wrB x) 0 := by
    have h1 := byt_at hb hl
    rw [Nat.add_zero] at h1
    rw [h1]; exact (cb_list (wrT x) 0 hl).symm
  have hf := shape_first h0 (shape_of h0 ho)
  exact ⟨hl, e, by rw [e]; exact hf.1, by rw [e]; exact hf.2⟩
/-- tokens in a text, one behind the other -/
inductive Chain (s : ByteArray) : Nat → List Tk → Prop
  | nil (p : Nat) : s.size ≤ skipF s p → Chain s p []
  | cons (p q : Nat) (x : Tk) (r : List Tk) : skipF s p = q → Good x → Byt s q (wrT x) → q + (wrT x).length ≤ s.size → (∀ kn : Nat, x.k = kn → Behind s (q + (wrT x).length) kn x.q) → Chain s (q + (wrT x).length) r → Chain s p (x :: r)
theorem chain_tok {s : ByteArray} {q : Nat} {x : Tk} (hg : Good x) (hb : Byt s q (wrT x)) (hs : q + (wrT x).length ≤ s.size) (hn : ∀ kn : Nat, x.k = kn → Behind s (q + (wrT x).length) kn x.q) :
    ∃ kn : Nat, x.k = kn ∧ oneF s q = .tok kn x.t x.q (q + (wrT x).length) := by
  obtain ⟨kn, hk, h0, hz, ho⟩ := hg
  have hl := wrT_len x
  have := tok_move (s := wrB x) (s' := s) (p := 0) (p' := q) h0 ho (by rw [← hl]; omega) (fun j hj => by
    rw [byt_at hb (by omega), Nat.zero_add]
    exact (cb_list (wrT x) j (by omega)).symm) (by rw [Nat.sub_zero, ← hl]; exact hn kn hk)
  rw [Nat.sub_zero, ← hl] at this
  exact ⟨kn, hk, this⟩
theorem chain_scan {s : ByteArray} {p : Nat} {L : List Tk} (h : Chain s p L) : ∃ M, scanF s p = .ok M ∧ M.map tkq = L.map tkq := by
  induction h with
  | nil p h => exact ⟨[], scan_end h, rfl⟩
  | cons p q x r h1 h2 h3 h4 h5 h6 ih =>
    obtain ⟨M, hM, hm⟩ := ih
    obtain ⟨kn, hk, ho⟩ := chain_tok h2 h3 h4 h5
    have hl := (good_first h2 h3).1
    refine ⟨⟨kn, x.t, x.q, lnAt s q, colAt s q⟩ :: M, ?_, ?_⟩
    · rw [scan_tok (p := p) (by rw [h1]; omega) (by rw [h1]; exact ho) (by rw [h1]; omega), h1, hM]; rfl
    · rw [List.map_cons, List.map_cons, hm]; unfold tkq; rw [hk]
theorem shape_two {s : ByteArray} {p k n : Nat} {t : ByteArray} {q : Bool} (h : Shape s p k t q n) (e : k = 2) : cb s p = 41 := by
  cases h <;> first | assumption | (cases e)
theorem good_two {x : Tk} (hg : Good x) (h : x.k = 2) : cb (wrB x) 0 = 41 := by
  obtain ⟨kn, hk, h0, hz, ho⟩ := hg
  obtain rfl : kn = 2 := by omega
  exact shape_two (shape_of h0 ho) rfl
theorem cat_chain {s : ByteArray} : ∀ (L : List Tk) (pk : Option Int) (p : Nat), (∀ x ∈ L, Good x) → Byt s p (catL pk L) → p + (catL pk L).length = s.size → Chain s p L
  | [], pk, p, _, _, h => .nil p (by rw [skip_end (by simp [catL] at h; omega)]; simp [catL] at h; omega)
  | x :: r, pk, p, hg, hb, hz => by
    have hgx := hg x (List.mem_cons_self ..)
    rw [catL] at hb hz
    obtain ⟨hb1, hb2⟩ := byt_app.1 hb
    obtain ⟨hb0, hb1⟩ := byt_app.1 hb1
    rw [List.length_append] at hb2
    rw [List.length_append, List.length_append] at hz
    have hq : skipF s p = p + (sepL pk x.k).length := by
      have hf := good_first hgx hb1
      have key : sepL pk x.k = [] ∨ sepL pk x.k = [32] := by
        unfold sepL
        split
        · exact .inl rfl
        · split
          · exact .inr rfl
          · exact .inl rfl
      rcases key with e | e
      · rw [e] at hf ⊢
        exact skip_here hf.2.2.1 hf.2.2.2
      · rw [e] at hf hb0 hz ⊢
        have h32 : cb s p = 32 := hb0.1
        rw [skip_blank (by simp at hz; omega) (by rw [h32]; rfl)]
        exact skip_here hf.2.2.1 hf.2.2.2
    have hb2' : Byt s (p + (sepL pk x.k).length + (wrT x).length) (catL (some x.k) r) := by rw [Nat.add_assoc]; exact hb2
    refine .cons p (p + (sepL pk x.k).length) x r hq hgx hb1 (by omega) (fun kn hk => ?_) ?_
    · cases r with
      | nil => exact .inl (by simp [catL] at hz; omega)
      | cons y r =>
        rw [catL] at hb2'
        obtain ⟨hc1, _⟩ := byt_app.1 hb2'
        obtain ⟨hc0, hc1⟩ := byt_app.1 hc1
        by_cases hx1 : x.k = 1
        · exact .inr (.inl (by omega))
        · by_cases hy2 : y.k = 2
          · have e : sepL (some x.k) y.k = [] := by unfold sepL; simp [hy2]
            rw [e] at hc1
            have hgy := hg y (List.mem_cons_of_mem _ (List.mem_cons_self ..))
            have hf := good_first hgy hc1
            have h41 := hf.2.1.trans (good_two hgy hy2)
            rw [List.length_nil, Nat.add_zero] at h41
            exact .inr (.inr (.inr (.inr ⟨by rw [h41]; rfl, fun _ => by rw [h41]; decide⟩)))
          · have e : sepL (some x.k) y.k = [32] := by unfold sepL; exact if_pos ⟨hx1, hy2⟩
            rw [e] at hc0
            have h32 := hc0.1
            exact .inr (.inr (.inr (.inr ⟨by rw [h32]; rfl, fun _ => by rw [h32]; decide⟩)))
    · exact cat_chain r (some x.k) _ (fun y hy => hg y (List.mem_cons_of_mem _ hy)) hb2' (by omega)
/-- scan of join -/
theorem scan_cat {L : List Tk} (hg : ∀ x ∈ L, Good x) : ∃ M, scanF ⟨(catL none L).toArray⟩ 0 = .ok M ∧ SameL false L M := by
  have h := cat_chain (s := ⟨(catL none L).toArray⟩) L none 0 hg (byt_self _) (by rw [size_list, Nat.zero_add])
  obtain ⟨M, hM, hm⟩ := chain_scan h
  exact ⟨M, hM, sameL_of_map hm⟩
/-- what was read is written, and not much longer -/
theorem scan_good {s : ByteArray} (hs : s.size ≤ 1048576) : ∀ {L : List Tk} {p : Nat}, scanF s p = .ok L → (∀ x ∈ L, Good x) ∧ ∀ pk, (catL pk L).length ≤ 2 * (s.size - p)
  | [], p, _ => ⟨fun x hx => by simp at hx, fun pk => by simp [catL]⟩
  | y :: L, p, h => by
    obtain ⟨k, t, q, n, h1, h2, h3, h4, h5, h6⟩ := scan_inv h
    have ih := scan_good hs h4
    have hg := skip_ge (s := s) s.size (p := p) (by omega)
    have hgy : Good y := by rw [h3]; exact good_tok h1 hs h2 _ _
    have hw : (wrT y).length = n - skipF s p := by rw [wrT_len, h3]; exact (one_wr h1 h2 _ _).2
    refine ⟨fun x hx => ?_, fun pk => ?_⟩
    · rcases List.mem_cons.1 hx with e | e
      · subst e; exact hgy
      · exact ih.1 x e
    · have h7 := ih.2 (some y.k)
      have h8 := sep_le pk y.k
      rw [catL, List.length_append, List.length_append]; omega
end Go.Proofs.YtlgcmpiobglbbaaDoor
