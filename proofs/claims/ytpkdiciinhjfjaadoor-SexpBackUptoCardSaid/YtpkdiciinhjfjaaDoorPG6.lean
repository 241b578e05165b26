/- PYI PYJ PYK PZI. -/
import Derived.Test.YtpkdiciinhjfjaaDoorPG5
import Derived.Test.YtpkdiciinhjfjaaDoorKG1
set_option linter.unusedVariables false
set_option linter.unusedSimpArgs false
/- sexp's laws: what is read of a text. -/
namespace Go.Proofs.YtpkdiciinhjfjaaDoor
open Go.RowKit Mth

theorem nds_get : ∀ (N : List (Nd × Value)) (i : Nat) (p : Nd × Value), N[i]? = some p → ∀ j u, (ndCells p.1 p.2)[j]? = some u → (ndsCells N)[i * 7 + j]? = some u
  | [], i, p, h, j, u, hu => by simp at h
  | q :: N, 0, p, h, j, u, hu => by
    obtain rfl := Option.some.inj h
    have hj := (List.getElem?_eq_some_iff.1 hu).1
    show (ndCells q.1 q.2 ++ ndsCells N)[0 * 7 + j]? = some u
    rw [Nat.zero_mul, Nat.zero_add, List.getElem?_append_left hj]; exact hu
  | q :: N, i + 1, p, h, j, u, hu => by
    show (ndCells q.1 q.2 ++ ndsCells N)[(i + 1) * 7 + j]? = some u
    have hl : (ndCells q.1 q.2).length = 7 := rfl
    rw [List.getElem?_append_right (by omega), hl, show (i + 1) * 7 + j - 7 = i * 7 + j by omega]
    exact nds_get N i p h j u hu
theorem own_cells {w : World} {base size n : Nat} {e : TypeId} {v : Value} {xs : List Value} (h : w.ownsRow base e size v n xs) (hn : 0 < n) : ∃ g cap, v = .slice (some ⟨g, 0, none⟩) n cap ∧ g < w.heap.size ∧ ∀ j u, xs[j]? = some u → w.cell? ⟨g, j, none⟩ = some u := by
  obtain ⟨g, cap, rfl⟩ := own_some h hn
  exact ⟨g, cap, rfl, (h.lt g rfl).2, fun j u hu => by rw [h.cellAt j (by have := (List.getElem?_eq_some_iff.1 hu).1; have := h.1; omega)]; exact hu⟩
theorem RdV.sx {w0 w : World} {nv fv ov : Value} {N : List (Nd × Value)} {l : List Int} {O : List ((Nat × Nat × Nat) × (Tk × Nat))} (h : RdV w0 w nv fv ov N l O) : SxL w nv (N.map Prod.fst) := by
  obtain ⟨no, nc, rfl⟩ := own_len h.nodes
  refine ⟨no, nc, by rw [List.length_map], fun hne => ?_⟩
  have hN : 0 < N.length := by
    rcases Nat.eq_zero_or_pos N.length with h0 | h0
    · exact absurd (by rw [List.eq_nil_of_length_eq_zero h0]; rfl) hne
    · exact h0
  obtain ⟨g, cap, e, hg, hc⟩ := own_cells h.nodes hN
  simp only [Value.slice.injEq] at e
  refine ⟨g, 0, e.1, hg, fun i nd hi => ?_⟩
  rw [List.getElem?_map] at hi
  obtain ⟨p, hp, rfl⟩ := Option.map_eq_some_iff.1 hi
  have hcell := fun j u hu => hc _ _ (nds_get N i p hp j u hu)
  simp only [Nat.zero_add]
  refine ⟨hcell 0 _ rfl, fun j u hj => ?_, p.2, hcell 6 _ rfl, (h.kids p (List.mem_of_getElem? hp)).inL⟩
  rw [show i * 7 + 1 + j = i * 7 + (1 + j) by omega]
  refine hcell (1 + j) u ?_
  match j, hj with
  | 0, hj => exact hj
  | 1, hj => exact hj
  | 2, hj => exact hj
  | 3, hj => exact hj
  | 4, hj => exact hj
  | j + 5, hj => simp [tkCells] at hj
theorem own_inL {w : World} {base : Nat} {v : Value} {l : List Int} (h : w.ownsRow base 3 1 v l.length (inCells l)) : InL w v l := by
  obtain ⟨ao, cap, rfl⟩ := own_len h
  refine ⟨ao, cap, rfl, fun hne => ?_⟩
  obtain ⟨g, cap', e, hg, hc⟩ := own_cells h (by rcases Nat.eq_zero_or_pos l.length with h0 | h0; exact absurd (List.eq_nil_of_length_eq_zero h0) hne; exact h0)
  simp only [Value.slice.injEq] at e
  refine ⟨g, 0, e.1, hg, fun j x hx => ?_⟩
  rw [Nat.zero_add]
  exact hc j _ (by unfold inCells; rw [List.getElem?_map, hx]; rfl)
theorem scan_count {s : ByteArray} (hs : s.size ≤ 1048576) : ∀ {L : List Tk} {p : Nat}, scanF s p = .ok L → L.length ≤ s.size - p
  | [], p, _ => Nat.zero_le _
  | y :: L, p, h => by
    obtain ⟨k, t, q, n, h1, h2, h3, h4, h5, h6⟩ := scan_inv h
    have ih := scan_count hs h4
    have hg := skip_ge (s := s) s.size (p := p) (by omega)
    rw [List.length_cons]; omega
theorem wr_ge7 {x : Tk} (h : 0 < (wrT x).length) : x.t.size ≤ (wrT x).length := by
  have hl := len_data x.t
  have hd := dbl_len x.t.data.toList
  revert h
  unfold wrT wrL
  (repeat' split) <;> (intro h; try simp only [List.length_cons, List.length_append, List.length_nil] at h ⊢) <;> omega
theorem wr_big {x : Tk} (h : Good x) : x.t.size ≤ 1048576 := by
  have h1 := good_wr h
  obtain ⟨_, _, h0, _, _⟩ := h
  rw [← wrT_len] at h0
  exact Nat.le_trans (wr_ge7 h0) h1
/-- a row of tokens that can't be read: the fault -/
def FaultR (L : List Tk) (x : Int) : Prop := (∃ st t, runR rd0 L = (st, some (t, x))) ∨ (x = 71 ∧ ∃ st p, runR rd0 L = (st, none) ∧ st.opened.getLast? = some p)
/-- what is read of tokens -/
def ReadL (w' : World) (L : List Tk) (e : Ending) : Prop := (∃ x, x ≠ 0 ∧ FaultR L x ∧ e = .returned (.tuple #[.slice none 0 0, .slice none 0 0, .int .i64 x])) ∨
  (∃ st nv fv ov N w1, runR rd0 L = (st, none) ∧ st.opened = [] ∧ RdB st L.length ∧ RdV w1 w' nv fv ov N st.free [] ∧ N.map Prod.fst = st.nodes ∧ e = .returned (.tuple #[nv, fv, .int .i64 0]))
def ReadO (w' : World) (s : ByteArray) (e : Ending) : Prop := (∃ E x y : Nat, E ≠ 0 ∧ scanF s 0 = .bad E x y ∧ e = .returned (.tuple #[.slice none 0 0, .slice none 0 0, .int .i64 (E : Int)])) ∨ (∃ L, scanF s 0 = .ok L ∧ ReadL w' L e)
theorem fault_ne {L : List Tk} : ∀ {st st' : Rd} {t : Tk} {x : Int}, runR st L = (st', some (t, x)) → x ≠ 0 := by
  induction L with
  | nil => intro st st' t x h; cases h
  | cons y L ih =>
    intro st st' t x h
    rw [runR] at h
    split at h
    · exact ih h
    · simp only [Prod.mk.injEq, Option.some.injEq] at h
      obtain ⟨rfl, _, rfl⟩ := h
      assumption
theorem readL_of {w w' : World} {L : List Tk} {e : Ending} (h : ParseO w w' L e) : ∃ nv fv a b x, e = .returned (.tuple #[nv, fv, .int .i64 a, .int .i64 b, .int .i64 x]) ∧ Hid (ReadL w' L (.returned (.tuple #[nv, fv, .int .i64 x]))) := by
  obtain ⟨_, ⟨st, t, x, h1, rfl⟩ | ⟨st, t, k, h1, h2, rfl⟩ | ⟨st, nv, fv, ov, N, h1, h2, h3, h4, h5, rfl⟩⟩ := h
  · exact ⟨_, _, _, _, _, rfl, Lib.hid (.inl ⟨x, fault_ne h1, .inl ⟨st, t, h1⟩, rfl⟩)⟩
  · exact ⟨_, _, _, _, _, rfl, Lib.hid (.inl ⟨71, by decide, .inr ⟨rfl, st, (t, k), h1, h2⟩, rfl⟩)⟩
  · exact ⟨_, _, _, _, _, rfl, Lib.hid (.inr ⟨st, nv, fv, ov, N, w, h1, h2, h3, h4, h5, rfl⟩)⟩
set_option maxHeartbeats 2000000 in
set_option maxRecDepth 100000 in
theorem read_any (s : ByteArray) (hs : s.size ≤ 1048576) (w : World) (hL : LexW w) : Calls Tryd.prog 5 #[.string s] w fun e w' => ReadO w' s e ∧ Below w.heap.size w w' := by
  have SC := Lib.hid (scan_any s hs w hL)
  have HLW := Lib.hid hL
  have HS := Lib.hid hs
  clear hL hs
  go_enter Tryd.func5, Tryd.ntmps5
  go_wp2_with fail
  refine SC.out.mono ?_
  rintro e w1 ⟨hb, (⟨L, v, hLs, rfl, htk, -⟩ | ⟨E, x0, y0, hbad, hE, rfl⟩)⟩
  · have HB1 := Lib.hid hb
    have HSC := Lib.hid hLs
    have PA := Lib.hid (parse_any L v w1 (HLW.out.below hb) htk (Nat.le_trans (scan_count HS.out hLs) (by have := HS.out; omega)) (fun x hx => wr_big ((scan_good HS.out hLs).1 x hx)))
    obtain ⟨va, vc, rfl, -⟩ := htk
    clear hb hLs SC
    go_wp2_with fail
    refine PA.out.mono ?_
    rintro e w2 hp
    have HB2 := Lib.hid (HB1.out.trans (hp.1.mono HB1.out.size))
    obtain ⟨nv, fv, a, b, x, rfl, hr⟩ := readL_of hp
    clear hp PA
    go_wp2
    refine bodyPost_ret (v := .tuple #[nv, fv, .int .i64 x]) ?_ rfl ⟨.inr ⟨L, HSC.out, hr.out⟩, HB2.out⟩
    simp [results, Tryd.results5, go_sem]
  · have HB1 := Lib.hid hb
    have HBAD := Lib.hid hbad
    have d1 : ((E : Int) != 0) = true := bne_iff_ne.2 (by omega)
    have HE := Lib.hid hE
    clear hb hbad hE SC
    go_wp2
    refine bodyPost_ret (v := .tuple #[.slice none 0 0, .slice none 0 0, .int .i64 (E : Int)]) ?_ rfl ⟨.inl ⟨E, x0, y0, HE.out, HBAD.out, rfl⟩, HB1.out⟩
    simp [results, Tryd.results5, go_sem]
end Go.Proofs.YtpkdiciinhjfjaaDoor

/- sexp's laws: alive. -/
namespace Go.Proofs.YtpkdiciinhjfjaaDoor
open Go.RowKit Mth

def sA : ByteArray := ⟨#[40, 97, 32, 40, 98, 41, 32, 40, 41, 41]⟩
def tA0 : Tk := ⟨1, ⟨#[40]⟩, false, 1, 1⟩
def tA1 : Tk := ⟨8, ⟨#[97]⟩, false, 1, 2⟩
def tA2 : Tk := ⟨1, ⟨#[40]⟩, false, 1, 4⟩
def tA3 : Tk := ⟨8, ⟨#[98]⟩, false, 1, 5⟩
def tA4 : Tk := ⟨2, ⟨#[41]⟩, false, 1, 6⟩
def tA5 : Tk := ⟨1, ⟨#[40]⟩, false, 1, 8⟩
def tA6 : Tk := ⟨2, ⟨#[41]⟩, false, 1, 9⟩
def tA7 : Tk := ⟨2, ⟨#[41]⟩, false, 1, 10⟩
def LA : List Tk := [tA0, tA1, tA2, tA3, tA4, tA5, tA6, tA7]
def TA : List Nd := [⟨1, tA1, []⟩, ⟨1, tA3, []⟩, ⟨2, tA2, [1]⟩, ⟨2, tA5, []⟩, ⟨2, tA0, [0, 2, 3]⟩]
theorem open_at {s : ByteArray} {p : Nat} (h : cb s p = 40) : oneF s p = .tok 1 ⟨#[40]⟩ false (p + 1) := by unfold oneF; rw [if_pos h]
theorem close_at {s : ByteArray} {p : Nat} (h : cb s p = 41) : oneF s p = .tok 2 ⟨#[41]⟩ false (p + 1) := by unfold oneF; rw [if_neg (by omega), if_pos h]
theorem one_a1 : oneF sA 1 = .tok 8 ⟨#[97]⟩ false 2 := by
  rw [word_tok (s := sA) (p := 1) (q := 2) (by decide) (by intro i i1 i2; obtain rfl : i = 1 := (by omega); decide) (by decide) (by decide) (.inr (by decide))]
  rfl
theorem one_a4 : oneF sA 4 = .tok 8 ⟨#[98]⟩ false 5 := by
  rw [word_tok (s := sA) (p := 4) (q := 5) (by decide) (by intro i i1 i2; obtain rfl : i = 4 := (by omega); decide) (by decide) (by decide) (.inr (by decide))]
  rfl
theorem scan_sA : scanF sA 0 = .ok LA := by
  have e0 : skipF sA 0 = 0 := skip_here (by decide) (by decide)
  have e1 : skipF sA 1 = 1 := skip_here (by decide) (by decide)
  have e2 : skipF sA 2 = 3 := by rw [skip_blank (by decide) (by decide)]; exact skip_here (by decide) (by decide)
  have e4 : skipF sA 4 = 4 := skip_here (by decide) (by decide)
  have e5 : skipF sA 5 = 5 := skip_here (by decide) (by decide)
  have e6 : skipF sA 6 = 7 := by rw [skip_blank (by decide) (by decide)]; exact skip_here (by decide) (by decide)
  have e8 : skipF sA 8 = 8 := skip_here (by decide) (by decide)
  have e9 : skipF sA 9 = 9 := skip_here (by decide) (by decide)
  have e10 : skipF sA 10 = 10 := skip_end (by decide)
  have h10 : scanF sA 10 = .ok [] := scan_end (by rw [e10]; decide)
  have h9 : scanF sA 9 = .ok [tA7] := by
    rw [scan_tok (p := 9) (n := 10) (by rw [e9]; decide) (by rw [e9]; exact close_at (by decide)) (by rw [e9]; decide), h10, e9]; rfl
  have h8 : scanF sA 8 = .ok [tA6, tA7] := by
    rw [scan_tok (p := 8) (n := 9) (by rw [e8]; decide) (by rw [e8]; exact close_at (by decide)) (by rw [e8]; decide), h9, e8]; rfl
  have h6 : scanF sA 6 = .ok [tA5, tA6, tA7] := by
    rw [scan_tok (p := 6) (n := 8) (by rw [e6]; decide) (by rw [e6]; exact open_at (by decide)) (by rw [e6]; decide), h8, e6]; rfl
  have h5 : scanF sA 5 = .ok [tA4, tA5, tA6, tA7] := by
    rw [scan_tok (p := 5) (n := 6) (by rw [e5]; decide) (by rw [e5]; exact close_at (by decide)) (by rw [e5]; decide), h6, e5]; rfl
  have h4 : scanF sA 4 = .ok [tA3, tA4, tA5, tA6, tA7] := by
    rw [scan_tok (p := 4) (n := 5) (by rw [e4]; decide) (by rw [e4]; exact one_a4) (by rw [e4]; decide), h5, e4]; rfl
  have h2 : scanF sA 2 = .ok [tA2, tA3, tA4, tA5, tA6, tA7] := by
    rw [scan_tok (p := 2) (n := 4) (by rw [e2]; decide) (by rw [e2]; exact open_at (by decide)) (by rw [e2]; decide), h4, e2]; rfl
  have h1 : scanF sA 1 = .ok [tA1, tA2, tA3, tA4, tA5, tA6, tA7] := by
    rw [scan_tok (p := 1) (n := 2) (by rw [e1]; decide) (by rw [e1]; exact one_a1) (by rw [e1]; decide), h2, e1]; rfl
  rw [scan_tok (p := 0) (n := 1) (by rw [e0]; decide) (by rw [e0]; exact open_at (by decide)) (by rw [e0]; decide), h1, e0]; rfl
theorem good_LA : ∀ x ∈ LA, Good x := (scan_good (by decide) scan_sA).1
theorem stepE_ok {s : Rd} {t : Tk} (hg : Good t) (h1 : t.k = 1 → s.opened.length ≠ 4096) (h2 : t.k = 2 → s.opened ≠ []) : stepE s t = 0 := by
  unfold stepE
  rw [if_neg (not_not_intro hg)]
  split
  · rw [if_neg (h1 ‹_›)]
  · split
    · rw [if_neg (h2 ‹_›)]
    · rfl
theorem run_ok {s : Rd} {t : Tk} {r : List Tk} (h : stepE s t = 0) : runR s (t :: r) = runR (stepS s t) r := by rw [runR, if_pos h]
theorem run_LA : runR rd0 LA = (⟨TA, [4], []⟩, none) := by
  have hg := good_LA
  unfold LA at hg ⊢
  rw [run_ok (stepE_ok (hg _ (by simp)) (fun _ => by decide) (fun h => by cases h)), run_ok (stepE_ok (hg _ (by simp)) (fun h => by cases h) (fun h => by cases h)), run_ok (stepE_ok (hg _ (by simp)) (fun _ => by decide) (fun h => by cases h)),
    run_ok (stepE_ok (hg _ (by simp)) (fun h => by cases h) (fun h => by cases h)), run_ok (stepE_ok (hg _ (by simp)) (fun h => by cases h) (fun _ h => by cases h)), run_ok (stepE_ok (hg _ (by simp)) (fun _ => by decide) (fun h => by cases h)),
    run_ok (stepE_ok (hg _ (by simp)) (fun h => by cases h) (fun _ h => by cases h)), run_ok (stepE_ok (hg _ (by simp)) (fun h => by cases h) (fun _ h => by cases h))]
  rfl
theorem tab_TA : TabC TA := ⟨by decide, by decide, by decide⟩
theorem snd_A0 : Sound TA 0 := Sound.mk 0 (by decide) (.inl ⟨rfl, good_LA tA1 (by simp [LA]), by decide, by decide⟩) (fun h => by cases h)
theorem snd_A1 : Sound TA 1 := Sound.mk 1 (by decide) (.inl ⟨rfl, good_LA tA3 (by simp [LA]), by decide, by decide⟩) (fun h => by cases h)
theorem snd_A2 : Sound TA 2 := Sound.mk 2 (by decide) (.inr ⟨rfl, by decide⟩) (fun _ x hx => by
  obtain rfl : x = 1 := by simpa [TA] using hx
  exact snd_A1)
theorem snd_A3 : Sound TA 3 := Sound.mk 3 (by decide) (.inr ⟨rfl, by decide⟩) (fun _ x hx => by simp [TA] at hx)
theorem snd_A4 : Sound TA 4 := Sound.mk 4 (by decide) (.inr ⟨rfl, by decide⟩) (fun _ x hx => by
  have : x = 0 ∨ x = 2 ∨ x = 3 := by simpa [TA] using hx
  rcases this with rfl | rfl | rfl
  · exact snd_A0
  · exact snd_A2
  · exact snd_A3)
theorem txt_A : wrF TA 4 = [40, 97, 32, 40, 98, 41, 32, 40, 41, 41] := by
  have w0 : wrF TA 0 = [97] := wrF_atom (by decide) rfl
  have w1 : wrF TA 1 = [98] := wrF_atom (by decide) rfl
  have w2 : wrF TA 2 = [40, 98, 41] := by
    rw [wrF_list (by decide) rfl (by decide)]
    show 40 :: (joinB [wrF TA 1] ++ [41]) = _
    rw [w1]; rfl
  have w3 : wrF TA 3 = [40, 41] := by rw [wrF_list (by decide) rfl (by decide)]; rfl
  rw [wrF_list (by decide) rfl (by decide)]
  show 40 :: (joinB [wrF TA 0, wrF TA 2, wrF TA 3] ++ [41]) = _
  rw [w0, w2, w3]; rfl
theorem dep_A : numF baseD moreD TA 4 = 2 := by
  have n0 : numF baseD moreD TA 0 = 0 := num_at (by decide) (sound_snd snd_A0).2.1
  have n1 : numF baseD moreD TA 1 = 0 := num_at (by decide) (sound_snd snd_A1).2.1
  have n2 : numF baseD moreD TA 2 = 1 := by
    rw [num_at (by decide) (sound_snd snd_A2).2.1]
    show moreD 1 (numF baseD moreD TA 1) = 1
    rw [n1]; rfl
  have n3 : numF baseD moreD TA 3 = 1 := num_at (by decide) (sound_snd snd_A3).2.1
  rw [num_at (by decide) (sound_snd snd_A4).2.1]
  show moreD (moreD (moreD 1 (numF baseD moreD TA 0)) (numF baseD moreD TA 2)) (numF baseD moreD TA 3) = 2
  rw [n0, n2, n3]; rfl
end Go.Proofs.YtpkdiciinhjfjaaDoor

/- sexp's laws: alive: the walk. -/
namespace Go.Proofs.YtpkdiciinhjfjaaDoor
open Go.RowKit Mth

theorem read_sA (w : World) (hL : LexW w) : Calls Tryd.prog 5 #[.string sA] w fun e w' => ∃ na nc fb fo fc, e = .returned (.tuple #[.slice na 5 nc, .slice (some ⟨fb, fo, none⟩) 1 fc, .int .i64 0]) ∧ SxL w' (.slice na 5 nc) TA ∧ w'.cell? ⟨fb, fo, none⟩ = some (.int .i64 4) ∧ Below w.heap.size w w' := by
  refine (read_any sA (by decide) w hL).mono ?_
  rintro e w' ⟨h, hb⟩
  rcases h with ⟨E, x, y, _, h, _⟩ | ⟨L, h, hr⟩
  · rw [scan_sA] at h; cases h
  · rw [scan_sA] at h
    injection h with h
    subst h
    rcases hr with ⟨x, hx, ⟨st, t, h⟩ | ⟨_, st, p, h, hl⟩, _⟩ | ⟨st, nv, fv, ov, N, w1, h, ho, hB, hV, hN, rfl⟩
    · rw [run_LA] at h; cases h
    · rw [run_LA] at h
      injection h with h _
      subst h; cases hl
    · rw [run_LA] at h
      injection h with h _
      subst h
      have hsx := hV.sx
      rw [hN] at hsx
      have hin := own_inL hV.free
      obtain ⟨na, nc, rfl⟩ := hsx.shape
      obtain ⟨fa, fc, rfl, hc⟩ := hin
      obtain ⟨fb, fo, rfl, -, hcc⟩ := hc (by simp)
      exact ⟨na, nc, fb, fo, fc, rfl, hsx, hcc 0 4 rfl, hb⟩
theorem text_A (v : Value) (w : World) (h : SxL w v TA) (hL : LexW w) : Calls Tryd.prog 7 #[v, .int .i64 4] w fun e w' => e = .returned (.tuple #[.string sA, .int .i64 0]) ∧ Below w.heap.size w w' := by
  refine (text_ok tab_TA v 4 w h hL (by decide) snd_A4 (by rw [txt_A]; decide)).mono ?_
  rintro e w' ⟨rfl, hb⟩
  rw [txt_A]
  exact ⟨rfl, hb⟩
theorem depth_A (v : Value) (w : World) (h : SxL w v TA) (hL : LexW w) : Calls Tryd.prog 12 #[v, .int .i64 4] w fun e w' => e = .returned (.tuple #[.int .i64 2, .int .i64 0]) ∧ Below w.heap.size w w' := by
  refine (depth_any tab_TA v 4 w h hL).mono ?_
  rintro e w' ⟨⟨h, _⟩ | ⟨k, hk, _, ⟨_, rfl⟩ | ⟨h, _⟩⟩, hb⟩
  · exact absurd ⟨by decide, by decide⟩ h
  · obtain rfl : k = 4 := by omega
    rw [dep_A]
    exact ⟨rfl, hb⟩
  · obtain rfl : k = 4 := by omega
    exact absurd snd_A4 h
set_option maxHeartbeats 4000000 in
set_option maxRecDepth 100000 in
theorem alive7_any (w : World) (hL : LexW w) : Calls Tryd.prog 6 #[] w fun e w' => e = .returned (.bool true) ∧ Below w.heap.size w w' := by
  have HLW := Lib.hid hL
  have RD := Lib.hid (read_sA w hL)
  unfold sA at RD
  clear hL
  go_enter Tryd.func6, Tryd.ntmps6
  go_wp2_with fail
  refine RD.out.mono ?_
  rintro e w1 ⟨na, nc, fb, fo, fc, rfl, hsx, c0, hb⟩
  have HB1 := Lib.hid hb
  have TX := Lib.hid (text_A _ w1 hsx (HLW.out.below hb))
  have DP : Hid (∀ W, Below w1.heap.size w1 W → Calls Tryd.prog 12 #[.slice na 5 nc, .int .i64 4] W fun e w' => e = .returned (.tuple #[.int .i64 2, .int .i64 0]) ∧ Below W.heap.size W w') := Lib.hid (fun W hW => depth_A _ W (hsx.below hW) ((HLW.out.below hb).below hW))
  unfold sA at TX
  clear hsx hb RD
  go_wp2_with fail
  refine TX.out.mono ?_
  rintro e w2 ⟨rfl, hb2⟩
  have HB2 := Lib.hid hb2
  clear hb2 TX c0
  go_wp2_with fail
  refine (DP.out _ HB2.out).mono ?_
  rintro e w3 ⟨rfl, hb3⟩
  have HB3 := Lib.hid (belowT HB1.out (belowT HB2.out hb3))
  clear hb3
  go_wp2
  go_ret
  exact ⟨rfl, HB3.out⟩
end Go.Proofs.YtpkdiciinhjfjaaDoor

/- a list of ints that the call makes. -/
namespace Go.Proofs.YtpkdiciinhjfjaaDoor
open Go.RowKit Mth

/-- a list of ints in block B -/
def IlW (w : World) (B : Nat) (m : List Int) : Prop := w.ownsRow B 3 1 (.slice (some ⟨B, 0, none⟩) m.length m.length) m.length (inCells m)
theorem IlW.at {w : World} {B i : Nat} {m : List Int} (h : IlW w B m) (hi : i < m.length) : w.cell? ⟨B, i, none⟩ = some (.int .i64 m[i]) ∧ w.frozen? ⟨B, i, none⟩ = false := by
  refine ⟨?_, World.ownsRow.frozenAt h _⟩
  rw [World.ownsRow.cellAt h i (by omega)]
  unfold inCells
  rw [List.getElem?_map, List.getElem?_eq_getElem hi]; rfl
theorem IlW.set {w : World} {B i : Nat} {m : List Int} {x : Int} (h : IlW w B m) : IlW (w.setCell ⟨B, i, none⟩ (.int .i64 x)) B (m.set i x) := by
  have := (World.ownsRow.stored h i (.int .i64 x)).1
  unfold IlW inCells at *
  rw [List.length_set, List.map_set]
  exact this
theorem IlW.keeps {w w' : World} {X : Nat → Prop} {B : Nat} {m : List Int} (h : IlW w B m) (hk : Keeps w w' X) (hx : X B) : IlW w' B m := own_keeps h hk (fun g hg => by obtain rfl := Option.some.inj hg; exact hx)
theorem IlW.lt {w : World} {B : Nat} {m : List Int} (h : IlW w B m) : B < w.heap.size := (World.ownsRow.lt h B rfl).2
theorem zeros_i (n : Nat) : (madeCells (Value.int .i64 0).cells (n * 1)).toList = List.replicate n (Value.int .i64 0) := by
  unfold madeCells
  apply List.ext_getElem
  · simp [Value.cells]
  · intro i h1 h2
    simp [Value.cells, Nat.mod_one]
theorem make_ints {w : World} {ops : Array Oper} {rest : List Oper} {o : Oper} {a : Act} {Q : Exit → Act → World → Prop}
    (hg : o.guard = none) (l c : Operand) (hop : o.op = Op.makeSlice 23 l c) (L C : Int) (n : Nat) (hl : a.eval l = .int .i64 L) (hc : a.eval c = .int .i64 C) (hL : L = (n : Int)) (hC : C = (n : Int))
    (hn : n ≤ 16777217)
    (hK : ∀ w', IlW w' w.heap.size (List.replicate n 0) → Below w.heap.size w w' → wpList Tryd.prog ops Q rest (a.put o.dst (.slice (some ⟨w.heap.size, 0, none⟩) n n)) w') :
    wpList Tryd.prog ops Q (o :: rest) a w := by
  obtain ⟨i0, hi, hz0, hz1, hz2⟩ := info_parts info_int
  refine wpList_make_full w hg l c 23 hop w.heap.size 3 i0 _ 1 Tryd.underlying23 hi hz0 hz1 .i64 .i64 L C n hl hc hL hC (by rw [hz2]; omega) (by unfold maxLen; omega) (Nat.le_refl _) ?_
  intro w' hown hgrow
  refine hK w' ?_ ((Below.refl _ _).grown hgrow (Nat.le_refl _) (fun k e => by simp at e))
  unfold IlW inCells
  rw [List.length_replicate, List.map_replicate]
  rw [zeros_i] at hown
  exact hown
end Go.Proofs.YtpkdiciinhjfjaaDoor
