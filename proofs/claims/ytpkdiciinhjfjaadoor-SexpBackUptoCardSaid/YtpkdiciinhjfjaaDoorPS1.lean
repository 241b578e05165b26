/- PVA PWA PWB PWC PWD PWE. -/
import Derived.Test.YtpkdiciinhjfjaaDoorPD1
import Derived.Test.YtpkdiciinhjfjaaDoorPG4
import Derived.Test.YtpkdiciinhjfjaaDoorPG6
import Derived.Deep.QuietTactic
import Derived.BigQuiet
set_option linter.unusedVariables false
set_option linter.unusedSimpArgs false
/- tribunalref07: Parse: mathematics. -/
namespace Go.Proofs.YtpkdiciinhjfjaaDoor
open Go.RowKit Mth

/-- the reference's stack: each open list's token and its kids so far; the lowest is no list -/
def flatK (S : List (Tk × List Int)) : List Int := S.flatMap Prod.snd
def offs : Nat → List (Tk × List Int) → List (Tk × Nat)
  | _, [] => []
  | n, p :: r => (p.1, n) :: offs (n + p.2.length) r
theorem flatK_app (A B : List (Tk × List Int)) : flatK (A ++ B) = flatK A ++ flatK B := List.flatMap_append
theorem flatK_one (p : Tk × List Int) : flatK [p] = p.2 := by simp [flatK]
theorem offs_app : ∀ (n : Nat) (A B : List (Tk × List Int)), offs n (A ++ B) = offs n A ++ offs (n + (flatK A).length) B
  | n, [], B => by simp [offs, flatK]
  | n, p :: A, B => by
    show (p.1, n) :: offs (n + p.2.length) (A ++ B) = (p.1, n) :: offs (n + p.2.length) A ++ offs (n + (flatK (p :: A)).length) B
    rw [offs_app (n + p.2.length) A B, List.cons_append]
    have e : (flatK (p :: A)).length = p.2.length + (flatK A).length := by show (List.flatMap Prod.snd (p :: A)).length = _; rw [List.flatMap_cons, List.length_append]; rfl
    rw [e, Nat.add_assoc]
theorem offs_len : ∀ (n : Nat) (A : List (Tk × List Int)), (offs n A).length = A.length
  | n, [] => rfl
  | n, p :: A => by rw [offs, List.length_cons, List.length_cons, offs_len]
/-- the state that a stack of the reference's is -/
def toRd (N : List Nd) (S : List (Tk × List Int)) : Rd := ⟨N, flatK S, (offs 0 S).tail⟩
theorem tail_app {α : Type} {A B : List α} (h : A ≠ []) : (A ++ B).tail = A.tail ++ B := by
  cases A with
  | nil => exact absurd rfl h
  | cons x A => rfl
theorem offs_ne {n : Nat} {S : List (Tk × List Int)} (h : S ≠ []) : offs n S ≠ [] := fun e => h (List.eq_nil_of_length_eq_zero (by rw [← offs_len n S, e]; rfl))
theorem toRd_opened {N : List Nd} {S : List (Tk × List Int)} : (toRd N S).opened.length = S.length - 1 := by
  show (offs 0 S).tail.length = _
  rw [List.length_tail, offs_len]
theorem toRd_open {N : List Nd} {S : List (Tk × List Int)} {t : Tk} (hS : S ≠ []) (hk : t.k = 1) : stepS (toRd N S) t = toRd N (S ++ [(t, [])]) := by
  unfold stepS
  rw [if_pos hk]
  unfold toRd
  rw [flatK_app, offs_app, tail_app (offs_ne hS)]
  simp [offs, flatK]
theorem toRd_put {N : List Nd} {S : List (Tk × List Int)} {u : Tk} {ks xs : List Int} : toRd N (S ++ [(u, ks ++ xs)]) = ⟨N, (toRd N (S ++ [(u, ks)])).free ++ xs, (toRd N (S ++ [(u, ks)])).opened⟩ := by
  unfold toRd
  simp only [flatK_app, flatK_one, offs_app, offs, List.append_assoc]
theorem toRd_atom {N : List Nd} {S : List (Tk × List Int)} {t u : Tk} {ks : List Int} (h1 : t.k ≠ 1) (h2 : t.k ≠ 2) : stepS (toRd N (S ++ [(u, ks)])) t = toRd (N ++ [⟨1, t, []⟩]) (S ++ [(u, ks ++ [(N.length : Int)])]) := by
  unfold stepS
  rw [if_neg h1, if_neg h2, toRd_put]
  rfl
theorem toRd_last {N : List Nd} {S : List (Tk × List Int)} {u : Tk} {ks : List Int} (hS : S ≠ []) : (toRd N (S ++ [(u, ks)])).opened = (toRd N S).opened ++ [(u, (flatK S).length)] := by
  unfold toRd
  rw [offs_app, tail_app (offs_ne hS)]
  simp [offs]
theorem toRd_close {N : List Nd} {S : List (Tk × List Int)} {t u v : Tk} {ks ls : List Int} (hk : t.k = 2) : stepS (toRd N ((S ++ [(v, ls)]) ++ [(u, ks)])) t = toRd (N ++ [⟨2, u, ks⟩]) (S ++ [(v, ls ++ [(N.length : Int)])]) := by
  have hS : S ++ [(v, ls)] ≠ [] := by simp
  have hk1 : ¬ t.k = 1 := by omega
  unfold stepS
  rw [if_neg hk1, if_pos hk, toRd_last hS, List.getLast?_concat, List.dropLast_concat]
  have hf : (toRd N ((S ++ [(v, ls)]) ++ [(u, ks)])).free = flatK (S ++ [(v, ls)]) ++ ks := by
    show flatK _ = _
    rw [flatK_app, flatK_one]
  show (⟨_, _, _⟩ : Rd) = _
  rw [toRd_put, hf, List.drop_left, List.take_left]
  rfl
theorem toRd_E {N : List Nd} {S : List (Tk × List Int)} {t : Tk} (hg : Good t) (hS : 0 < S.length) (hb : S.length ≤ 4097) : stepE (toRd N S) t = if t.k = 1 then (if 4096 < S.length then 72 else 0) else if t.k = 2 then (if S.length = 1 then 70 else 0) else 0 := by
  have hl := toRd_opened (N := N) (S := S)
  unfold stepE
  rw [if_neg (not_not_intro hg)]
  by_cases h1 : t.k = 1
  · rw [if_pos h1, if_pos h1]
    by_cases h : 4096 < S.length
    · rw [if_pos h, if_pos (by omega)]
    · rw [if_neg h, if_neg (by omega)]
  · rw [if_neg h1, if_neg h1]
    by_cases h2 : t.k = 2
    · rw [if_pos h2, if_pos h2]
      by_cases h : S.length = 1
      · rw [if_pos h, if_pos (List.eq_nil_of_length_eq_zero (by omega))]
      · rw [if_neg h, if_neg (fun e => by rw [e] at hl; simp at hl; omega)]
    · rw [if_neg h2, if_neg h2]
theorem toRd_bad {N : List Nd} {S : List (Tk × List Int)} {t : Tk} (hg : ¬ Good t) : stepE (toRd N S) t = 73 := by unfold stepE; exact if_pos hg
/-- the place that Parse tells -/
noncomputable def plR (L : List Tk) : Int × Int := match (runR rd0 L).2 with | some p => (p.1.l, p.1.c) | none => (match (runR rd0 L).1.opened.getLast? with | some p => (p.1.l, p.1.c) | none => (0, 0))
/-- nodes in memory, all in blocks from B on -/
def SxB (w : World) (B : Nat) (v : Value) (L : List Nd) : Prop := ∃ ao cap, v = .slice ao L.length cap ∧ (L ≠ [] → ∃ b off, ao = some ⟨b, off, none⟩ ∧ b < w.heap.size ∧ B ≤ b ∧ ∀ (i : Nat) nd, L[i]? = some nd →
  w.cell? ⟨b, off + i * 7, none⟩ = some (.int .i64 nd.kind) ∧ (∀ j u, (tkCells nd.tok)[j]? = some u → w.cell? ⟨b, off + i * 7 + 1 + j, none⟩ = some u) ∧ ∃ kv, w.cell? ⟨b, off + i * 7 + 6, none⟩ = some kv ∧ InX w (fun b => B ≤ b) kv nd.kids)
theorem SxB.sx {w : World} {B : Nat} {v : Value} {L : List Nd} (h : SxB w B v L) : SxL w v L := by
  obtain ⟨ao, cap, h1, h2⟩ := h
  refine ⟨ao, cap, h1, fun hn => ?_⟩
  obtain ⟨b, off, e, hl, _, hc⟩ := h2 hn
  refine ⟨b, off, e, hl, fun i nd hi => ?_⟩
  obtain ⟨c0, c1, kv, c2, c3⟩ := hc i nd hi
  exact ⟨c0, c1, kv, c2, c3.inL⟩
theorem SxB.keeps {w w' : World} {B : Nat} {v : Value} {L : List Nd} (h : SxB w B v L) (hk : Keeps w w' (fun b => B ≤ b)) : SxB w' B v L := by
  obtain ⟨ao, cap, h1, h2⟩ := h
  refine ⟨ao, cap, h1, fun hn => ?_⟩
  obtain ⟨b, off, e, hl, hB, hc⟩ := h2 hn
  refine ⟨b, off, e, Nat.lt_of_lt_of_le hl hk.1, hB, fun i nd hi => ?_⟩
  obtain ⟨c0, c1, kv, c2, c3⟩ := hc i nd hi
  exact ⟨(hk.cell hl hB).trans c0, fun j u hj => (hk.cell hl hB).trans (c1 j u hj), kv, (hk.cell hl hB).trans c2, c3.keeps hk (fun _ _ hx => hx)⟩
theorem SxB.nil (w : World) (B : Nat) : SxB w B (.slice none 0 0) [] := ⟨none, 0, rfl, fun h => absurd rfl h⟩
theorem inx_nil (w : World) (X : Nat → Prop) : InX w X (.slice none 0 0) [] := ⟨none, 0, rfl, fun h => absurd rfl h⟩
theorem own_inB {w : World} {B base : Nat} {v : Value} {l : List Int} (h : w.ownsRow base 3 1 v l.length (inCells l)) (hB : B ≤ base) : InX w (fun b => B ≤ b) v l := by
  obtain ⟨ao, cap, rfl⟩ := own_len h
  refine ⟨ao, cap, rfl, fun hne => ?_⟩
  obtain ⟨g, cap', e, hg, hc⟩ := own_cells h (by rcases Nat.eq_zero_or_pos l.length with h0 | h0; exact absurd (List.eq_nil_of_length_eq_zero h0) hne; exact h0)
  simp only [Value.slice.injEq] at e
  refine ⟨g, 0, e.1, hg, Nat.le_trans hB (h.lt g (by rw [e.1]; rfl)).1, fun j x hx => ?_⟩
  rw [Nat.zero_add]
  exact hc j _ (by unfold inCells; rw [List.getElem?_map, hx]; rfl)
/-- nodes in an owned row are nodes in memory -/
theorem own_sxB {w : World} {B base : Nat} {nv : Value} {N : List (Nd × Value)} (h : w.ownsRow base 36 7 nv N.length (ndsCells N)) (hB : B ≤ base) (hk : ∀ p ∈ N, InX w (fun b => B ≤ b) p.2 p.1.kids) : SxB w B nv (N.map Prod.fst) := by
  obtain ⟨no, nc, rfl⟩ := own_len h
  refine ⟨no, nc, by rw [List.length_map], fun hne => ?_⟩
  have hN : 0 < N.length := by
    rcases Nat.eq_zero_or_pos N.length with h0 | h0
    · exact absurd (by rw [List.eq_nil_of_length_eq_zero h0]; rfl) hne
    · exact h0
  obtain ⟨g, cap, e, hg, hc⟩ := own_cells h hN
  simp only [Value.slice.injEq] at e
  refine ⟨g, 0, e.1, hg, Nat.le_trans hB (h.lt g (by rw [e.1]; rfl)).1, fun i nd hi => ?_⟩
  rw [List.getElem?_map] at hi
  obtain ⟨p, hp, rfl⟩ := Option.map_eq_some_iff.1 hi
  have hcell := fun j u hu => hc _ _ (nds_get N i p hp j u hu)
  simp only [Nat.zero_add]
  refine ⟨hcell 0 _ rfl, fun j u hj => ?_, p.2, hcell 6 _ rfl, hk p (List.mem_of_getElem? hp)⟩
  rw [show i * 7 + 1 + j = i * 7 + (1 + j) by omega]
  refine hcell (1 + j) u ?_
  match j, hj with
  | 0, hj => exact hj
  | 1, hj => exact hj
  | 2, hj => exact hj
  | 3, hj => exact hj
  | 4, hj => exact hj
  | j + 5, hj => simp [tkCells] at hj
/-- Parse's answer in one form, its place too, in blocks from B on -/
def UniP (B : Nat) (w' : World) (L : List Tk) (e : Ending) : Prop := ∃ na n nc fa m fc, e = .returned (.tuple #[.slice na n nc, .slice fa m fc, .int .i64 (plR L).1, .int .i64 (plR L).2, .int .i64 (errR L)]) ∧ n = (ndsR L).length ∧ m = (frR L).length ∧ n ≤ nc ∧ SxB w' B (.slice na n nc) (ndsR L) ∧ InX w' (fun b => B ≤ b) (.slice fa m fc) (frR L)
theorem uni_fault {B : Nat} {w' : World} {L : List Tk} {s : Rd} {t : Tk} {x : Int} (h1 : runR rd0 L = (s, some (t, x))) (hx : x ≠ 0) : UniP B w' L (.returned (.tuple #[.slice none 0 0, .slice none 0 0, .int .i64 t.l, .int .i64 t.c, .int .i64 x])) := by
  have he : errR L = x := by unfold errR; rw [h1]
  have hn : ndsR L = [] := by unfold ndsR; rw [he, if_neg hx]
  have hf : frR L = [] := by unfold frR; rw [he, if_neg hx]
  have hp : plR L = (t.l, t.c) := by unfold plR; rw [h1]
  unfold UniP
  rw [he, hn, hf, hp]
  exact ⟨none, 0, 0, none, 0, 0, rfl, rfl, rfl, Nat.le_refl _, SxB.nil _ _, inx_nil _ _⟩
theorem uni_end {B : Nat} {w' : World} {L : List Tk} {s : Rd} {t : Tk} {k : Nat} (h1 : runR rd0 L = (s, none)) (h2 : s.opened.getLast? = some (t, k)) : UniP B w' L (.returned (.tuple #[.slice none 0 0, .slice none 0 0, .int .i64 t.l, .int .i64 t.c, .int .i64 71])) := by
  have he : errR L = 71 := by
    unfold errR; rw [h1]
    exact if_neg (fun e => by rw [show s.opened = [] from e] at h2; cases h2)
  have hn : ndsR L = [] := by unfold ndsR; rw [he, if_neg (by decide)]
  have hf : frR L = [] := by unfold frR; rw [he, if_neg (by decide)]
  have hp : plR L = (t.l, t.c) := by unfold plR; rw [h1]; show (match s.opened.getLast? with | some p => (p.1.l, p.1.c) | none => (0, 0)) = _; rw [h2]
  unfold UniP
  rw [he, hn, hf, hp]
  exact ⟨none, 0, 0, none, 0, 0, rfl, rfl, rfl, Nat.le_refl _, SxB.nil _ _, inx_nil _ _⟩
theorem uni_ok {B : Nat} {w' : World} {L : List Tk} {s : Rd} {na fa : Option Addr} {n nc m fc : Nat} (h1 : runR rd0 L = (s, none)) (h2 : s.opened = []) (hn1 : n = s.nodes.length) (hm : m = s.free.length) (hc : n ≤ nc) (hs : SxB w' B (.slice na n nc) s.nodes) (hi : InX w' (fun b => B ≤ b) (.slice fa m fc) s.free) : UniP B w' L (.returned (.tuple #[.slice na n nc, .slice fa m fc, .int .i64 0, .int .i64 0, .int .i64 0])) := by
  have he : errR L = 0 := by unfold errR; rw [h1]; exact if_pos h2
  have hn : ndsR L = s.nodes := by unfold ndsR; rw [he, if_pos rfl, h1]
  have hf : frR L = s.free := by unfold frR; rw [he, if_pos rfl, h1]
  have hp : plR L = (0, 0) := by unfold plR; rw [h1]; show (match s.opened.getLast? with | some p => (p.1.l, p.1.c) | none => (0, 0)) = _; rw [h2]; rfl
  unfold UniP
  rw [he, hn, hf, hp]
  exact ⟨na, n, nc, fa, m, fc, rfl, hn1, hm, hc, hs, hi⟩
/-- the program's answer has that form -/
theorem parse_unip {w w' : World} {L : List Tk} {e : Ending} (h : ParseO w w' L e) : UniP w.heap.size w' L e := by
  obtain ⟨_, ⟨st, t, x, h1, rfl⟩ | ⟨st, t, k, h1, h2, rfl⟩ | ⟨st, nv, fv, ov, N, h1, h2, h3, h4, h5, rfl⟩⟩ := h
  · exact uni_fault h1 (fault_ne h1)
  · exact uni_end h1 h2
  · have ho := h4.nodes
    have hl : st.nodes.length = N.length := by rw [← h5, List.length_map]
    have hs := own_sxB (B := w.heap.size) ho (Nat.le_succ _) (fun p hp => (h4.kids p hp).keeps ((Keeps.refl w' _)) (fun b _ hx => Nat.le_of_lt hx.1))
    rw [h5] at hs
    have hi := own_inB (B := w.heap.size) h4.free (Nat.le_succ _)
    obtain ⟨na, nc, rfl⟩ := own_len ho
    obtain ⟨fa, fc, rfl⟩ := own_len h4.free
    have hc := own_cap ho
    exact uni_ok h1 h2 hl.symm rfl hc hs hi
end Go.Proofs.YtpkdiciinhjfjaaDoor

/- SexpBack: the tokens of what was read: mathematics. -/
namespace Go.Proofs.YtpkdiciinhjfjaaDoor
open Go.RowKit Mth

theorem shape_one {s : ByteArray} {p k n : Nat} {t : ByteArray} {q : Bool} (h : Shape s p k t q n) : (k = 1 → t = ⟨#[40]⟩ ∧ q = false) ∧ (k = 2 → t = ⟨#[41]⟩ ∧ q = false) := by
  cases h <;> exact ⟨fun e => (by first | exact ⟨rfl, rfl⟩ | cases e), fun e => (by first | exact ⟨rfl, rfl⟩ | cases e)⟩
theorem good_k1 {x : Tk} (hg : Good x) (h : x.k = 1) : tkq x = tkq tkOpen := by
  obtain ⟨kn, hk, h0, hz, ho⟩ := hg
  obtain rfl : kn = 1 := by omega
  obtain ⟨e1, e2⟩ := (shape_one (shape_of h0 ho)).1 rfl
  show (x.k, x.t, x.q) = (1, ⟨#[40]⟩, false)
  rw [h, e1, e2]
theorem good_k2 {x : Tk} (hg : Good x) (h : x.k = 2) : tkq x = tkq tkClose := by
  obtain ⟨kn, hk, h0, hz, ho⟩ := hg
  obtain rfl : kn = 2 := by omega
  obtain ⟨e1, e2⟩ := (shape_one (shape_of h0 ho)).2 rfl
  show (x.k, x.t, x.q) = (2, ⟨#[41]⟩, false)
  rw [h, e1, e2]
/-- a node's tokens, its kids' tokens given by a table -/
def kidT (T : List Nd) (l : List Int) : List Tk := l.flatMap fun x => toksF T x.toNat
theorem kidT_app (T : List Nd) (a b : List Int) : kidT T (a ++ b) = kidT T a ++ kidT T b := List.flatMap_append
theorem sound_ext {T : List Nd} (M : List Nd) {n : Nat} (hs : Sound T n) : Sound (T ++ M) n ∧ toksF (T ++ M) n = toksF T n := by
  induction hs with
  | mk n hn hsn hk ih =>
    have hn' : n < (T ++ M).length := by rw [List.length_append]; omega
    have e : (T ++ M)[n] = T[n] := List.getElem_append_left hn
    refine ⟨.mk n hn' (by rw [e]; exact hsn) (fun h x hx => ?_), ?_⟩
    · rw [e] at h hx
      exact (ih h x hx).1
    · rcases hsn with ⟨k1, hg⟩ | ⟨k2, hlt⟩
      · rw [toks_atom hn' (by rw [e]; exact k1), toks_atom hn k1, e]
      · rw [toks_list hn' (by rw [e]; exact k2) (by rw [e]; exact hlt), toks_list hn k2 hlt, e]
        have : (T[n].kids.flatMap fun x => toksF (T ++ M) x.toNat) = T[n].kids.flatMap fun x => toksF T x.toNat := flat_eq (fun x hx => (ih k2 x hx).2)
        rw [this]
/-- numbers of sound nodes -/
def SdL (T : List Nd) (l : List Int) : Prop := ∀ x ∈ l, 0 ≤ x ∧ x < (T.length : Int) ∧ Sound T x.toNat
theorem SdL.ext {T : List Nd} {l : List Int} (h : SdL T l) (M : List Nd) : SdL (T ++ M) l ∧ kidT (T ++ M) l = kidT T l :=
  ⟨fun x hx => by
    obtain ⟨h1, h2, h3⟩ := h x hx
    exact ⟨h1, by rw [List.length_append]; omega, (sound_ext M h3).1⟩, flat_eq (fun x hx => (sound_ext M (h x hx).2.2).2)⟩
/-- the tokens of a stack -/
def stT (T : List Nd) (S : List (Tk × List Int)) : List Tk := S.flatMap fun p => tkOpen :: kidT T p.2
theorem stT_app (T : List Nd) (A B : List (Tk × List Int)) : stT T (A ++ B) = stT T A ++ stT T B := List.flatMap_append
theorem stT_one (T : List Nd) (p : Tk × List Int) : stT T [p] = tkOpen :: kidT T p.2 := by simp [stT]
def SdS (T : List Nd) (S : List (Tk × List Int)) : Prop := ∀ p ∈ S, SdL T p.2
theorem SdS.ext {T : List Nd} {S : List (Tk × List Int)} (h : SdS T S) (M : List Nd) : SdS (T ++ M) S ∧ stT (T ++ M) S = stT T S := by
  refine ⟨fun p hp => ((h p hp).ext M).1, ?_⟩
  unfold stT
  induction S with
  | nil => rfl
  | cons p S ih =>
    rw [List.flatMap_cons, List.flatMap_cons, ih (fun q hq => h q (List.mem_cons_of_mem _ hq)), ((h p (List.mem_cons_self ..)).ext M).2]
/-- a run keeps: the stack's tokens are those that were read -/
theorem run_toks : ∀ (L : List Tk) (N : List Nd) (S : List (Tk × List Int)) (st : Rd), S ≠ [] → SdS N S → S.length ≤ 4097 → runR (toRd N S) L = (st, none) →
    ∃ N' S', st = toRd N' S' ∧ S' ≠ [] ∧ SdS N' S' ∧ (stT N' S').map tkq = (stT N S ++ L).map tkq
  | [], N, S, st, hS, hd, _, h => by
    rw [runR] at h
    injection h with h _
    exact ⟨N, S, h.symm, hS, hd, by rw [List.append_nil]⟩
  | t :: L, N, S, st, hS, hd, hl, h => by
    rw [runR] at h
    split at h
    · rename_i he
      have hg : Good t := by
        rcases Classical.em (Good t) with hg | hg
        · exact hg
        · rw [toRd_bad hg] at he; cases he
      have hpos : 0 < S.length := List.length_pos_iff.2 hS
      rw [toRd_E hg hpos hl] at he
      obtain ⟨S1, p, hSp⟩ : ∃ S1 p, S = S1 ++ [p] := by
        rcases List.eq_nil_or_concat S with e | ⟨S1, p, e⟩
        · exact absurd e hS
        · exact ⟨S1, p, by rw [e, List.concat_eq_append]⟩
      obtain ⟨u, ks⟩ := p
      have key : ∃ N1 S2, stepS (toRd N S) t = toRd N1 S2 ∧ S2 ≠ [] ∧ SdS N1 S2 ∧ S2.length ≤ 4097 ∧ (stT N1 S2).map tkq = (stT N S ++ [t]).map tkq := by
        by_cases k1 : t.k = 1
        · rw [if_pos k1] at he
          have hd4 : ¬ 4096 < S.length := fun h => by rw [if_pos h] at he; cases he
          refine ⟨N, S ++ [(t, [])], toRd_open hS k1, by simp, fun p hp => ?_, by rw [List.length_append]; simp; omega, ?_⟩
          · rcases List.mem_append.1 hp with hp | hp
            · exact hd p hp
            · obtain rfl := List.mem_singleton.1 hp
              intro x hx; cases hx
          · rw [stT_app, stT_one, List.map_append, List.map_append]
            congr 1
            show [tkq tkOpen] = [tkq t]
            rw [good_k1 hg k1]
        · rw [if_neg k1] at he
          by_cases k2 : t.k = 2
          · rw [if_pos k2] at he
            have h1 : S.length ≠ 1 := fun h => by rw [if_pos h] at he; cases he
            obtain ⟨S0, q, hS1⟩ : ∃ S0 q, S1 = S0 ++ [q] := by
              rcases List.eq_nil_or_concat S1 with e | ⟨S0, q, e⟩
              · exact absurd (by rw [hSp, e]; rfl) h1
              · exact ⟨S0, q, by rw [e, List.concat_eq_append]⟩
            obtain ⟨v, ls⟩ := q
            subst hS1
            subst hSp
            have hks : SdL N ks := hd (u, ks) (by simp)
            have hls : SdL N ls := hd (v, ls) (by simp)
            have hnl : N.length < (N ++ [(⟨2, u, ks⟩ : Nd)]).length := by rw [List.length_append]; simp
            have hat : (N ++ [(⟨2, u, ks⟩ : Nd)])[N.length] = ⟨2, u, ks⟩ := by rw [List.getElem_append_right (Nat.le_refl _)]; simp
            have hsn : Sound (N ++ [⟨2, u, ks⟩]) N.length := .mk _ hnl (by rw [hat]; exact .inr ⟨rfl, fun x hx => ⟨(hks x hx).1, (hks x hx).2.1⟩⟩) (fun _ x hx => by
              rw [hat] at hx
              exact (sound_ext _ (hks x hx).2.2).1)
            have htk : toksF (N ++ [⟨2, u, ks⟩]) N.length = tkOpen :: (kidT N ks ++ [tkClose]) := by
              rw [toks_list hnl (by rw [hat]) (by rw [hat]; exact fun x hx => ⟨(hks x hx).1, (hks x hx).2.1⟩), hat]
              show tkOpen :: (kidT (N ++ [⟨2, u, ks⟩]) ks ++ [tkClose]) = _
              rw [(hks.ext _).2]
            have hd0 : SdS N S0 := fun p hp => hd p (by simp [hp])
            refine ⟨_, _, toRd_close k2, by simp, fun p hp => ?_, by simp at hl ⊢; omega, ?_⟩
            · rcases List.mem_append.1 hp with hp | hp
              · exact (hd0.ext _).1 p hp
              · obtain rfl := List.mem_singleton.1 hp
                intro x hx
                rcases List.mem_append.1 hx with hx | hx
                · exact (hls.ext _).1 x hx
                · obtain rfl := List.mem_singleton.1 hx
                  exact ⟨by omega, by rw [List.length_append]; simp; omega, by rw [Int.toNat_natCast]; exact hsn⟩
            · have e1 : stT (N ++ [⟨2, u, ks⟩]) (S0 ++ [(v, ls ++ [(N.length : Int)])]) = stT N ((S0 ++ [(v, ls)]) ++ [(u, ks)]) ++ [tkClose] := by
                rw [stT_app, stT_one, (hd0.ext _).2, stT_app, stT_app, stT_one, stT_one]
                show stT N S0 ++ tkOpen :: kidT (N ++ [⟨2, u, ks⟩]) (ls ++ [(N.length : Int)]) = _
                have e2 : kidT (N ++ [⟨2, u, ks⟩]) [(N.length : Int)] = tkOpen :: (kidT N ks ++ [tkClose]) := by
                  show ([(N.length : Int)].flatMap fun x => toksF (N ++ [⟨2, u, ks⟩]) x.toNat) = _
                  rw [List.flatMap_cons, List.flatMap_nil, List.append_nil, Int.toNat_natCast, htk]
                rw [kidT_app, (hls.ext _).2, e2]
                simp
              rw [e1, List.map_append, List.map_append]
              congr 1
              show [tkq tkClose] = [tkq t]
              rw [good_k2 hg k2]
          · subst hSp
            have hks : SdL N ks := hd (u, ks) (by simp)
            have hd1 : SdS N S1 := fun p hp => hd p (by simp [hp])
            have hnl : N.length < (N ++ [(⟨1, t, []⟩ : Nd)]).length := by rw [List.length_append]; simp
            have hat : (N ++ [(⟨1, t, []⟩ : Nd)])[N.length] = ⟨1, t, []⟩ := by rw [List.getElem_append_right (Nat.le_refl _)]; simp
            have hsn : Sound (N ++ [⟨1, t, []⟩]) N.length := .mk _ hnl (by rw [hat]; exact .inl ⟨rfl, hg, k1, k2⟩) (fun h => by rw [hat] at h; cases h)
            have htk : toksF (N ++ [⟨1, t, []⟩]) N.length = [t] := by
              rw [toks_atom hnl (by rw [hat]), hat]
            refine ⟨_, _, toRd_atom k1 k2, by simp, fun p hp => ?_, by simp at hl ⊢; omega, ?_⟩
            · rcases List.mem_append.1 hp with hp | hp
              · exact (hd1.ext _).1 p hp
              · obtain rfl := List.mem_singleton.1 hp
                intro x hx
                rcases List.mem_append.1 hx with hx | hx
                · exact (hks.ext _).1 x hx
                · obtain rfl := List.mem_singleton.1 hx
                  exact ⟨by omega, by rw [List.length_append]; simp; omega, by rw [Int.toNat_natCast]; exact hsn⟩
            · have e1 : stT (N ++ [⟨1, t, []⟩]) (S1 ++ [(u, ks ++ [(N.length : Int)])]) = stT N (S1 ++ [(u, ks)]) ++ [t] := by
                rw [stT_app, stT_one, (hd1.ext _).2, stT_app, stT_one]
                show stT N S1 ++ tkOpen :: kidT (N ++ [⟨1, t, []⟩]) (ks ++ [(N.length : Int)]) = _
                have e2 : kidT (N ++ [⟨1, t, []⟩]) [(N.length : Int)] = [t] := by
                  show ([(N.length : Int)].flatMap fun x => toksF (N ++ [⟨1, t, []⟩]) x.toNat) = _
                  rw [List.flatMap_cons, List.flatMap_nil, List.append_nil, Int.toNat_natCast, htk]
                rw [kidT_app, (hks.ext _).2, e2]
                simp
              rw [e1]
      obtain ⟨N1, S2, e, h1, h2, h3, h4⟩ := key
      rw [e] at h
      obtain ⟨N', S', a1, a2, a3, a4⟩ := run_toks L N1 S2 st h1 h2 h3 h
      refine ⟨N', S', a1, a2, a3, ?_⟩
      rw [a4, List.map_append, h4, ← List.map_append, List.append_assoc]
      rfl
    · injection h with _ h; cases h
/-- what was read: its roots are sound, and have the tokens that were read -/
theorem read_toks {L : List Tk} {st : Rd} (h : runR rd0 L = (st, none)) (ho : st.opened = []) : SdL st.nodes st.free ∧ (kidT st.nodes st.free).map tkq = L.map tkq := by
  have e0 : rd0 = toRd [] [(tkOpen, [])] := rfl
  rw [e0] at h
  obtain ⟨N, S, e, h1, h2, h3⟩ := run_toks L [] [(tkOpen, [])] st (by simp) (fun p hp => by
    obtain rfl := List.mem_singleton.1 hp
    intro x hx; cases hx) (by simp) h
  have hl := toRd_opened (N := N) (S := S)
  rw [← e, ho] at hl
  have hS : S.length = 1 := by
    have := List.length_pos_iff.2 h1
    simp at hl
    omega
  obtain ⟨p, rfl⟩ := List.length_eq_one_iff.1 hS
  subst e
  have hf : (toRd N [p]).free = p.2 := flatK_one p
  rw [hf]
  refine ⟨h2 p (by simp), ?_⟩
  rw [stT_one] at h3
  have e1 : stT [] [((tkOpen, []) : Tk × List Int)] = [tkOpen] := rfl
  rw [e1] at h3
  rw [List.map_cons, List.singleton_append, List.map_cons] at h3
  injection h3
end Go.Proofs.YtpkdiciinhjfjaaDoor

/- SexpBack: what is written is read alike: mathematics. -/
namespace Go.Proofs.YtpkdiciinhjfjaaDoor
open Go.RowKit Mth

/-- a token without its place -/
def er (x : Tk) : Tk := ⟨x.k, x.t, x.q, 0, 0⟩
def erN (n : Nd) : Nd := ⟨n.kind, er n.tok, n.kids⟩
def erS (s : Rd) : Rd := ⟨s.nodes.map erN, s.free, s.opened.map fun p => (er p.1, p.2)⟩
theorem er_good {x : Tk} : Good (er x) ↔ Good x := Iff.rfl
theorem er_map {A B : List Tk} (h : A.map tkq = B.map tkq) : A.map er = B.map er := by
  have e : er = (fun p : Int × ByteArray × Bool => (⟨p.1, p.2.1, p.2.2, 0, 0⟩ : Tk)) ∘ tkq := rfl
  rw [e, ← List.map_map, ← List.map_map, h]
theorem er_E (s : Rd) (t : Tk) : stepE (erS s) (er t) = stepE s t := by
  unfold stepE
  have e1 : (erS s).opened.length = s.opened.length := List.length_map _
  have e2 : ((erS s).opened = []) = (s.opened = []) := by
    show (s.opened.map _ = []) = _
    rw [List.map_eq_nil_iff]
  simp only [e1, e2]
  rfl
theorem er_S (s : Rd) (t : Tk) : stepS (erS s) (er t) = erS (stepS s t) := by
  have hl : (erS s).nodes.length = s.nodes.length := List.length_map _
  by_cases k1 : t.k = 1
  · have k1' : (er t).k = 1 := k1
    unfold stepS
    rw [if_pos k1, if_pos k1']
    unfold erS
    simp
  · have k1' : ¬ (er t).k = 1 := k1
    by_cases k2 : t.k = 2
    · have k2' : (er t).k = 2 := k2
      unfold stepS
      rw [if_neg k1, if_neg k1', if_pos k2, if_pos k2', hl]
      rcases List.eq_nil_or_concat s.opened with e | ⟨O, p, e⟩
      · have e' : (erS s).opened = [] := by show s.opened.map _ = []; rw [e]; rfl
        rw [e, e']
        rfl
      · rw [List.concat_eq_append] at e
        have e' : (erS s).opened = O.map (fun p => (er p.1, p.2)) ++ [(er p.1, p.2)] := by show s.opened.map _ = _; rw [e, List.map_append]; rfl
        rw [e, e', List.getLast?_concat, List.getLast?_concat, List.dropLast_concat, List.dropLast_concat]
        unfold erS
        simp [erN]
    · have k2' : ¬ (er t).k = 2 := k2
      unfold stepS
      rw [if_neg k1, if_neg k1', if_neg k2, if_neg k2', hl]
      unfold erS
      simp [erN]
theorem er_run : ∀ (L : List Tk) (s : Rd), runR (erS s) (L.map er) = (erS (runR s L).1, (runR s L).2.map fun p => (er p.1, p.2))
  | [], s => rfl
  | t :: L, s => by
    rw [List.map_cons, runR, runR, er_E]
    split
    · rw [er_S]; exact er_run L _
    · rfl
/-- rows of tokens that differ in places alone are read alike -/
theorem run_alike {A B : List Tk} {st : Rd} (h : A.map tkq = B.map tkq) (hb : runR rd0 B = (st, none)) (ho : st.opened = []) : ∃ su, runR rd0 A = (su, none) ∧ su.opened = [] ∧ su.nodes.map erN = st.nodes.map erN ∧ su.free = st.free := by
  have e1 := er_run A rd0
  have e2 := er_run B rd0
  rw [er_map h, e2, hb] at e1
  rcases ha : runR rd0 A with ⟨su, r⟩
  rw [ha] at e1
  injection e1 with e3 e4
  have hr : r = none := by
    cases r with
    | none => rfl
    | some p => cases e4
  subst hr
  have e5 := congrArg Rd.nodes e3
  have e6 := congrArg Rd.free e3
  have e7 := congrArg Rd.opened e3
  refine ⟨su, rfl, ?_, e5.symm, e6.symm⟩
  have e8 : su.opened.map (fun p => (er p.1, p.2)) = [] := by
    have : st.opened.map (fun p => (er p.1, p.2)) = su.opened.map (fun p => (er p.1, p.2)) := e7
    rw [← this, ho]; rfl
  exact List.map_eq_nil_iff.1 e8
theorem cat_tkq : ∀ {A B : List Tk} (pk : Option Int), A.map tkq = B.map tkq → catL pk A = catL pk B
  | [], [], pk, _ => rfl
  | [], y :: B, pk, h => by cases h
  | x :: A, [], pk, h => by cases h
  | x :: A, y :: B, pk, h => by
    rw [List.map_cons, List.map_cons] at h
    injection h with h1 h2
    unfold tkq at h1
    injection h1 with a b
    injection b with b c
    rw [catL, catL, cat_tkq (some x.k) h2, a]
    unfold wrT
    rw [a, b, c]
/-- the text, root by root -/
def rowB (T : List Nd) (l : List Int) : List UInt8 := l.flatMap fun x => wrF T x.toNat ++ [32]
theorem rowB_cons (T : List Nd) (x : Int) (l : List Int) : rowB T (x :: l) = wrF T x.toNat ++ (32 :: rowB T l) := by
  unfold rowB; rw [List.flatMap_cons]; simp
theorem rowB_snoc (T : List Nd) (x : Int) (l : List Int) : rowB T (l ++ [x]) = (rowB T l ++ wrF T x.toNat) ++ [32] := by
  unfold rowB; rw [List.flatMap_append]; simp
theorem row_tail {T : List Nd} : ∀ (l : List Int), SdL T l → (rowB T l).length ≤ (catL (some 0) (kidT T l)).length
  | [], _ => by simp [rowB]
  | x :: l, h => by
    have hx := (h x (List.mem_cons_self ..)).2.2
    have ih := row_tail l (fun y hy => h y (List.mem_cons_of_mem _ hy))
    have e : catL (some 0) (kidT T (x :: l)) = sepL (some 0) 0 ++ wrF T x.toNat ++ catL (some 0) (kidT T l) := by
      show catL (some 0) (toksF T x.toNat ++ kidT T l) = _
      exact cat_node hx (some 0) (kidT T l)
    rw [rowB_cons, e]
    have : sepL (some 0) 0 = [32] := rfl
    rw [this]
    simp
    omega
theorem sep_more (pk : Option Int) : ∀ (L : List Tk), (catL (some 0) L).length ≤ (catL pk L).length + 1
  | [] => by simp [catL]
  | x :: L => by
    rw [catL, catL]
    have := sep_le (some 0) x.k
    simp only [List.length_append]
    omega
theorem row_len {T : List Nd} {l : List Int} (h : SdL T l) : (rowB T l).length ≤ (catL none (kidT T l)).length + 1 := Nat.le_trans (row_tail l h) (sep_more none _)
theorem chain_skip {s : ByteArray} {p p' : Nat} {L : List Tk} (h : Chain s p' L) (e : skipF s p = skipF s p') : Chain s p L := by
  cases h with
  | nil _ h => exact .nil p (by rw [e]; exact h)
  | cons _ q x r h1 h2 h3 h4 h5 h6 => exact .cons p q x r (by rw [e]; exact h1) h2 h3 h4 h5 h6
theorem seg_chain {s : ByteArray} {R : List Tk} : ∀ (L : List Tk) (pk : Option Int) (p : Nat), (∀ x ∈ L, Good x) → Byt s p (catL pk L ++ [32]) → p + (catL pk L).length < s.size → Chain s (p + (catL pk L).length + 1) R → Chain s p (L ++ R)
  | [], pk, p, _, hb, hz, hR => by
    rw [catL] at hb hz hR
    have h32 : cb s p = 32 := hb.1
    exact chain_skip hR (skip_blank (by simpa using hz) (by rw [h32]; rfl))
  | x :: r, pk, p, hg, hb, hz, hR => by
    have hgx := hg x (List.mem_cons_self ..)
    rw [catL] at hb hz hR
    rw [List.append_assoc] at hb
    obtain ⟨hb1, hb2⟩ := byt_app.1 hb
    obtain ⟨hb0, hb1⟩ := byt_app.1 hb1
    rw [List.length_append] at hb2
    rw [List.length_append, List.length_append] at hz hR
    have hq : skipF s p = p + (sepL pk x.k).length := by
      have hf := good_first hgx hb1
      have key : sepL pk x.k = [] ∨ sepL pk x.k = [32] := by
        unfold sepL
        split
        · exact .inl rfl
        · split
          · exact .inr rfl
          · exact .inl rfl
      rcases key with e | e
      · rw [e] at hf ⊢
        exact skip_here hf.2.2.1 hf.2.2.2
      · rw [e] at hf hb0 hz ⊢
        have h32 : cb s p = 32 := hb0.1
        rw [skip_blank (by simp at hz; omega) (by rw [h32]; rfl)]
        exact skip_here hf.2.2.1 hf.2.2.2
    have hb2' : Byt s (p + (sepL pk x.k).length + (wrT x).length) (catL (some x.k) r ++ [32]) := by rw [Nat.add_assoc]; exact hb2
    refine .cons p (p + (sepL pk x.k).length) x (r ++ R) hq hgx hb1 (by omega) (fun kn hk => ?_) ?_
    · cases r with
      | nil =>
        rw [catL] at hb2'
        have h32 := hb2'.1
        exact .inr (.inr (.inr (.inr ⟨by rw [h32]; rfl, fun _ => by rw [h32]; decide⟩)))
      | cons y r =>
        rw [catL, List.append_assoc] at hb2'
        obtain ⟨hc1, _⟩ := byt_app.1 hb2'
        obtain ⟨hc0, hc1⟩ := byt_app.1 hc1
        by_cases hx1 : x.k = 1
        · exact .inr (.inl (by omega))
        · by_cases hy2 : y.k = 2
          · have e : sepL (some x.k) y.k = [] := by unfold sepL; simp [hy2]
            rw [e] at hc1
            have hgy := hg y (List.mem_cons_of_mem _ (List.mem_cons_self ..))
            have hf := good_first hgy hc1
            have h41 := hf.2.1.trans (good_two hgy hy2)
            rw [List.length_nil, Nat.add_zero] at h41
            exact .inr (.inr (.inr (.inr ⟨by rw [h41]; rfl, fun _ => by rw [h41]; decide⟩)))
          · have e : sepL (some x.k) y.k = [32] := by unfold sepL; exact if_pos ⟨hx1, hy2⟩
            rw [e] at hc0
            have h32 := hc0.1
            exact .inr (.inr (.inr (.inr ⟨by rw [h32]; rfl, fun _ => by rw [h32]; decide⟩)))
    · exact seg_chain r (some x.k) _ (fun y hy => hg y (List.mem_cons_of_mem _ hy)) hb2' (by omega) (by
        have : p + (sepL pk x.k).length + (wrT x).length + (catL (some x.k) r).length + 1 = p + ((sepL pk x.k).length + (wrT x).length + (catL (some x.k) r).length) + 1 := by omega
        rw [this]; exact hR)
theorem row_chain {s : ByteArray} {T : List Nd} (ht : ∀ nd ∈ T, nd.tok.t.size ≤ 1048576) : ∀ (l : List Int) (p : Nat), SdL T l → Byt s p (rowB T l) → p + (rowB T l).length = s.size → Chain s p (kidT T l)
  | [], p, _, _, h => .nil p (by rw [skip_end (by simp [rowB] at h; omega)]; simp [rowB] at h; omega)
  | x :: l, p, h, hb, hz => by
    have hx := (h x (List.mem_cons_self ..)).2.2
    rw [rowB_cons] at hb hz
    rw [List.length_append, List.length_cons] at hz
    obtain ⟨hb1, hb2⟩ := byt_app.1 hb
    have ih := row_chain ht l (p + (wrF T x.toNat).length + 1) (fun y hy => h y (List.mem_cons_of_mem _ hy)) hb2.2 (by omega)
    have := seg_chain (R := kidT T l) (toksF T x.toNat) none p (fun y hy => (toks_good ht hx y hy).1) (by rw [cat_text hx]; exact byt_app.2 ⟨hb1, hb2.1, trivial⟩) (by rw [cat_text hx]; omega) (by rw [cat_text hx]; exact ih)
    exact this
/-- the text's tokens -/
theorem row_scan {T : List Nd} {l : List Int} (ht : ∀ nd ∈ T, nd.tok.t.size ≤ 1048576) (h : SdL T l) : ∃ M, scanF ⟨(rowB T l).toArray⟩ 0 = .ok M ∧ M.map tkq = (kidT T l).map tkq :=
  chain_scan (row_chain ht l 0 h (byt_self _) (by rw [size_list, Nat.zero_add]))
end Go.Proofs.YtpkdiciinhjfjaaDoor

/- SexpBack: what is read of a text, in one form; the bounds. -/
namespace Go.Proofs.YtpkdiciinhjfjaaDoor
open Go.RowKit Mth

theorem tok_S {P : Tk → Prop} {s : Rd} {t : Tk} (h1 : ∀ nd ∈ s.nodes, P nd.tok) (h2 : ∀ p ∈ s.opened, P p.1) (ht : P t) : (∀ nd ∈ (stepS s t).nodes, P nd.tok) ∧ ∀ p ∈ (stepS s t).opened, P p.1 := by
  unfold stepS
  split
  · refine ⟨h1, fun p hp => ?_⟩
    rcases List.mem_append.1 hp with hp | hp
    · exact h2 p hp
    · obtain rfl := List.mem_singleton.1 hp
      exact ht
  · split
    · split
      · rename_i u k hu
        have hm := List.mem_of_getLast? hu
        refine ⟨fun nd hn => ?_, fun p hp => h2 p (List.dropLast_subset _ hp)⟩
        rcases List.mem_append.1 hn with hn | hn
        · exact h1 nd hn
        · obtain rfl := List.mem_singleton.1 hn
          exact h2 _ hm
      · exact ⟨h1, h2⟩
    · refine ⟨fun nd hn => ?_, h2⟩
      rcases List.mem_append.1 hn with hn | hn
      · exact h1 nd hn
      · obtain rfl := List.mem_singleton.1 hn
        exact ht
theorem tok_run {P : Tk → Prop} : ∀ (L : List Tk) (s : Rd), (∀ nd ∈ s.nodes, P nd.tok) → (∀ p ∈ s.opened, P p.1) → (∀ t ∈ L, P t) → ∀ nd ∈ (runR s L).1.nodes, P nd.tok
  | [], s, h1, _, _ => h1
  | t :: L, s, h1, h2, h3 => by
    rw [runR]
    split
    · obtain ⟨a, b⟩ := tok_S h1 h2 (h3 t (List.mem_cons_self ..))
      exact tok_run L _ a b (fun x hx => h3 x (List.mem_cons_of_mem _ hx))
    · exact h1
/-- what was read of a text -/
structure BackR (s : ByteArray) (L : List Tk) (st : Rd) : Prop where
  scan : scanF s 0 = .ok L
  run : runR rd0 L = (st, none)
  op : st.opened = []
def RdT (w' : World) (T : List Nd) (F : List Int) (n m : Nat) (e : Ending) : Prop := ∃ na nc fa fc, e = .returned (.tuple #[.slice na n nc, .slice fa m fc, .int .i64 0]) ∧ SxL w' (.slice na n nc) T ∧ InL w' (.slice fa m fc) F
def RdX0 (e : Ending) : Prop := ∃ x : Int, x ≠ 0 ∧ e = .returned (.tuple #[.slice none 0 0, .slice none 0 0, .int .i64 x])
theorem read_ok {s : ByteArray} (hs : s.size ≤ 1048576) {L : List Tk} {st : Rd} (hB : BackR s L st) (w : World) (hL : LexW w) : Calls Tryd.prog 5 #[.string s] w fun e w' => RdT w' st.nodes st.free st.nodes.length st.free.length e ∧ Below w.heap.size w w' := by
  obtain ⟨hsc, hr, ho⟩ := hB
  refine (read_any s hs w hL).mono fun e w' hh => ⟨?_, hh.2⟩
  rcases hh.1 with ⟨E', _, _, hE, h, _⟩ | ⟨L', h, h'⟩
  · rw [hsc] at h; cases h
  rw [hsc] at h; injection h with h; subst h
  rcases h' with ⟨x, hx, ⟨st', t, h⟩ | ⟨_, st', p, h, hl⟩, _⟩ | ⟨st', nv, fv, ov, N, w1, h, ho', hB, hV, hN, rfl⟩
  · rw [hr] at h; cases h
  · rw [hr] at h
    injection h with h _
    subst h; rw [ho] at hl; cases hl
  · rw [hr] at h
    injection h with h _
    subst h
    have hsx := hV.sx
    rw [hN] at hsx
    have hin := own_inL hV.free
    obtain ⟨na, nc, rfl⟩ := hsx.shape
    obtain ⟨fa, fc, rfl⟩ := hin.shape
    exact ⟨na, nc, fa, fc, rfl, hsx, hin⟩
theorem read_uni (s : ByteArray) (hs : s.size ≤ 1048576) : (∀ w, LexW w → Calls Tryd.prog 5 #[.string s] w fun e w' => RdX0 e ∧ Below w.heap.size w w') ∨ ∃ L st, BackR s L st := by
  have bad : (∀ w w' e, ReadO w' s e → RdX0 e) → (∀ w, LexW w → Calls Tryd.prog 5 #[.string s] w fun e w' => RdX0 e ∧ Below w.heap.size w w') := fun h w hL =>
    (read_any s hs w hL).mono fun e w' hh => ⟨h w w' e hh.1, hh.2⟩
  cases hsc : scanF s 0 with
  | bad E x y =>
    refine .inl (bad fun w w' e h => ?_)
    rcases h with ⟨E', _, _, hE, _, rfl⟩ | ⟨L, h, _⟩
    · exact ⟨_, by omega, rfl⟩
    · rw [hsc] at h; cases h
  | ok L =>
    have hcase : (∀ w' e, ReadO w' s e → ReadL w' L e) := fun w' e h => by
      rcases h with ⟨E', _, _, hE, h, _⟩ | ⟨L', h, h'⟩
      · rw [hsc] at h; cases h
      · rw [hsc] at h; injection h with h; subst h; exact h'
    rcases hr : runR rd0 L with ⟨st, _ | ⟨t, x⟩⟩
    · by_cases ho : st.opened = []
      · exact .inr ⟨L, st, hsc, hr, ho⟩
      · refine .inl (bad fun w w' e h => ?_)
        rcases hcase w' e h with ⟨x, hx, _, rfl⟩ | ⟨st', nv, fv, ov, N, w1, h, ho', _⟩
        · exact ⟨x, hx, rfl⟩
        · rw [hr] at h
          injection h with h _
          subst h; exact absurd ho' ho
    · refine .inl (bad fun w w' e h => ?_)
      rcases hcase w' e h with ⟨x, hx, _, rfl⟩ | ⟨st', nv, fv, ov, N, w1, h, ho', _⟩
      · exact ⟨x, hx, rfl⟩
      · rw [hr] at h; cases h
/-- what the walk needs of a text that was read -/
structure BackF (s : ByteArray) (T : List Nd) (F : List Int) : Prop where
  tab : TabC T
  sd : SdL T F
  fl : F.length ≤ 1048576
  len : (rowB T F).length ≤ 2 * s.size + 1
  back : (rowB T F).length ≤ 1048576 → ∃ T', T'.map erN = T.map erN ∧ ∀ w, LexW w → Calls Tryd.prog 5 #[.string ⟨(rowB T F).toArray⟩] w fun e w' => RdT w' T' F T.length F.length e ∧ Below w.heap.size w w'
theorem back_f {s : ByteArray} (hs : s.size ≤ 1048576) {L : List Tk} {st : Rd} (h : BackR s L st) : BackF s st.nodes st.free := by
  obtain ⟨h1, h2, h3⟩ := h
  obtain ⟨hg, hc⟩ := scan_good hs h1
  have hcnt := scan_count hs h1
  have hB := rdb_run L h2 rdb0
  rw [Nat.zero_add] at hB
  have hO := rdo_run L h2 rdo0 rdb0
  have ht : ∀ nd ∈ st.nodes, nd.tok.t.size ≤ 1048576 := by
    have := tok_run (P := fun x => x.t.size ≤ 1048576) L rd0 (fun nd h => by cases h) (fun p h => by cases h) (fun t ht => wr_big (hg t ht))
    rw [h2] at this
    exact this
  have hn := hB.nodes
  have hf := hB.free
  obtain ⟨hsd, htk⟩ := read_toks h2 h3
  refine ⟨⟨by omega, ht, fun nd hnd => ?_⟩, hsd, by omega, ?_, fun hl => ?_⟩
  · obtain ⟨j, hj, rfl⟩ := List.getElem_of_mem hnd
    have := kids_lenj hO hj
    omega
  · have e1 := row_len hsd
    rw [cat_tkq none htk] at e1
    have e2 := hc none
    omega
  · obtain ⟨M, hM, hm⟩ := row_scan ht hsd
    rw [htk] at hm
    obtain ⟨su, a1, a2, a3, a4⟩ := run_alike hm h2 h3
    have hlen : su.nodes.length = st.nodes.length := by
      have := congrArg List.length a3
      simpa using this
    refine ⟨su.nodes, a3, ?_⟩
    intro w hL
    have := read_ok (s := ⟨(rowB st.nodes st.free).toArray⟩) (by rw [size_list]; exact hl) ⟨hM, a1, a2⟩ w hL
    rw [a4, hlen] at this
    exact this
end Go.Proofs.YtpkdiciinhjfjaaDoor

/- SexpBack: the walk. -/
namespace Go.Proofs.YtpkdiciinhjfjaaDoor
open Go.RowKit Mth

set_option maxHeartbeats 8000000 in
set_option maxRecDepth 100000 in
theorem back_sad (w : World) (s : ByteArray) (hR : ∀ w, LexW w → Calls Tryd.prog 5 #[.string s] w fun e w' => RdX0 e ∧ Below w.heap.size w w') (hL : LexW w) : Calls Tryd.prog 3 #[.string s] w fun e w' => e = .returned (.bool true) ∧ Below w.heap.size w w' := by
  have R := Lib.hid (hR w hL)
  have AL : Hid (∀ W, Below w.heap.size w W → Calls Tryd.prog 6 #[] W fun e w' => e = .returned (.bool true) ∧ Below W.heap.size W w') := Lib.hid (fun W hW => alive7_any W (hL.below hW))
  clear hR hL
  go_enter Tryd.func3, Tryd.ntmps3
  go_wp2_with fail
  refine R.out.mono ?_
  rintro e w1 ⟨⟨x, hx, rfl⟩, hb1⟩
  have B1 := Lib.hid hb1
  have d1 : (x != 0) = true := bne_iff_ne.2 hx
  clear hb1 R
  go_wp2_with fail
  refine (AL.out _ B1.out).mono ?_
  rintro e w2 ⟨rfl, hb2⟩
  have B2 := Lib.hid (belowT B1.out hb2)
  clear hb2
  go_wp2
  go_ret
  exact ⟨rfl, B2.out⟩
theorem two_new (w : World) (A B : Array Value) (T : TypeId) : ∃ V, ((w.alloc (.cells A T)).alloc (.cells B T)).drew = V ∧ V.heap[w.heap.size]? = some (.cells A T (0, 0)) ∧ V.heap[w.heap.size + 1]? = some (.cells B T (0, 0)) ∧ Below w.heap.size w V := by
  have h1 := heap_alloc_new w (.cells A T)
  have h2 := heap_alloc_new (w.alloc (.cells A T)) (.cells B T)
  have hb1 : Below w.heap.size w (w.alloc (.cells A T)) := (Below.refl _ _).alloc (Nat.le_refl _) _
  have hz : (w.alloc (.cells A T)).heap.size = w.heap.size + 1 := by simp
  have hb2 : Below (w.alloc (.cells A T)).heap.size (w.alloc (.cells A T)) ((w.alloc (.cells A T)).alloc (.cells B T)) := (Below.refl _ _).alloc (Nat.le_refl _) _
  refine ⟨_, rfl, ?_, ?_, (belowT hb1 hb2).drew⟩
  · show ((w.alloc (.cells A T)).alloc (.cells B T)).heap[w.heap.size]? = _
    exact blkT hb2 h1
  · rw [hz] at h2; exact h2
set_option maxHeartbeats 32000000 in
set_option maxRecDepth 100000 in
theorem back_glad (w : World) (s : ByteArray) (hs : s.size ≤ 1048576) (T : List Nd) (F : List Int) (hF : BackF s T F) (hR : ∀ w, LexW w → Calls Tryd.prog 5 #[.string s] w fun e w' => RdT w' T F T.length F.length e ∧ Below w.heap.size w w') (hL : LexW w) : Calls Tryd.prog 3 #[.string s] w fun e w' => e = .returned (.bool true) ∧ Below w.heap.size w w' := by
  have R := Lib.hid (hR w hL)
  have AL : Hid (∀ W, Below w.heap.size w W → Calls Tryd.prog 6 #[] W fun e w' => e = .returned (.bool true) ∧ Below W.heap.size W w') := Lib.hid (fun W hW => alive7_any W (hL.below hW))
  have HF := Lib.hid hF
  have hfl := hF.fl
  clear hR
  go_enter Tryd.func3, Tryd.ntmps3
  go_wp2_with fail
  refine R.out.mono ?_
  rintro e w1 ⟨⟨na, nc, fa, fc, rfl, hn1, hf1⟩, hb1⟩
  have B1 := Lib.hid hb1
  have N1 := Lib.hid hn1
  have F1 := Lib.hid hf1
  clear hb1 R hn1 hf1
  go_wp2_with fail
  go_loopw [6, 7] (fun t i wr => ∃ q : Nat, q ≤ F.length ∧ i = .int .i64 (q : Int) ∧ t = .string ⟨(rowB T (F.take q)).toArray⟩ ∧ Below w1.heap.size w1 wr) (fun _ i _ => F.length - (intOf i).toNat)
  case atStart => exact ⟨0, Nat.zero_le _, rfl, rfl, Below.refl _ _⟩
  case round =>
    obtain ⟨q, hq, rfl, rfl, hbw⟩ := hrel
    have HBW := Lib.hid hbw
    by_cases hql : q < F.length
    · obtain ⟨b1, o1, x1, -, c1⟩ := (F1.out.below hbw).get (j := q) hql
      subst x1
      obtain ⟨hx0, hx1, hsnd⟩ := HF.out.sd _ (List.getElem_mem hql)
      have hsn : F.take (q + 1) = F.take q ++ [F[q]] := List.take_succ_eq_append_getElem hql
      generalize F[q] = z at *
      obtain ⟨k, rfl⟩ : ∃ k : Nat, z = (k : Int) := ⟨z.toNat, by omega⟩
      rw [Int.toNat_natCast] at hsnd
      have hk : k < T.length := by omega
      have hrow : rowB T (F.take (q + 1)) = (rowB T (F.take q) ++ wrF T k) ++ [32] := by rw [hsn, rowB_snoc]; rfl
      have hpre : (rowB T (F.take (q + 1))).length ≤ (rowB T F).length := by
        have : rowB T F = rowB T (F.take (q + 1)) ++ rowB T (F.drop (q + 1)) := by
          unfold rowB
          rw [← List.flatMap_append, List.take_append_drop]
        rw [this, List.length_append]; omega
      rw [hrow] at hpre
      simp only [List.length_append, List.length_singleton] at hpre
      have hlen := HF.out.len
      have TX := text_any HF.out.tab (.slice na T.length nc) (k : Int) wr (N1.out.below hbw) (hL.below (B1.out.trans (hbw.mono B1.out.size)))
      have HSN := Lib.hid hsn
      have HROW := Lib.hid hrow
      have HSZ : Hid (∀ l : List UInt8, (⟨l.toArray⟩ : ByteArray).size = l.length) := Lib.hid (fun l => size_list l)
      by_cases hwl : (wrF T k).length ≤ 1048576
      · have TX2 : Hid (Calls Tryd.prog 7 #[.slice na T.length nc, .int .i64 (k : Int)] wr fun e w' => e = .returned (.tuple #[.string ⟨(wrF T k).toArray⟩, .int .i64 0]) ∧ Below wr.heap.size wr w') := Lib.hid (TX.mono fun e w' hh => ⟨by
          rcases hh.1 with ⟨h, _⟩ | ⟨k', hk', _, ⟨h, _⟩ | ⟨_, h, _⟩ | ⟨_, _, h⟩⟩
          · exact absurd ⟨by omega, by omega⟩ h
          · obtain rfl : k' = k := by omega
            exact absurd hsnd h
          · obtain rfl : k' = k := by omega
            omega
          · obtain rfl : k' = k := by omega
            exact h, hh.2⟩)
        have hs1 : (⟨(rowB T (F.take q)).toArray⟩ : ByteArray).size ≤ 2097153 := by rw [HSZ.out]; omega
        have hs2 : (⟨(wrF T k).toArray⟩ : ByteArray).size ≤ 1048576 := by rw [HSZ.out]; exact hwl
        have HS3 : Hid ((⟨(rowB T (F.take (q + 1))).toArray⟩ : ByteArray) = ⟨(rowB T (F.take q)).toArray⟩ ++ ⟨(wrF T k).toArray⟩ ++ ⟨#[32]⟩) := Lib.hid (by rw [HROW.out, ← str_cat, ← str_cat])
        obtain ⟨Y, hYe⟩ : ∃ Y : ByteArray, ⟨(wrF T k).toArray⟩ = Y := ⟨_, rfl⟩
        obtain ⟨S, hSe⟩ : ∃ S : ByteArray, (⟨(rowB T (F.take q)).toArray⟩ : ByteArray) = S := ⟨_, rfl⟩
        rw [hYe] at TX2 HS3 hs2
        rw [hSe] at HS3 hs1 ⊢
        have hs4 : (S ++ Y).size ≤ 3145729 := by rw [ByteArray.size_append]; omega
        clear TX hsn hrow HSN HROW hpre hlen hwl hx0 hx1 hsnd hYe hSe hbw
        go_wp2_with fail
        refine TX2.out.mono ?_
        rintro e w2 ⟨rfl, hb2⟩
        have HB2 := Lib.hid (belowT HBW.out hb2)
        clear hb2 TX2
        go_wp2
        go_roundw
        case rel => exact ⟨q + 1, by omega, by go_num, by rw [HS3.out], HB2.out⟩
        case measure => (simp [intOf]; try omega)
      · have TX2 : Hid (Calls Tryd.prog 7 #[.slice na T.length nc, .int .i64 (k : Int)] wr fun e w' => e = .returned (.tuple #[.string ⟨#[]⟩, .int .i64 2]) ∧ Below wr.heap.size wr w') := Lib.hid (TX.mono fun e w' hh => ⟨by
          rcases hh.1 with ⟨h, _⟩ | ⟨k', hk', _, ⟨h, _⟩ | ⟨_, _, h⟩ | ⟨_, h, _⟩⟩
          · exact absurd ⟨by omega, by omega⟩ h
          · obtain rfl : k' = k := by omega
            exact absurd hsnd h
          · exact h
          · obtain rfl : k' = k := by omega
            exact absurd h hwl, hh.2⟩)
        have d5 : decide ((300000 : Int) < (s.size : Int)) = true := decide_eq_true (by omega)
        have d6 : 300000 < s.size := by omega
        clear TX hsn hrow HSN HROW hpre hlen hwl hx0 hx1 hsnd hbw
        go_wp2_with fail
        refine TX2.out.mono ?_
        rintro e w2 ⟨rfl, hb2⟩
        have HB2 := Lib.hid (B1.out.trans ((belowT HBW.out hb2).mono B1.out.size))
        clear hb2 TX2
        go_wp2
        go_ret
        exact ⟨rfl, HB2.out⟩
    · obtain rfl : q = F.length := by omega
      have hlen := HF.out.len
      rw [List.take_length]
      have hsz : (⟨(rowB T F).toArray⟩ : ByteArray).size = (rowB T F).length := size_list _
      by_cases hl : (rowB T F).length ≤ 1048576
      · obtain ⟨T', hT', hR'⟩ := HF.out.back hl
        have R2 := Lib.hid (hR' wr (hL.below (B1.out.trans (hbw.mono B1.out.size))))
        have N2 := Lib.hid (N1.out.below hbw)
        have F2 := Lib.hid (F1.out.below hbw)
        have HT' := Lib.hid hT'
        have HK := Lib.hid HF.out.tab.kids
        have hN := HF.out.tab.N
        obtain ⟨S, hSe⟩ : ∃ S : ByteArray, (⟨(rowB T F).toArray⟩ : ByteArray) = S := ⟨_, rfl⟩
        rw [hSe] at R2 hsz ⊢
        have hs1 : S.size ≤ 1048576 := by omega
        clear hR' hT' hbw hlen hsz hl hSe HF hF N1 F1
        go_wp2_with fail
        refine R2.out.mono ?_
        rintro e w2 ⟨⟨na2, nc2, fa2, fc2, rfl, hn2, hf2⟩, hb2⟩
        have B2 := Lib.hid (belowT HBW.out hb2)
        have N3 := Lib.hid (N2.out.below hb2)
        have F3 := Lib.hid (F2.out.below hb2)
        have M3 := Lib.hid hn2
        have SM := Lib.hid (sameInts_any _ _ F F w2 hf2 F3.out (by omega))
        clear hb2 hn2 hf2 R2 N2 F2
        go_wp2_with fail
        refine SM.out.mono ?_
        rintro e w3 ⟨rfl, k3, rfl⟩
        have B3 := Lib.hid (below_drewN B2.out k3)
        have N4 := Lib.hid (N3.out.below (dr_below w2 k3))
        have M4 := Lib.hid (M3.out.below (dr_below w2 k3))
        clear SM N3 M3 F3
        go_wp2_with fail
        go_loopw [13] (fun i wr2 => ∃ q : Nat, q ≤ T.length ∧ i = .int .i64 (q : Int) ∧ Below (w2.drewN k3).heap.size (w2.drewN k3) wr2) (fun i _ => T.length - (intOf i).toNat)
        case atStart => exact ⟨0, Nat.zero_le _, rfl, Below.refl _ _⟩
        case round =>
          rename World => wr2
          obtain ⟨j, hj, rfl, hbx⟩ := hrel
          have HBX := Lib.hid hbx
          by_cases hjl : j < T.length
          · have hlT : T'.length = T.length := by
              have := congrArg List.length HT'.out
              simpa using this
            have hjl' : j < T'.length := by omega
            obtain ⟨b1', o1, ka1, kc1, x1, hl1, c0, c1, c2, c3, c4, c5, c6, ci⟩ := (N4.out.below hbx).at hjl
            obtain ⟨b2', o2, ka2, kc2, x2, hl2, q0, q1, q2, q3, q4, q5, q6, qi⟩ := (M4.out.below hbx).at hjl'
            subst x1 x2
            have hkl := HK.out _ (List.getElem_mem hjl)
            have he : erN T'[j] = erN T[j] := by
              have h1 : (T'.map erN)[j]? = some (erN T'[j]) := by rw [List.getElem?_map, List.getElem?_eq_getElem hjl']; rfl
              have h2 : (T.map erN)[j]? = some (erN T[j]) := by rw [List.getElem?_map, List.getElem?_eq_getElem hjl]; rfl
              rw [HT'.out, h2] at h1
              exact (Option.some.inj h1).symm
            generalize T[j] = nd at *
            generalize T'[j] = nd' at *
            obtain ⟨kind, ⟨tk, tt, tq, tl, tc⟩, ks⟩ := nd
            obtain ⟨kind', ⟨tk', tt', tq', tl', tc'⟩, ks'⟩ := nd'
            unfold erN er at he
            simp only [Nd.mk.injEq, Tk.mk.injEq, and_true] at he
            obtain ⟨rfl, ⟨rfl, rfl, rfl⟩, rfl⟩ := he
            dsimp only at c0 c1 c2 c3 c4 c5 c6 q0 q1 q2 q3 q4 q5 q6 hkl ci qi
            have HCI := Lib.hid ci; have HQI := Lib.hid qi
            clear ci qi hbx hjl' hlT
            have n1 : b1' ≠ wr2.heap.size := by omega
            have n2 : b2' ≠ wr2.heap.size := by omega
            have n3 : b1' ≠ wr2.heap.size + 1 := by omega
            have n4 : b2' ≠ wr2.heap.size + 1 := by omega
            obtain ⟨V1, e1, ga1, gb1, bV1⟩ := two_new wr2 #[.int .i64 tk', .string tt', .bool tq', .int .i64 tl, .int .i64 tc] #[.int .i64 tk', .string tt', .bool tq', .int .i64 tl', .int .i64 tc'] 34
            obtain ⟨V2, e2, gb2, ga2, bV2⟩ := two_new wr2 #[.int .i64 tk', .string tt', .bool tq', .int .i64 tl', .int .i64 tc'] #[.int .i64 tk', .string tt', .bool tq', .int .i64 tl, .int .i64 tc] 34
            have CI : ∀ V, Below wr2.heap.size wr2 V → Hid (∀ q, Calls Tryd.prog 8 #[.slice ka1 ks'.length kc1, .slice ka2 ks'.length kc2] (V.drewN q) fun e w' => e = .returned (.bool true) ∧ ∃ q', w' = V.drewN q') := fun V hV => Lib.hid (fun q => by
              have h := sameInts_any _ _ ks' ks' (V.drewN q) ((HCI.out.below hV).below (dr_below V q)) ((HQI.out.below hV).below (dr_below V q)) (by omega)
              rw [decide_eq_true rfl] at h
              exact h.mono fun e w' ⟨h1, q', h2⟩ => ⟨h1, q + q', by rw [h2, World.drewN_drewN]⟩)
            have CI1 := CI V1 bV1; have CI2 := CI V2 bV2
            have E1 := Lib.hid e1; have E2 := Lib.hid e2
            have GA1 := Lib.hid ga1; have GB1 := Lib.hid gb1; have GA2 := Lib.hid ga2; have GB2 := Lib.hid gb2
            have BV1 := Lib.hid bV1; have BV2 := Lib.hid bV2
            have d1 : (kind' != kind') = false := bne_self_eq_false _
            have d2 : (tk' != tk') = false := bne_self_eq_false _
            have d3 : (tt' != tt') = false := by
              have h : (tt' == tt') = true := by
                first | exact beq_self_eq_true _ | (show (tt'.data == tt'.data) = true; exact beq_self_eq_true _) | (cases tt'; simp [BEq.beq]) | decide
              unfold bne; rw [h]; rfl
            have d4 : (tq' != tq') = false := bne_self_eq_false _
            clear e1 e2 ga1 ga2 gb1 gb2 bV1 bV2 CI
            go_wp2_with fail
            go_region_with fail
            all_goals first
              | (rw [E1.out]
                 have c0' := cellT BV1.out c0 hl1
                 have q0' := cellT BV1.out q0 hl2
                 have c6' := cellT BV1.out c6 hl1
                 have q6' := cellT BV1.out q6 hl2
                 obtain ⟨x0, x1, x2, x3, x4⟩ := blk5 GA1.out
                 obtain ⟨y0, y1, y2, y3, y4⟩ := blk5 GB1.out
                 clear c0 c1 c2 c3 c4 c5 c6 q0 q1 q2 q3 q4 q5 q6
                 go_wp2_with fail
                 go_quiet (first | (go_at_call 8; exact CI1.out _))
                 go_wp2
                 go_roundw
                 case rel => exact ⟨j + 1, by omega, by go_num, below_drewN (HBX.out.trans (BV1.out.mono HBX.out.size)) _⟩
                 case measure => (simp [intOf]; try omega))
              | (rw [E2.out]
                 have c0' := cellT BV2.out c0 hl1
                 have q0' := cellT BV2.out q0 hl2
                 have c6' := cellT BV2.out c6 hl1
                 have q6' := cellT BV2.out q6 hl2
                 obtain ⟨x0, x1, x2, x3, x4⟩ := blk5 GA2.out
                 obtain ⟨y0, y1, y2, y3, y4⟩ := blk5 GB2.out
                 clear c0 c1 c2 c3 c4 c5 c6 q0 q1 q2 q3 q4 q5 q6
                 go_wp2_with fail
                 go_quiet (first | (go_at_call 8; exact CI2.out _))
                 go_wp2
                 go_roundw
                 case rel => exact ⟨j + 1, by omega, by go_num, below_drewN (HBX.out.trans (BV2.out.mono HBX.out.size)) _⟩
                 case measure => (simp [intOf]; try omega))
          · obtain rfl : j = T.length := by omega
            have B4 := Lib.hid (B3.out.trans (hbx.mono B3.out.size))
            clear hbx
            go_wp2_with fail
            refine (AL.out _ (B1.out.trans (B4.out.mono B1.out.size))).mono ?_
            rintro e w9 ⟨rfl, hb9⟩
            have B10 := Lib.hid (belowT (B1.out.trans (B4.out.mono B1.out.size)) hb9)
            clear hb9
            go_wp2
            go_ret
            exact ⟨rfl, B10.out⟩
      · have d5 : decide ((300000 : Int) < (s.size : Int)) = true := decide_eq_true (by omega)
        have d6 : 300000 < s.size := by omega
        have HB2 := Lib.hid (B1.out.trans (hbw.mono B1.out.size))
        obtain ⟨S, hSe⟩ : ∃ S : ByteArray, (⟨(rowB T F).toArray⟩ : ByteArray) = S := ⟨_, rfl⟩
        rw [hSe] at hsz ⊢
        have hs1 : 1048576 < S.size := by omega
        have hs2 : S.size ≤ 2097153 := by omega
        clear hbw hlen hsz hl hSe
        go_wp2
        go_ret
        exact ⟨rfl, HB2.out⟩
end Go.Proofs.YtpkdiciinhjfjaaDoor

/- SexpBack: the walk, whole. -/
namespace Go.Proofs.YtpkdiciinhjfjaaDoor
open Go.RowKit Mth

theorem back7_walk (w : World) (s : ByteArray) (hs : s.size ≤ 1048576) (hL : LexW w) : Calls Tryd.prog 3 #[.string s] w fun e w' => e = .returned (.bool true) ∧ Below w.heap.size w w' := by
  rcases read_uni s hs with h | ⟨L, st, hB⟩
  · exact back_sad w s h hL
  · exact back_glad w s hs st.nodes st.free (back_f hs hB) (fun w hL => read_ok hs hB w hL) hL
end Go.Proofs.YtpkdiciinhjfjaaDoor
