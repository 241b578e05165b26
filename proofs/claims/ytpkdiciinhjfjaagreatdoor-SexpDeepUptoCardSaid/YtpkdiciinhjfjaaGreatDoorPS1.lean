/- PVA PVB PVC PVD PVE. -/
import Derived.Test.YtpkdiciinhjfjaaGreatDoorPD1
import Derived.Test.YtpkdiciinhjfjaaGreatDoorNKG
import Derived.Deep.QuietTactic
import Derived.BigQuiet
set_option linter.unusedVariables false
set_option linter.unusedSimpArgs false
/- tribunalref07: Parse: mathematics. -/
namespace Go.Proofs.YtpkdiciinhjfjaaGreatDoor
open Go.RowKit Mth

/-- the reference's stack: each open list's token and its kids so far; the lowest is no list -/
def flatK (S : List (Tk × List Int)) : List Int := S.flatMap Prod.snd
def offs : Nat → List (Tk × List Int) → List (Tk × Nat)
  | _, [] => []
  | n, p :: r => (p.1, n) :: offs (n + p.2.length) r
theorem flatK_app (A B : List (Tk × List Int)) : flatK (A ++ B) = flatK A ++ flatK B := List.flatMap_append
theorem flatK_one (p : Tk × List Int) : flatK [p] = p.2 := by simp [flatK]
theorem offs_app : ∀ (n : Nat) (A B : List (Tk × List Int)), offs n (A ++ B) = offs n A ++ offs (n + (flatK A).length) B
  | n, [], B => by simp [offs, flatK]
  | n, p :: A, B => by
    show (p.1, n) :: offs (n + p.2.length) (A ++ B) = (p.1, n) :: offs (n + p.2.length) A ++ offs (n + (flatK (p :: A)).length) B
    rw [offs_app (n + p.2.length) A B, List.cons_append]
    have e : (flatK (p :: A)).length = p.2.length + (flatK A).length := by show (List.flatMap Prod.snd (p :: A)).length = _; rw [List.flatMap_cons, List.length_append]; rfl
    rw [e, Nat.add_assoc]
theorem offs_len : ∀ (n : Nat) (A : List (Tk × List Int)), (offs n A).length = A.length
  | n, [] => rfl
  | n, p :: A => by rw [offs, List.length_cons, List.length_cons, offs_len]
/-- the state that a stack of the reference's is -/
def toRd (N : List Nd) (S : List (Tk × List Int)) : Rd := ⟨N, flatK S, (offs 0 S).tail⟩
theorem tail_app {α : Type} {A B : List α} (h : A ≠ []) : (A ++ B).tail = A.tail ++ B := by
  cases A with
  | nil => exact absurd rfl h
  | cons x A => rfl
theorem offs_ne {n : Nat} {S : List (Tk × List Int)} (h : S ≠ []) : offs n S ≠ [] := fun e => h (List.eq_nil_of_length_eq_zero (by rw [← offs_len n S, e]; rfl))
theorem toRd_opened {N : List Nd} {S : List (Tk × List Int)} : (toRd N S).opened.length = S.length - 1 := by
  show (offs 0 S).tail.length = _
  rw [List.length_tail, offs_len]
theorem toRd_open {N : List Nd} {S : List (Tk × List Int)} {t : Tk} (hS : S ≠ []) (hk : t.k = 1) : stepS (toRd N S) t = toRd N (S ++ [(t, [])]) := by
  unfold stepS
  rw [if_pos hk]
  unfold toRd
  rw [flatK_app, offs_app, tail_app (offs_ne hS)]
  simp [offs, flatK]
theorem toRd_put {N : List Nd} {S : List (Tk × List Int)} {u : Tk} {ks xs : List Int} : toRd N (S ++ [(u, ks ++ xs)]) = ⟨N, (toRd N (S ++ [(u, ks)])).free ++ xs, (toRd N (S ++ [(u, ks)])).opened⟩ := by
  unfold toRd
  simp only [flatK_app, flatK_one, offs_app, offs, List.append_assoc]
theorem toRd_atom {N : List Nd} {S : List (Tk × List Int)} {t u : Tk} {ks : List Int} (h1 : t.k ≠ 1) (h2 : t.k ≠ 2) : stepS (toRd N (S ++ [(u, ks)])) t = toRd (N ++ [⟨1, t, []⟩]) (S ++ [(u, ks ++ [(N.length : Int)])]) := by
  unfold stepS
  rw [if_neg h1, if_neg h2, toRd_put]
  rfl
theorem toRd_last {N : List Nd} {S : List (Tk × List Int)} {u : Tk} {ks : List Int} (hS : S ≠ []) : (toRd N (S ++ [(u, ks)])).opened = (toRd N S).opened ++ [(u, (flatK S).length)] := by
  unfold toRd
  rw [offs_app, tail_app (offs_ne hS)]
  simp [offs]
theorem toRd_close {N : List Nd} {S : List (Tk × List Int)} {t u v : Tk} {ks ls : List Int} (hk : t.k = 2) : stepS (toRd N ((S ++ [(v, ls)]) ++ [(u, ks)])) t = toRd (N ++ [⟨2, u, ks⟩]) (S ++ [(v, ls ++ [(N.length : Int)])]) := by
  have hS : S ++ [(v, ls)] ≠ [] := by simp
  have hk1 : ¬ t.k = 1 := by omega
  unfold stepS
  rw [if_neg hk1, if_pos hk, toRd_last hS, List.getLast?_concat, List.dropLast_concat]
  have hf : (toRd N ((S ++ [(v, ls)]) ++ [(u, ks)])).free = flatK (S ++ [(v, ls)]) ++ ks := by
    show flatK _ = _
    rw [flatK_app, flatK_one]
  show (⟨_, _, _⟩ : Rd) = _
  rw [toRd_put, hf, List.drop_left, List.take_left]
  rfl
theorem toRd_E {N : List Nd} {S : List (Tk × List Int)} {t : Tk} (hg : Good t) (hS : 0 < S.length) (hb : S.length ≤ 4097) : stepE (toRd N S) t = if t.k = 1 then (if 4096 < S.length then 72 else 0) else if t.k = 2 then (if S.length = 1 then 70 else 0) else 0 := by
  have hl := toRd_opened (N := N) (S := S)
  unfold stepE
  rw [if_neg (not_not_intro hg)]
  by_cases h1 : t.k = 1
  · rw [if_pos h1, if_pos h1]
    by_cases h : 4096 < S.length
    · rw [if_pos h, if_pos (by omega)]
    · rw [if_neg h, if_neg (by omega)]
  · rw [if_neg h1, if_neg h1]
    by_cases h2 : t.k = 2
    · rw [if_pos h2, if_pos h2]
      by_cases h : S.length = 1
      · rw [if_pos h, if_pos (List.eq_nil_of_length_eq_zero (by omega))]
      · rw [if_neg h, if_neg (fun e => by rw [e] at hl; simp at hl; omega)]
    · rw [if_neg h2, if_neg h2]
theorem toRd_bad {N : List Nd} {S : List (Tk × List Int)} {t : Tk} (hg : ¬ Good t) : stepE (toRd N S) t = 73 := by unfold stepE; exact if_pos hg
/-- the place that Parse tells -/
noncomputable def plR (L : List Tk) : Int × Int := match (runR rd0 L).2 with | some p => (p.1.l, p.1.c) | none => (match (runR rd0 L).1.opened.getLast? with | some p => (p.1.l, p.1.c) | none => (0, 0))
/-- nodes in memory, all in blocks from B on -/
def SxB (w : World) (B : Nat) (v : Value) (L : List Nd) : Prop := ∃ ao cap, v = .slice ao L.length cap ∧ (L ≠ [] → ∃ b off, ao = some ⟨b, off, none⟩ ∧ b < w.heap.size ∧ B ≤ b ∧ ∀ (i : Nat) nd, L[i]? = some nd →
  w.cell? ⟨b, off + i * 7, none⟩ = some (.int .i64 nd.kind) ∧ (∀ j u, (tkCells nd.tok)[j]? = some u → w.cell? ⟨b, off + i * 7 + 1 + j, none⟩ = some u) ∧ ∃ kv, w.cell? ⟨b, off + i * 7 + 6, none⟩ = some kv ∧ InX w (fun b => B ≤ b) kv nd.kids)
theorem SxB.sx {w : World} {B : Nat} {v : Value} {L : List Nd} (h : SxB w B v L) : SxL w v L := by
  obtain ⟨ao, cap, h1, h2⟩ := h
  refine ⟨ao, cap, h1, fun hn => ?_⟩
  obtain ⟨b, off, e, hl, _, hc⟩ := h2 hn
  refine ⟨b, off, e, hl, fun i nd hi => ?_⟩
  obtain ⟨c0, c1, kv, c2, c3⟩ := hc i nd hi
  exact ⟨c0, c1, kv, c2, c3.inL⟩
theorem SxB.keeps {w w' : World} {B : Nat} {v : Value} {L : List Nd} (h : SxB w B v L) (hk : Keeps w w' (fun b => B ≤ b)) : SxB w' B v L := by
  obtain ⟨ao, cap, h1, h2⟩ := h
  refine ⟨ao, cap, h1, fun hn => ?_⟩
  obtain ⟨b, off, e, hl, hB, hc⟩ := h2 hn
  refine ⟨b, off, e, Nat.lt_of_lt_of_le hl hk.1, hB, fun i nd hi => ?_⟩
  obtain ⟨c0, c1, kv, c2, c3⟩ := hc i nd hi
  exact ⟨(hk.cell hl hB).trans c0, fun j u hj => (hk.cell hl hB).trans (c1 j u hj), kv, (hk.cell hl hB).trans c2, c3.keeps hk (fun _ _ hx => hx)⟩
theorem SxB.nil (w : World) (B : Nat) : SxB w B (.slice none 0 0) [] := ⟨none, 0, rfl, fun h => absurd rfl h⟩
theorem inx_nil (w : World) (X : Nat → Prop) : InX w X (.slice none 0 0) [] := ⟨none, 0, rfl, fun h => absurd rfl h⟩
theorem own_inB {w : World} {B base : Nat} {v : Value} {l : List Int} (h : w.ownsRow base 3 1 v l.length (inCells l)) (hB : B ≤ base) : InX w (fun b => B ≤ b) v l := by
  obtain ⟨ao, cap, rfl⟩ := own_len h
  refine ⟨ao, cap, rfl, fun hne => ?_⟩
  obtain ⟨g, cap', e, hg, hc⟩ := own_cells h (by rcases Nat.eq_zero_or_pos l.length with h0 | h0; exact absurd (List.eq_nil_of_length_eq_zero h0) hne; exact h0)
  simp only [Value.slice.injEq] at e
  refine ⟨g, 0, e.1, hg, Nat.le_trans hB (h.lt g (by rw [e.1]; rfl)).1, fun j x hx => ?_⟩
  rw [Nat.zero_add]
  exact hc j _ (by unfold inCells; rw [List.getElem?_map, hx]; rfl)
/-- nodes in an owned row are nodes in memory -/
theorem own_sxB {w : World} {B base : Nat} {nv : Value} {N : List (Nd × Value)} (h : w.ownsRow base 44 7 nv N.length (ndsCells N)) (hB : B ≤ base) (hk : ∀ p ∈ N, InX w (fun b => B ≤ b) p.2 p.1.kids) : SxB w B nv (N.map Prod.fst) := by
  obtain ⟨no, nc, rfl⟩ := own_len h
  refine ⟨no, nc, by rw [List.length_map], fun hne => ?_⟩
  have hN : 0 < N.length := by
    rcases Nat.eq_zero_or_pos N.length with h0 | h0
    · exact absurd (by rw [List.eq_nil_of_length_eq_zero h0]; rfl) hne
    · exact h0
  obtain ⟨g, cap, e, hg, hc⟩ := own_cells h hN
  simp only [Value.slice.injEq] at e
  refine ⟨g, 0, e.1, hg, Nat.le_trans hB (h.lt g (by rw [e.1]; rfl)).1, fun i nd hi => ?_⟩
  rw [List.getElem?_map] at hi
  obtain ⟨p, hp, rfl⟩ := Option.map_eq_some_iff.1 hi
  have hcell := fun j u hu => hc _ _ (nds_get N i p hp j u hu)
  simp only [Nat.zero_add]
  refine ⟨hcell 0 _ rfl, fun j u hj => ?_, p.2, hcell 6 _ rfl, hk p (List.mem_of_getElem? hp)⟩
  rw [show i * 7 + 1 + j = i * 7 + (1 + j) by omega]
  refine hcell (1 + j) u ?_
  match j, hj with
  | 0, hj => exact hj
  | 1, hj => exact hj
  | 2, hj => exact hj
  | 3, hj => exact hj
  | 4, hj => exact hj
  | j + 5, hj => simp [tkCells] at hj
/-- Parse's answer in one form, its place too, in blocks from B on -/
def UniP (B : Nat) (w' : World) (L : List Tk) (e : Ending) : Prop := ∃ na n nc fa m fc, e = .returned (.tuple #[.slice na n nc, .slice fa m fc, .int .i64 (plR L).1, .int .i64 (plR L).2, .int .i64 (errR L)]) ∧ n = (ndsR L).length ∧ m = (frR L).length ∧ n ≤ nc ∧ SxB w' B (.slice na n nc) (ndsR L) ∧ InX w' (fun b => B ≤ b) (.slice fa m fc) (frR L)
theorem uni_fault {B : Nat} {w' : World} {L : List Tk} {s : Rd} {t : Tk} {x : Int} (h1 : runR rd0 L = (s, some (t, x))) (hx : x ≠ 0) : UniP B w' L (.returned (.tuple #[.slice none 0 0, .slice none 0 0, .int .i64 t.l, .int .i64 t.c, .int .i64 x])) := by
  have he : errR L = x := by unfold errR; rw [h1]
  have hn : ndsR L = [] := by unfold ndsR; rw [he, if_neg hx]
  have hf : frR L = [] := by unfold frR; rw [he, if_neg hx]
  have hp : plR L = (t.l, t.c) := by unfold plR; rw [h1]
  unfold UniP
  rw [he, hn, hf, hp]
  exact ⟨none, 0, 0, none, 0, 0, rfl, rfl, rfl, Nat.le_refl _, SxB.nil _ _, inx_nil _ _⟩
theorem uni_end {B : Nat} {w' : World} {L : List Tk} {s : Rd} {t : Tk} {k : Nat} (h1 : runR rd0 L = (s, none)) (h2 : s.opened.getLast? = some (t, k)) : UniP B w' L (.returned (.tuple #[.slice none 0 0, .slice none 0 0, .int .i64 t.l, .int .i64 t.c, .int .i64 71])) := by
  have he : errR L = 71 := by
    unfold errR; rw [h1]
    exact if_neg (fun e => by rw [show s.opened = [] from e] at h2; cases h2)
  have hn : ndsR L = [] := by unfold ndsR; rw [he, if_neg (by decide)]
  have hf : frR L = [] := by unfold frR; rw [he, if_neg (by decide)]
  have hp : plR L = (t.l, t.c) := by unfold plR; rw [h1]; show (match s.opened.getLast? with | some p => (p.1.l, p.1.c) | none => (0, 0)) = _; rw [h2]
  unfold UniP
  rw [he, hn, hf, hp]
  exact ⟨none, 0, 0, none, 0, 0, rfl, rfl, rfl, Nat.le_refl _, SxB.nil _ _, inx_nil _ _⟩
theorem uni_ok {B : Nat} {w' : World} {L : List Tk} {s : Rd} {na fa : Option Addr} {n nc m fc : Nat} (h1 : runR rd0 L = (s, none)) (h2 : s.opened = []) (hn1 : n = s.nodes.length) (hm : m = s.free.length) (hc : n ≤ nc) (hs : SxB w' B (.slice na n nc) s.nodes) (hi : InX w' (fun b => B ≤ b) (.slice fa m fc) s.free) : UniP B w' L (.returned (.tuple #[.slice na n nc, .slice fa m fc, .int .i64 0, .int .i64 0, .int .i64 0])) := by
  have he : errR L = 0 := by unfold errR; rw [h1]; exact if_pos h2
  have hn : ndsR L = s.nodes := by unfold ndsR; rw [he, if_pos rfl, h1]
  have hf : frR L = s.free := by unfold frR; rw [he, if_pos rfl, h1]
  have hp : plR L = (0, 0) := by unfold plR; rw [h1]; show (match s.opened.getLast? with | some p => (p.1.l, p.1.c) | none => (0, 0)) = _; rw [h2]; rfl
  unfold UniP
  rw [he, hn, hf, hp]
  exact ⟨na, n, nc, fa, m, fc, rfl, hn1, hm, hc, hs, hi⟩
/-- the program's answer has that form -/
theorem parse_unip {w w' : World} {L : List Tk} {e : Ending} (h : ParseO w w' L e) : UniP w.heap.size w' L e := by
  obtain ⟨_, ⟨st, t, x, h1, rfl⟩ | ⟨st, t, k, h1, h2, rfl⟩ | ⟨st, nv, fv, ov, N, h1, h2, h3, h4, h5, rfl⟩⟩ := h
  · exact uni_fault h1 (fault_ne h1)
  · exact uni_end h1 h2
  · have ho := h4.nodes
    have hl : st.nodes.length = N.length := by rw [← h5, List.length_map]
    have hs := own_sxB (B := w.heap.size) ho (Nat.le_succ _) (fun p hp => (h4.kids p hp).keeps ((Keeps.refl w' _)) (fun b _ hx => Nat.le_of_lt hx.1))
    rw [h5] at hs
    have hi := own_inB (B := w.heap.size) h4.free (Nat.le_succ _)
    obtain ⟨na, nc, rfl⟩ := own_len ho
    obtain ⟨fa, fc, rfl⟩ := own_len h4.free
    have hc := own_cap ho
    exact uni_ok h1 h2 hl.symm rfl hc hs hi
end Go.Proofs.YtpkdiciinhjfjaaGreatDoor

/- tribunalref07: Parse: the state in memory. -/
namespace Go.Proofs.YtpkdiciinhjfjaaGreatDoor
open Go.RowKit Mth

/-- a cell of an owned row is turned -/
theorem own_setR {w : World} {base size n g cap i : Nat} {e : TypeId} {xs : List Value} {x : Value} (h : w.ownsRow base e size (.slice (some ⟨g, 0, none⟩) n cap) n xs) : (w.setCell ⟨g, i, none⟩ x).ownsRow base e size (.slice (some ⟨g, 0, none⟩) n cap) n (xs.set i x) := by
  obtain ⟨hl, h⟩ := h
  refine ⟨by rw [List.length_set]; exact hl, ?_⟩
  rcases h with ⟨h, _⟩ | ⟨g', cap', cur, h, hb, hh, h1, h2, h3, h4⟩
  · cases h
  · cases h
    refine .inr ⟨g, cap, cur.setIfInBounds i x, rfl, hb, heap_setCell_row hh rfl, h1, h2, by rw [Array.size_setIfInBounds]; exact h3, ?_⟩
    rw [Array.toList_setIfInBounds, List.take_set, h4]
theorem own_free {w : World} {base size n m g cap : Nat} {e : TypeId} {xs : List Value} (h : w.ownsRow base e size (.slice (some ⟨g, 0, none⟩) n cap) m xs) (i : Nat) : w.frozen? ⟨g, i, none⟩ = false := by
  rcases h.2 with ⟨h, _⟩ | ⟨g', cap', cur, h, hb, hh, _⟩
  · cases h
  · cases h
    exact frozen_of_row w g i _ _ hh
/-- the stack's cells: a token and a row of numbers each -/
def opCells (S : List ((Tk × List Int) × Value)) : List Value := S.flatMap fun p => tkCells p.1.1 ++ [p.2]
theorem op_app (A B : List ((Tk × List Int) × Value)) : opCells (A ++ B) = opCells A ++ opCells B := List.flatMap_append
theorem op_one (p : (Tk × List Int) × Value) : opCells [p] = tkCells p.1.1 ++ [p.2] := by simp [opCells]
theorem op_len (S : List ((Tk × List Int) × Value)) : (opCells S).length = S.length * 6 := by
  induction S with
  | nil => rfl
  | cons x S ih => rw [opCells, List.flatMap_cons, List.length_append, ← opCells, ih]; simp [tkCells]; omega
/-- blocks that no step turns -/
def RpX (B : Nat) (nv sv : Value) (S : List ((Tk × List Int) × Value)) (b : Nat) : Prop := nv.ownBlock ≠ some b ∧ sv.ownBlock ≠ some b ∧ (∀ p ∈ S, p.2.ownBlock ≠ some b) ∧ B ≤ b
structure RpV (w0 w : World) (nv sv : Value) (N : List (Nd × Value)) (S : List ((Tk × List Int) × Value)) : Prop where
  nodes : w.ownsRow w0.heap.size 44 7 nv N.length (ndsCells N)
  stk : w.ownsRow w0.heap.size 51 6 sv S.length (opCells S)
  rows : ∀ p ∈ S, w.ownsRow w0.heap.size 3 1 p.2 p.1.2.length (inCells p.1.2)
  ns : ∀ g, nv.ownBlock = some g → sv.ownBlock ≠ some g
  rn : ∀ p ∈ S, ∀ g, p.2.ownBlock = some g → nv.ownBlock ≠ some g ∧ sv.ownBlock ≠ some g
  rr : S.Pairwise fun p q => ∀ g, p.2.ownBlock = some g → q.2.ownBlock ≠ some g
  kids : ∀ p ∈ N, InX w (RpX w0.heap.size nv sv S) p.2 p.1.kids
  below : Below w0.heap.size w0 w
theorem rp_keep {w0 w w' : World} {nv sv : Value} {N : List (Nd × Value)} {S : List ((Tk × List Int) × Value)} (h : RpV w0 w nv sv N S) (hk : Keeps w w' (fun _ => True)) : RpV w0 w' nv sv N S :=
  ⟨own_keeps h.nodes hk (fun _ _ => trivial), own_keeps h.stk hk (fun _ _ => trivial), fun p hp => own_keeps (h.rows p hp) hk (fun _ _ => trivial), h.ns, h.rn, h.rr, fun q hq => (h.kids q hq).keeps (hk.weak (fun _ _ _ => trivial)) (fun _ _ hx => hx), h.below.trans (hk.below h.below.size (fun _ _ => trivial))⟩
/-- a list more is open -/
theorem rp_push {w0 w w' : World} {nv sv sv' : Value} {N : List (Nd × Value)} {S : List ((Tk × List Int) × Value)} {t : Tk} {n : Nat} (h : RpV w0 w nv sv N S) (hn : S.length = n) (ho : w'.ownsRow w0.heap.size 51 6 sv' (n + 1) (opCells S ++ (tkCells t ++ [.slice none 0 0]))) (hor : sv'.ownBlock = sv.ownBlock ∨ ∃ g, sv'.ownBlock = some g ∧ w.heap.size ≤ g) (hk : Keeps w w' (fun b => sv.ownBlock ≠ some b)) : RpV w0 w' nv sv' N (S ++ [((t, []), .slice none 0 0)]) := by
  subst hn
  have hnl := h.nodes.lt; have hsl := h.stk.lt
  have hX : ∀ b, b < w.heap.size → RpX w0.heap.size nv sv S b → RpX w0.heap.size nv sv' (S ++ [((t, []), .slice none 0 0)]) b := fun b hb hx => ⟨hx.1, own_new hor hb hx.2.1, (fun p hp => by
    rcases List.mem_append.1 hp with hp | hp
    · exact hx.2.2.1 p hp
    · obtain rfl := List.mem_singleton.1 hp
      intro e; cases e), hx.2.2.2⟩
  have hrl : ∀ p ∈ S, ∀ g, p.2.ownBlock = some g → w0.heap.size ≤ g ∧ g < w.heap.size := fun p hp => (h.rows p hp).lt
  refine ⟨own_keeps h.nodes hk (fun g hg => h.ns g hg), by rw [List.length_append, op_app, op_one]; exact ho, fun p hp => ?_, fun g hg => own_new hor (hnl g hg).2 (h.ns g hg), fun p hp g hg => ?_, ?_, fun q hq => (h.kids q hq).keeps (hk.weak (fun b _ hx => hx.2.1)) hX, h.below.trans (hk.below h.below.size (fun b hb e => by have := (hsl b e).1; omega))⟩
  · rcases List.mem_append.1 hp with hp | hp
    · exact own_keeps (h.rows p hp) hk (fun g hg => (h.rn p hp g hg).2)
    · obtain rfl := List.mem_singleton.1 hp
      exact World.ownsRow_nil _ _ _ _
  · rcases List.mem_append.1 hp with hp | hp
    · exact ⟨(h.rn p hp g hg).1, own_new hor (hrl p hp g hg).2 (h.rn p hp g hg).2⟩
    · obtain rfl := List.mem_singleton.1 hp
      cases hg
  · refine List.pairwise_append.2 ⟨h.rr, List.pairwise_singleton _ _, fun a _ b hb g _ e => ?_⟩
    obtain rfl := List.mem_singleton.1 hb
    cases e
theorem own_of {v v' ov : Value} {n : Nat} (hr : v'.ownBlock = v.ownBlock ∨ ∃ g, v'.ownBlock = some g ∧ n ≤ g) (hv : ∀ g, v.ownBlock = some g → ov.ownBlock ≠ some g) (hol : ∀ g, ov.ownBlock = some g → g < n) : ∀ g, v'.ownBlock = some g → ov.ownBlock ≠ some g := fun g hg e => by
  rcases hr with h | ⟨g', h, hg'⟩
  · exact hv g (h ▸ hg) e
  · rw [h] at hg; obtain rfl := Option.some.inj hg; have := hol _ e; omega
/-- a node more -/
theorem rp_node {w0 w w' : World} {nv nv' sv kv : Value} {N : List (Nd × Value)} {S : List ((Tk × List Int) × Value)} {nd : Nd} (h : RpV w0 w nv sv N S) (hkv : InX w (RpX w0.heap.size nv sv S) kv nd.kids) (ho : w'.ownsRow w0.heap.size 44 7 nv' (N.length + 1) (ndsCells N ++ ndCells nd kv)) (hor : nv'.ownBlock = nv.ownBlock ∨ ∃ g, nv'.ownBlock = some g ∧ w.heap.size ≤ g) (hk : Keeps w w' (fun b => nv.ownBlock ≠ some b)) : RpV w0 w' nv' sv (N ++ [(nd, kv)]) S := by
  have hnl := h.nodes.lt; have hsl := h.stk.lt
  have hrl : ∀ p ∈ S, ∀ g, p.2.ownBlock = some g → w0.heap.size ≤ g ∧ g < w.heap.size := fun p hp => (h.rows p hp).lt
  have hX : ∀ b, b < w.heap.size → RpX w0.heap.size nv sv S b → RpX w0.heap.size nv' sv S b := fun b hb hx => ⟨own_new hor hb hx.1, hx.2⟩
  have hkX : Keeps w w' (RpX w0.heap.size nv sv S) := hk.weak (fun b _ hx => hx.1)
  refine ⟨by rw [List.length_append, nds_app]; exact (by simpa [ndsCells] using ho), own_keeps h.stk hk (fun g hg e => h.ns g e hg), fun p hp => own_keeps (h.rows p hp) hk (fun g hg => (h.rn p hp g hg).1), own_of hor h.ns (fun g hg => (hsl g hg).2), fun p hp g hg => ⟨own_new hor (hrl p hp g hg).2 (h.rn p hp g hg).1, (h.rn p hp g hg).2⟩, h.rr, fun q hq => ?_, h.below.trans (hk.below h.below.size (fun b hb e => by have := (hnl b e).1; omega))⟩
  rcases List.mem_append.1 hq with hq | hq
  · exact (h.kids q hq).keeps hkX hX
  · obtain rfl := List.mem_singleton.1 hq
    exact hkv.keeps hkX hX
theorem set_last {S : List ((Tk × List Int) × Value)} {u : Tk} {ks ls : List Int} {kv kv' : Value} : (opCells (S ++ [((u, ks), kv)])).set (S.length * 6 + 5) kv' = opCells (S ++ [((u, ls), kv')]) := by
  rw [op_app, op_app, op_one, op_one, List.set_append, if_neg (by rw [op_len]; omega), op_len, show S.length * 6 + 5 - S.length * 6 = 5 by omega]
  rfl
/-- a number more in the last row -/
theorem rp_kids {w0 w w1 : World} {nv kv kv' : Value} {g n cap : Nat} {N : List (Nd × Value)} {S : List ((Tk × List Int) × Value)} {u : Tk} {ks xs : List Int} (h : RpV w0 w nv (.slice (some ⟨g, 0, none⟩) n cap) N (S ++ [((u, ks), kv)])) (hn : n = S.length + 1) (ho : w1.ownsRow w0.heap.size 3 1 kv' (ks ++ xs).length (inCells (ks ++ xs))) (hor : kv'.ownBlock = kv.ownBlock ∨ ∃ g, kv'.ownBlock = some g ∧ w.heap.size ≤ g) (hk : Keeps w w1 (fun b => kv.ownBlock ≠ some b)) :
    RpV w0 (w1.setCell ⟨g, S.length * 6 + 5, none⟩ kv') nv (.slice (some ⟨g, 0, none⟩) n cap) N (S ++ [((u, ks ++ xs), kv')]) := by
  subst hn
  have hnl := h.nodes.lt; have hsl := h.stk.lt g rfl
  have hm : ((u, ks), kv) ∈ S ++ [((u, ks), kv)] := by simp
  have hkl := (h.rows _ hm).lt
  have hrl : ∀ p ∈ S ++ [((u, ks), kv)], ∀ g, p.2.ownBlock = some g → w0.heap.size ≤ g ∧ g < w.heap.size := fun p hp => (h.rows p hp).lt
  have hgk : kv.ownBlock ≠ some g := fun e => (h.rn _ hm g e).2 rfl
  have hgk' : kv'.ownBlock ≠ some g := own_new hor hsl.2 hgk
  obtain ⟨p1, _, p3⟩ := List.pairwise_append.1 h.rr
  have hk2 : Keeps w (w1.setCell ⟨g, S.length * 6 + 5, none⟩ kv') (fun b => kv.ownBlock ≠ some b ∧ b ≠ g) := (hk.weak (Y := fun b => kv.ownBlock ≠ some b ∧ b ≠ g) (fun b _ hx => hx.1)).on Keeps.set (fun b _ hx => hx.2)
  have hkX : Keeps w (w1.setCell ⟨g, S.length * 6 + 5, none⟩ kv') (RpX w0.heap.size nv (.slice (some ⟨g, 0, none⟩) (S.length + 1) cap) (S ++ [((u, ks), kv)])) := hk2.weak (fun b _ hx => ⟨hx.2.2.1 _ hm, fun e => hx.2.1 (by rw [e]; rfl)⟩)
  have hX : ∀ b, b < w.heap.size → RpX w0.heap.size nv (.slice (some ⟨g, 0, none⟩) (S.length + 1) cap) (S ++ [((u, ks), kv)]) b → RpX w0.heap.size nv (.slice (some ⟨g, 0, none⟩) (S.length + 1) cap) (S ++ [((u, ks ++ xs), kv')]) b := fun b hb hx => ⟨hx.1, hx.2.1, (fun p hp => by
    rcases List.mem_append.1 hp with hp | hp
    · exact hx.2.2.1 p (List.mem_append_left _ hp)
    · obtain rfl := List.mem_singleton.1 hp
      exact own_new hor hb (hx.2.2.1 _ hm)), hx.2.2.2⟩
  have hst := h.stk
  rw [List.length_append] at hst
  have hst1 := own_setR (i := S.length * 6 + 5) (x := kv') (own_keeps hst hk (fun x hx => by obtain rfl : g = x := Option.some.inj hx; exact hgk))
  rw [set_last (ls := ks ++ xs)] at hst1
  refine ⟨own_keeps h.nodes hk2 (fun x hx => ⟨fun e => (h.rn _ hm x e).1 hx, fun e => h.ns x hx (by rw [e]; rfl)⟩), by rw [List.length_append]; exact hst1, fun p hp => ?_, h.ns, fun p hp x hx => ?_, ?_, fun q hq => (h.kids q hq).keeps hkX hX, h.below.trans (hk2.below h.below.size (fun b hb => ⟨fun e => by have := (hkl b e).1; omega, by omega⟩))⟩
  · rcases List.mem_append.1 hp with hp | hp
    · have hp' := List.mem_append_left [((u, ks), kv)] hp
      exact own_keeps (h.rows p hp') hk2 (fun x hx => ⟨fun e => p3 p hp ((u, ks), kv) (by simp) x hx e, fun e => (h.rn p hp' x hx).2 (by rw [e]; rfl)⟩)
    · obtain rfl := List.mem_singleton.1 hp
      exact own_keeps ho Keeps.set (fun x hx e => hgk' (by rw [← e]; exact hx))
  · rcases List.mem_append.1 hp with hp | hp
    · exact h.rn p (List.mem_append_left _ hp) x hx
    · obtain rfl := List.mem_singleton.1 hp
      refine ⟨own_of hor (fun y hy => (h.rn _ hm y hy).1) (fun y hy => (hnl y hy).2) x hx, fun e => ?_⟩
      obtain rfl : g = x := Option.some.inj e
      exact hgk' hx
  · refine List.pairwise_append.2 ⟨p1, List.pairwise_singleton _ _, fun a ha b hb x hx => ?_⟩
    obtain rfl := List.mem_singleton.1 hb
    exact own_new hor (hrl a (List.mem_append_left _ ha) x hx).2 (p3 a ha ((u, ks), kv) (by simp) x hx)
theorem rp_top {w0 w w1 : World} {nv kv : Value} {g n cap m : Nat} {N : List (Nd × Value)} {S : List ((Tk × List Int) × Value)} {u : Tk} {ks : List Int} (h : RpV w0 w nv (.slice (some ⟨g, 0, none⟩) n cap) N (S ++ [((u, ks), kv)])) (hk : Keeps w w1 (fun b => kv.ownBlock ≠ some b)) (hm : S.length = m) : w1.cell? ⟨g, m * 6 + 5, none⟩ = some kv ∧ w1.frozen? ⟨g, m * 6 + 5, none⟩ = false := by
  subst hm
  have hst := own_keeps h.stk hk (fun x hx => by obtain rfl : g = x := Option.some.inj hx; exact fun e => (h.rn ((u, ks), kv) (by simp) g e).2 rfl)
  refine ⟨?_, own_free hst _⟩
  have hn : n = (S ++ [((u, ks), kv)]).length := by
    rcases hst.2 with ⟨e, _⟩ | ⟨_, _, _, e, _⟩
    · cases e
    · cases e; rfl
  subst hn
  rw [hst.cellAt _ (by rw [List.length_append]; simp; omega), op_app, List.getElem?_append_right (by rw [op_len]; omega), op_len, show S.length * 6 + 5 - S.length * 6 = 5 by omega]
  rfl
theorem own_inX {w : World} {base : Nat} {v : Value} {l : List Int} {X : Nat → Prop} (h : w.ownsRow base 3 1 v l.length (inCells l)) (hx : ∀ g, v.ownBlock = some g → X g) : InX w X v l := by
  obtain ⟨ao, cap, rfl⟩ := own_len h
  refine ⟨ao, cap, rfl, fun hne => ?_⟩
  obtain ⟨g, cap', e, hg, hc⟩ := own_cells h (by rcases Nat.eq_zero_or_pos l.length with h0 | h0; exact absurd (List.eq_nil_of_length_eq_zero h0) hne; exact h0)
  simp only [Value.slice.injEq] at e
  refine ⟨g, 0, e.1, hg, hx g (by rw [e.1]; rfl), fun j x hx => ?_⟩
  rw [Nat.zero_add]
  exact hc j _ (by unfold inCells; rw [List.getElem?_map, hx]; rfl)
/-- the last list is taken off -/
theorem rp_pop {w0 w : World} {nv : Value} {g cap : Nat} {N : List (Nd × Value)} {S : List ((Tk × List Int) × Value)} {p : (Tk × List Int) × Value} (h : RpV w0 w nv (.slice (some ⟨g, 0, none⟩) (S.length + 1) cap) N (S ++ [p])) :
    RpV w0 w nv (.slice (some ⟨g, 0, none⟩) S.length cap) N S ∧ InX w (RpX w0.heap.size nv (.slice (some ⟨g, 0, none⟩) S.length cap) S) p.2 p.1.2 := by
  obtain ⟨p1, _, p3⟩ := List.pairwise_append.1 h.rr
  have hst := h.stk
  rw [List.length_append, op_app] at hst
  have hm : p ∈ S ++ [p] := by simp
  refine ⟨⟨h.nodes, ownsRow_pop (op_len S) hst, fun q hq => h.rows q (List.mem_append_left _ hq), h.ns, fun q hq => h.rn q (List.mem_append_left _ hq), p1, fun q hq => (h.kids q hq).keeps (Keeps.refl w _) (fun b _ hx => ⟨hx.1, hx.2.1, fun r hr => hx.2.2.1 r (List.mem_append_left _ hr), hx.2.2.2⟩), h.below⟩, ?_⟩
  exact own_inX (h.rows p hm) (fun x hx => ⟨(h.rn p hm x hx).1, (h.rn p hm x hx).2, fun q hq e => p3 q hq p (by simp) x e hx, ((h.rows p hm).lt x hx).1⟩)
theorem rp_sx {w0 w : World} {nv sv : Value} {N : List (Nd × Value)} {S : List ((Tk × List Int) × Value)} (h : RpV w0 w nv sv N S) : SxB w w0.heap.size nv (N.map Prod.fst) := own_sxB h.nodes (Nat.le_refl _) (fun p hp => (h.kids p hp).keeps (Keeps.refl w _) (fun _ _ hx => hx.2.2.2))
end Go.Proofs.YtpkdiciinhjfjaaGreatDoor

/- tribunalref07: Parse: its appends. -/
namespace Go.Proofs.YtpkdiciinhjfjaaGreatDoor
open Go.RowKit Mth

theorem info_op : (Tryz.prog.info? 51).map (fun i => (i.zero, i.size, i.bytes)) = some (some (.agg #[.int .i64 0, .string ⟨#[]⟩, .bool false, .int .i64 0, .int .i64 0, .slice none 0 0]), 6, 72) := by kernel_rfl
theorem blk6 {w : World} {g : Nat} {T : TypeId} {x0 x1 x2 x3 x4 x5 : Value} (h : w.heap[g]? = some (.cells #[x0, x1, x2, x3, x4, x5] T (0, 0))) :
    w.cell? ⟨g, 0, none⟩ = some x0 ∧ w.cell? ⟨g, 1, none⟩ = some x1 ∧ w.cell? ⟨g, 2, none⟩ = some x2 ∧ w.cell? ⟨g, 3, none⟩ = some x3 ∧ w.cell? ⟨g, 4, none⟩ = some x4 ∧ w.cell? ⟨g, 5, none⟩ = some x5 := by
  refine ⟨?_, ?_, ?_, ?_, ?_, ?_⟩ <;> (rw [cell_of_row w g _ _ _ (0, 0) h]; rfl)
/-- a list more on the stack -/
theorem append_opL {w : World} {ops : Array Oper} {rest : List Oper} {o : Oper} {a : Act} {Q : Exit → Act → World → Prop} (hgd : o.guard = none) (s x : Operand)
    (ho : o.op = .call { callee := .builtin .append, args := #[s, x], argTypes := #[52, 52] }) (base : Nat) (v : Value) (n : Nat) (xs : List Value) (b cap : Nat) (k l c : Int) (t : ByteArray) (q : Bool) (u : Value) (hu' : u.oneCell' = true)
    (hs : a.eval s = v) (hx : a.eval x = .slice (some ⟨b, 0, none⟩) 1 cap) (hown : w.ownsRow base 51 6 v n xs) (hu : w.heap[b]? = some (.cells #[.int .i64 k, .string t, .bool q, .int .i64 l, .int .i64 c, u] 51 (0, 0))) (hlen : n ≤ 1048576) (hbase : base ≤ w.heap.size)
    (h : ∀ v' w', w'.ownsRow base 51 6 v' (n + 1) (xs ++ [.int .i64 k, .string t, .bool q, .int .i64 l, .int .i64 c, u]) → w.grownBy w' v.ownBlock → (v'.ownBlock = v.ownBlock ∨ v'.ownBlock = some w.heap.size) → wpList Tryz.prog ops Q rest (a.put o.dst v') w') : wpList Tryz.prog ops Q (o :: rest) a w := by
  obtain ⟨i0, hi, hz0, hz1, hz2⟩ := info_parts info_op
  obtain ⟨c0, c1, c2, c3, c4, c5⟩ := blk6 hu
  refine wpList_append_own_at w hgd s x 52 ho base 51 i0 _ 6 72 Tryz.underlying52 hi hz0 hz1 hz2 rfl (by decide) v _ _ hs hown ⟨b, 0, none⟩ 1 cap [.int .i64 k, .string t, .bool q, .int .i64 l, .int .i64 c, u] hx rfl ?_ ?_
      (by unfold maxLen; omega) (by omega) hbase ?_
  · intro j y hj
    match j, hj with
    | 0, hj => obtain rfl := Option.some.inj hj; rw [Addr.add_lit]; exact c0
    | 1, hj => obtain rfl := Option.some.inj hj; rw [Addr.add_lit]; exact c1
    | 2, hj => obtain rfl := Option.some.inj hj; rw [Addr.add_lit]; exact c2
    | 3, hj => obtain rfl := Option.some.inj hj; rw [Addr.add_lit]; exact c3
    | 4, hj => obtain rfl := Option.some.inj hj; rw [Addr.add_lit]; exact c4
    | 5, hj => obtain rfl := Option.some.inj hj; rw [Addr.add_lit]; exact c5
    | j + 6, hj => simp at hj
  · intro y hy
    simp at hy
    rcases hy with rfl | rfl | rfl | rfl | rfl | rfl <;> first | rfl | exact hu'
  · intro v' w' h2 h3 _ h5
    exact h v' w' h2 h3 h5
/-- a node more -/
theorem append_ndL {w : World} {ops : Array Oper} {rest : List Oper} {o : Oper} {a : Act} {Q : Exit → Act → World → Prop} (hgd : o.guard = none) (s x : Operand)
    (ho : o.op = .call { callee := .builtin .append, args := #[s, x], argTypes := #[23, 23] }) (base : Nat) (v : Value) (n : Nat) (xs : List Value) (b cap : Nat) (kd k l c : Int) (t : ByteArray) (q : Bool) (u : Value) (hu' : u.oneCell' = true)
    (hs : a.eval s = v) (hx : a.eval x = .slice (some ⟨b, 0, none⟩) 1 cap) (hown : w.ownsRow base 44 7 v n xs) (hu : w.heap[b]? = some (.cells #[.int .i64 kd, .int .i64 k, .string t, .bool q, .int .i64 l, .int .i64 c, u] 44 (0, 0))) (hlen : n ≤ 1048576) (hbase : base ≤ w.heap.size)
    (h : ∀ v' w', w'.ownsRow base 44 7 v' (n + 1) (xs ++ [.int .i64 kd, .int .i64 k, .string t, .bool q, .int .i64 l, .int .i64 c, u]) → w.grownBy w' v.ownBlock → (v'.ownBlock = v.ownBlock ∨ v'.ownBlock = some w.heap.size) → wpList Tryz.prog ops Q rest (a.put o.dst v') w') : wpList Tryz.prog ops Q (o :: rest) a w := by
  obtain ⟨i0, hi, hz0, hz1, hz2⟩ := info_parts info_sx
  obtain ⟨c0, c1, c2, c3, c4, c5, c6⟩ := blk7 hu
  refine wpList_append_own_at w hgd s x 23 ho base 44 i0 _ 7 80 Tryz.underlying23 hi hz0 hz1 hz2 rfl (by decide) v _ _ hs hown ⟨b, 0, none⟩ 1 cap [.int .i64 kd, .int .i64 k, .string t, .bool q, .int .i64 l, .int .i64 c, u] hx rfl ?_ ?_
      (by unfold maxLen; omega) (by omega) hbase ?_
  · intro j y hj
    match j, hj with
    | 0, hj => obtain rfl := Option.some.inj hj; rw [Addr.add_lit]; exact c0
    | 1, hj => obtain rfl := Option.some.inj hj; rw [Addr.add_lit]; exact c1
    | 2, hj => obtain rfl := Option.some.inj hj; rw [Addr.add_lit]; exact c2
    | 3, hj => obtain rfl := Option.some.inj hj; rw [Addr.add_lit]; exact c3
    | 4, hj => obtain rfl := Option.some.inj hj; rw [Addr.add_lit]; exact c4
    | 5, hj => obtain rfl := Option.some.inj hj; rw [Addr.add_lit]; exact c5
    | 6, hj => obtain rfl := Option.some.inj hj; rw [Addr.add_lit]; exact c6
    | j + 7, hj => simp at hj
  · intro y hy
    simp at hy
    rcases hy with rfl | rfl | rfl | rfl | rfl | rfl | rfl <;> first | rfl | exact hu'
  · intro v' w' h2 h3 _ h5
    exact h v' w' h2 h3 h5
/-- a number more in a row -/
theorem append_inL {w : World} {ops : Array Oper} {rest : List Oper} {o : Oper} {a : Act} {Q : Exit → Act → World → Prop} (hgd : o.guard = none) (s x : Operand)
    (ho : o.op = .call { callee := .builtin .append, args := #[s, x], argTypes := #[24, 24] }) (base : Nat) (v : Value) (l : List Int) (b cap : Nat) (y : Int)
    (hs : a.eval s = v) (hx : a.eval x = .slice (some ⟨b, 0, none⟩) 1 cap) (hown : w.ownsRow base 3 1 v l.length (inCells l)) (hu : w.heap[b]? = some (.cells #[.int .i64 y] 3 (0, 0))) (hlen : l.length ≤ 4194304) (hbase : base ≤ w.heap.size)
    (h : ∀ v' w', w'.ownsRow base 3 1 v' (l ++ [y]).length (inCells (l ++ [y])) → w.grownBy w' v.ownBlock → (v'.ownBlock = v.ownBlock ∨ v'.ownBlock = some w.heap.size) → wpList Tryz.prog ops Q rest (a.put o.dst v') w') : wpList Tryz.prog ops Q (o :: rest) a w := by
  obtain ⟨i0, hi, hz0, hz1, hz2⟩ := info_parts info_int
  have c0 := blk1s hu
  refine wpList_append_own_at w hgd s x 24 ho base 3 i0 _ 1 8 Tryz.underlying24 hi hz0 hz1 hz2 rfl (by decide) v _ _ hs hown ⟨b, 0, none⟩ 1 cap [.int .i64 y] hx rfl ?_ ?_
      (by unfold maxLen; omega) (by omega) hbase ?_
  · intro j u hj
    match j, hj with
    | 0, hj => obtain rfl := Option.some.inj hj; rw [Addr.add_lit]; exact c0
    | j + 1, hj => simp at hj
  · intro u hu
    simp at hu
    rcases hu with rfl
    rfl
  · intro v' w' h2 h3 _ h5
    refine h v' w' ?_ h3 h5
    rw [in_app, List.length_append]
    exact h2
/-- what the reference's loop holds -/
def RpR (w : World) (L : List Tk) (nv sv i : Value) (wr : World) : Prop := ∃ (j : Nat) (N : List (Nd × Value)) (S : List ((Tk × List Int) × Value)) (u : Tk) (ks : List Int) (kv : Value), j ≤ L.length ∧ i = .int .i64 (j : Int) ∧ RpV w wr nv sv N (S ++ [((u, ks), kv)]) ∧ RdB (toRd (N.map Prod.fst) (S.map Prod.fst ++ [(u, ks)])) j ∧ runR rd0 L = runR (toRd (N.map Prod.fst) (S.map Prod.fst ++ [(u, ks)])) (L.drop j)
theorem rp_step {L : List Tk} {j : Nat} {s : Rd} {t : Tk} (hj : L[j]? = some t) (hb : RdB s j) (hr : runR rd0 L = runR s (L.drop j)) (he : stepE s t = 0) : RdB (stepS s t) (j + 1) ∧ runR rd0 L = runR (stepS s t) (L.drop (j + 1)) := by
  have hlt := (List.getElem?_eq_some_iff.1 hj).1
  refine ⟨rdb_step hb he, ?_⟩
  rw [hr, List.drop_eq_getElem_cons hlt, (List.getElem?_eq_some_iff.1 hj).2, runR, if_pos he]
theorem rp_last {N : List Nd} {S : List (Tk × List Int)} {u : Tk} {ks : List Int} {j : Nat} (h : RdB (toRd N (S ++ [(u, ks)])) j) : ks.length ≤ j := by
  have h2 := h.free
  have h4 : (toRd N (S ++ [(u, ks)])).free = flatK S ++ ks := by show flatK _ = _; rw [flatK_app, flatK_one]
  rw [h4, List.length_append] at h2
  omega
theorem rp_bounds {N : List (Nd × Value)} {S : List ((Tk × List Int) × Value)} {u : Tk} {ks : List Int} {j : Nat} (h : RdB (toRd (N.map Prod.fst) (S.map Prod.fst ++ [(u, ks)])) j) : N.length ≤ j ∧ ks.length ≤ j ∧ S.length ≤ 4096 := by
  have h1 := h.nodes
  have h2 := h.free
  have h3 := h.opened
  rw [toRd_opened] at h3
  have h4 : (toRd (N.map Prod.fst) (S.map Prod.fst ++ [(u, ks)])).free = flatK (S.map Prod.fst) ++ ks := by show flatK _ = _; rw [flatK_app, flatK_one]
  rw [h4, List.length_append] at h2
  have h5 : (toRd (N.map Prod.fst) (S.map Prod.fst ++ [(u, ks)])).nodes.length = N.length := by show (N.map Prod.fst).length = _; rw [List.length_map]
  rw [h5] at h1
  rw [List.length_append, List.length_map] at h3
  simp at h3
  exact ⟨h1, by omega, by omega⟩
end Go.Proofs.YtpkdiciinhjfjaaGreatDoor

/- tribunalref07: Parse. -/
namespace Go.Proofs.YtpkdiciinhjfjaaGreatDoor
open Go.RowKit Mth

def tkNo : Tk := ⟨0, ⟨#[]⟩, false, 0, 0⟩
theorem rp_start {w W : World} {L : List Tk} (eW : w.alloc (Obj.cells #[.int .i64 0, .string ⟨#[]⟩, .bool false, .int .i64 0, .int .i64 0, .slice none 0 0] 51) = W) : RpR w L (.slice none 0 0) (.slice (some ⟨w.heap.size, 0, none⟩) 1 1) (.int .i64 ((0 : Nat) : Int)) W := by
  have g := heap_alloc_new w (Obj.cells #[.int .i64 0, .string ⟨#[]⟩, .bool false, .int .i64 0, .int .i64 0, .slice none 0 0] 51)
  rw [eW] at g
  have e0 : toRd [] [(tkNo, [])] = rd0 := rfl
  refine ⟨0, [], [], tkNo, [], .slice none 0 0, Nat.zero_le _, rfl, ⟨World.ownsRow_nil _ _ _ _, ⟨rfl, .inr ⟨w.heap.size, 1, _, rfl, Nat.le_refl _, g, Nat.le_refl _, by unfold maxLen; omega, rfl, rfl⟩⟩, fun p hp => ?_, fun g h => (by cases h), fun p hp g hg => ?_, List.pairwise_singleton _ _, fun p h => (by cases h), by rw [← eW]; exact (Below.refl _ _).alloc (Nat.le_refl _) _⟩, ?_, ?_⟩
  · obtain rfl := List.mem_singleton.1 hp
    exact World.ownsRow_nil _ _ _ _
  · obtain rfl := List.mem_singleton.1 hp
    cases hg
  · exact rdb0
  · rw [List.drop_zero]; rfl
theorem top_cells {w : World} {base n g cap m : Nat} {S : List ((Tk × List Int) × Value)} {u : Tk} {ks : List Int} {kv : Value} (h : w.ownsRow base 51 6 (.slice (some ⟨g, 0, none⟩) n cap) (S.length + 1) (opCells (S ++ [((u, ks), kv)]))) (hm : S.length = m) : w.cell? ⟨g, m * 6, none⟩ = some (.int .i64 u.k) ∧ w.cell? ⟨g, m * 6 + 1, none⟩ = some (.string u.t) ∧ w.cell? ⟨g, m * 6 + 2, none⟩ = some (.bool u.q) ∧ w.cell? ⟨g, m * 6 + 3, none⟩ = some (.int .i64 u.l) ∧ w.cell? ⟨g, m * 6 + 4, none⟩ = some (.int .i64 u.c) ∧ w.cell? ⟨g, m * 6 + 5, none⟩ = some kv := by
  subst hm
  have hn : n = S.length + 1 := by
    rcases h.2 with ⟨e, _⟩ | ⟨_, _, _, e, _⟩
    · cases e
    · cases e; rfl
  subst hn
  have hc : ∀ i (hi : i < 6), w.cell? ⟨g, S.length * 6 + i, none⟩ = (opCells [((u, ks), kv)])[i]? := fun i hi => by
    rw [h.cellAt _ (by omega), op_app, List.getElem?_append_right (by rw [op_len]; omega), op_len, show S.length * 6 + i - S.length * 6 = i by omega]
  exact ⟨hc 0 (by omega), hc 1 (by omega), hc 2 (by omega), hc 3 (by omega), hc 4 (by omega), hc 5 (by omega)⟩
theorem top_kids {w : World} {base n g cap m : Nat} {S : List ((Tk × List Int) × Value)} {u : Tk} {ks : List Int} {kv : Value} (h : w.ownsRow base 51 6 (.slice (some ⟨g, 0, none⟩) n cap) (S.length + 1) (opCells (S ++ [((u, ks), kv)]))) (hm : S.length = m) : w.cell? ⟨g, m * 6 + 5, none⟩ = some kv := (top_cells h hm).2.2.2.2.2
theorem rp_okE {N : List Nd} {S : List (Tk × List Int)} {t u : Tk} {ks : List Int} (hg : Good t) (hb : S.length ≤ 4096) : stepE (toRd N (S ++ [(u, ks)])) t = if t.k = 1 then (if 4096 < S.length + 1 then 72 else 0) else if t.k = 2 then (if S = [] then 70 else 0) else 0 := by
  rw [toRd_E hg (by simp) (by simp; omega), List.length_append]
  simp only [List.length_cons, List.length_nil, Nat.zero_add]
  rcases Classical.em (S = []) with h | h
  · rw [h]; simp
  · have : S.length ≠ 0 := fun e => h (List.eq_nil_of_length_eq_zero e)
    rw [if_neg (show ¬ S.length + 1 = 1 by omega), if_neg h]
set_option maxHeartbeats 32000000 in
set_option maxRecDepth 100000 in
theorem rparse_any (L : List Tk) (v : Value) (w : World) (hv : TkL w v L) (hlen : L.length ≤ 1048576) (ht : ∀ x ∈ L, x.t.size ≤ 1048576) : Calls Tryz.prog 7 #[v] w fun e w' => UniP w.heap.size w' L e ∧ Below w.heap.size w w' := by
  have HTL := Lib.hid hv; have HT := Lib.hid ht
  obtain ⟨ao, cap, rfl, hc⟩ := hv
  obtain ⟨W, eW, gW, bW, hWs⟩ := allocS w (Obj.cells #[.int .i64 0, .string ⟨#[]⟩, .bool false, .int .i64 0, .int .i64 0, .slice none 0 0] 51)
  have ST : Hid (RpR w L (.slice none 0 0) (.slice (some ⟨w.heap.size, 0, none⟩) 1 1) (.int .i64 ((0 : Nat) : Int)) W) := Lib.hid (rp_start eW)
  clear ht hc gW bW
  go_enter Tryz.func7, Tryz.ntmps7
  go_wp2_with fail
  try rw [eW]
  go_loopw [7, 8, 9] (fun nv sv i wr => RpR w L nv sv i wr) (fun _ _ i _ => L.length - (intOf i).toNat)
  case atStart => exact ST.out
  case round =>
    obtain ⟨j, N, S, u, ks, kv, hj, rfl, hR, hb, hr⟩ := hrel
    obtain ⟨bN, bK, bS⟩ := rp_bounds hb
    have HR := Lib.hid hR; have HB := Lib.hid hb; have HRR := Lib.hid hr
    obtain ⟨m, hm⟩ : ∃ m, S.length = m := ⟨_, rfl⟩
    have HM := Lib.hid hm
    have hm4 : m ≤ 4096 := by omega
    have hst := hR.stk
    rw [List.length_append] at hst
    obtain ⟨g, scap, hsv⟩ := own_some hst (by simp)
    rw [show S.length + [((u, ks), kv)].length = m + 1 by rw [hm]; rfl] at hsv
    subst hsv
    obtain ⟨no, ncap, rfl⟩ := own_len hR.nodes
    obtain ⟨ko, kcap, hko⟩ := own_len (hR.rows ((u, ks), kv) (by simp))
    change kv = .slice ko ks.length kcap at hko
    subst hko
    have hsc := own_cap hst
    rw [show S.length + [((u, ks), Value.slice ko ks.length kcap)].length = m + 1 by rw [hm]; rfl] at hsc
    by_cases hlt : j < L.length
    · have hx : L[j]? = some L[j] := List.getElem?_eq_getElem hlt
      have hxt := HT.out _ (List.getElem_mem hlt)
      obtain ⟨ao', cap', he, hc⟩ := HTL.out.below hR.below
      obtain ⟨b, off, hb', hblt, hcc⟩ := hc (fun e => by rw [e] at hlt; simp at hlt)
      injection he with he1 he2 he3
      rw [hb'] at he1
      subst he1
      obtain ⟨a0, a1, a2, a3, a4⟩ := TkL.at hcc hx
      have HX := Lib.hid hx
      generalize L[j] = t at *
      obtain ⟨V, eV, gV, bV, hVs⟩ := allocS wr (Obj.cells #[.int .i64 t.k, .string t.t, .bool t.q, .int .i64 t.l, .int .i64 t.c] 37)
      have WR0 := rwrite_any t hxt V
      have HBV := Lib.hid bV
      have GV := Lib.hid gV
      have hjl : j + 1 ≤ L.length := hlt
      have hj20 : j < 1048576 := by omega
      have hV5 := blk5 gV
      obtain ⟨v0, v1, v2, v3, v4⟩ := hV5
      clear hR hst hcc hc he2 he3 hb hr gV bV hx hxt
      by_cases hg : Good t
      · have WR : Hid (Calls Tryz.prog 14 #[.agg #[.int .i64 t.k, .string t.t, .bool t.q, .int .i64 t.l, .int .i64 t.c]] V fun e w' => e = .returned (.tuple #[.string (wrB t), .int .i64 0]) ∧ Below V.heap.size V w') := Lib.hid (WR0.mono (by
          rintro e w' ⟨hb, ⟨_, rfl⟩ | ⟨h, _⟩⟩
          · exact ⟨rfl, hb⟩
          · exact absurd hg h))
        have HE := Lib.hid (rp_okE (N := N.map Prod.fst) (S := S.map Prod.fst) (u := u) (ks := ks) hg (by rw [List.length_map, hm]; exact hm4))
        clear WR0
        go_wp2_with fail
        try rw [eV]
        refine WR.out.mono ?_
        rintro e w1 ⟨rfl, hb1⟩
        have K1 := Lib.hid (Keeps.of_below (belowT HBV.out hb1))
        have R1 := Lib.hid (rp_keep HR.out K1.out)
        have G1 := Lib.hid (blkT hb1 GV.out)
        obtain ⟨c0, c1, c2, c3, c4⟩ := blk5 G1.out
        have hw1 : w.heap.size ≤ w1.heap.size := R1.out.below.size
        have BL1 := Lib.hid R1.out.below
        clear hb1 WR a0 a1 a2 a3 a4 v0 v1 v2 v3 v4
        by_cases k1 : t.k = 1
        · have d1 : (t.k == 1) = true := by rw [k1]; rfl
          have E1 := HE.out
          rw [if_pos k1, List.length_map, hm] at E1
          by_cases hd : 4096 < m + 1
          · rw [if_pos hd] at E1
            have PF := Lib.hid (par_fault HX.out HRR.out (by rw [E1]; decide))
            rw [E1] at PF
            obtain rfl : m = 4096 := by omega
            clear E1 k1
            go_wp2_with fail
            go_quiet (fail)
            go_wp2
            refine bodyPost_ret (v := .tuple #[.slice none 0 0, .slice none 0 0, .int .i64 t.l, .int .i64 t.c, .int .i64 72]) ?_ rfl ⟨uni_fault PF.out (by decide), below_drewN BL1.out _⟩
            simp [results, Tryz.results7, go_sem]
          · rw [if_neg hd] at E1
            obtain ⟨hb2, hr2⟩ := rp_step HX.out HB.out HRR.out E1
            rw [toRd_open (by simp) k1] at hb2 hr2
            have HB2 := Lib.hid hb2; have HR2 := Lib.hid hr2
            obtain ⟨V2, eV2, gV2, bV2, hVs2⟩ := allocS w1 (Obj.cells #[.int .i64 t.k, .string t.t, .bool t.q, .int .i64 t.l, .int .i64 t.c, .slice none 0 0] 51)
            have K2 := Lib.hid (Keeps.of_below bV2)
            have G2 := Lib.hid gV2
            have HL : Hid ((S ++ [((u, ks), Value.slice ko ks.length kcap)]).length = m + 1) := Lib.hid (by rw [List.length_append, hm]; rfl)
            have ST2 := Lib.hid (own_keeps R1.out.stk K2.out (fun _ _ => trivial))
            rw [HL.out] at ST2
            have hV2 : w1.heap.size ≤ V2.heap.size := K2.out.1
            have hdl : m + 1 ≤ 4096 := by omega
            clear E1 hb2 hr2 gV2 bV2 hd k1
            go_wp2_with (at_builtin; refine append_opL rfl _ _ rfl w.heap.size _ (m + 1) (opCells (S ++ [((u, ks), Value.slice ko ks.length kcap)])) w1.heap.size 1 t.k t.l t.c t.t t.q (.slice none 0 0) rfl rfl rfl (by first | exact ST2.out | (rw [eV2]; exact ST2.out)) (by first | exact G2.out | (rw [eV2]; exact G2.out)) (by omega) (by first | omega | (rw [eV2]; omega)) ?_; (try rw [eV2]); intro v3 w3 hown3 hgr3 hor3; obtain ⟨g3, cap3, rfl⟩ := own_some hown3 (by omega); have R3 := Lib.hid (rp_push R1.out HL.out hown3 (hor3.imp id (fun h => ⟨_, h, hV2⟩)) ((K2.out.weak (fun _ _ _ => trivial)).trans (Keeps.of_grown hgr3))); clear hown3 hgr3 hor3)
            go_roundw
            case rel => exact ⟨j + 1, N, S ++ [((u, ks), .slice ko ks.length kcap)], t, [], .slice none 0 0, hjl, rfl, R3.out, by rw [List.map_append]; exact HB2.out, by rw [List.map_append]; exact HR2.out⟩
            case measure => simp [intOf]; omega
        · have d1 : (t.k == 1) = false := beq_eq_false_iff_ne.2 k1
          obtain ⟨V2, eV2, gV2, bV2, hVs2⟩ := allocS w1 (Obj.cells #[.int .i64 1, .int .i64 t.k, .string t.t, .bool t.q, .int .i64 t.l, .int .i64 t.c, .slice none 0 0] 44)
          have K2 := Lib.hid (Keeps.of_below bV2)
          have HNB2 := Lib.hid gV2
          have R2 := Lib.hid (rp_keep R1.out K2.out)
          have G2 := Lib.hid (blkT bV2 G1.out)
          obtain ⟨e0, e1, e2, e3, e4⟩ := blk5 G2.out
          have zV2 : V2.heap.size = w1.heap.size + 1 := by rw [← eV2]; simp
          obtain ⟨n0, n1, n2, n3, n4, n5, n6⟩ := blk7 HNB2.out
          have fy : ∀ i, V2.frozen? ⟨w1.heap.size, i, none⟩ = false := fun i => frozen_of_row V2 w1.heap.size i _ _ HNB2.out
          have q0 := fy 0; have q1 := fy 1; have q2 := fy 2; have q3 := fy 3; have q4 := fy 4; have q5 := fy 5; have q6 := fy 6
          have HE2 := Lib.hid eV2
          clear gV2 bV2 fy eV2
          go_upto_region 15 with fail
          rw [HE2.out]
          by_cases k2 : t.k = 2
          · have d2 : (t.k == 2) = true := by rw [k2]; rfl
            have E1 := HE.out
            rw [if_neg k1, if_pos k2] at E1
            rcases List.eq_nil_or_concat S with hS | ⟨S', p, hS⟩
            · rw [if_pos (by rw [hS]; rfl)] at E1
              have PF := Lib.hid (par_fault HX.out HRR.out (by rw [E1]; decide))
              rw [E1] at PF
              obtain rfl : m = 0 := by rw [← hm, hS]; rfl
              have BL2 := Lib.hid R2.out.below
              clear E1 k1 k2
              go_wp2_with fail
              go_quiet (fail)
              go_wp2
              refine bodyPost_ret (v := .tuple #[.slice none 0 0, .slice none 0 0, .int .i64 t.l, .int .i64 t.c, .int .i64 70]) ?_ rfl ⟨uni_fault PF.out (by decide), below_drewN BL2.out _⟩
              simp [results, Tryz.results7, go_sem]
            · rw [List.concat_eq_append] at hS
              obtain ⟨⟨u2, ls⟩, lv⟩ := p
              subst hS
              rw [if_neg (by simp)] at E1
              obtain ⟨hb2, hr2⟩ := rp_step HX.out HB.out HRR.out E1
              rw [List.map_append, show List.map Prod.fst [((u2, ls), lv)] = [(u2, ls)] from rfl, toRd_close k2] at hb2 hr2
              have HB2 := Lib.hid hb2; have HR2 := Lib.hid hr2
              have hls := rp_last hb2
              rw [List.length_append] at hls
              have hls2 : ls.length ≤ 1048577 := by omega
              rw [List.length_append] at hm
              obtain ⟨m', hm'⟩ : ∃ m', S'.length = m' := ⟨_, rfl⟩
              obtain rfl : m = m' + 1 := by rw [← hm, hm']; rfl
              have HM' := Lib.hid hm'
              obtain ⟨lo, lcap, hlo⟩ := own_len (R1.out.rows ((u2, ls), lv) (by simp))
              change lv = .slice lo ls.length lcap at hlo
              subst hlo
              have hst2 := R2.out.stk
              rw [List.length_append] at hst2
              obtain ⟨s0, s1, s2, s3, s4, s5⟩ := top_cells hst2 HM.out
              obtain ⟨RP, HI⟩ := rp_pop (p := ((u, ks), .slice ko ks.length kcap)) (by rw [HM.out]; exact R1.out)
              rw [HM.out] at RP HI
              obtain ⟨V3, eV3, gV3, bV3, hVs3⟩ := allocS V2 (Obj.cells #[.int .i64 u.k, .string u.t, .bool u.q, .int .i64 u.l, .int .i64 u.c, .slice ko ks.length kcap] 51)
              have G3 := Lib.hid gV3
              rw [zV2] at G3
              have HN3 := Lib.hid (blkT bV3 HNB2.out)
              have K3 := Lib.hid (Keeps.of_below bV3)
              obtain ⟨o0, o1, o2, o3, o4, o5⟩ := blk6 G3.out
              have zV3 : V3.heap.size = w1.heap.size + 2 := by rw [← eV3]; simp; omega
              obtain ⟨m0, m1, m2, m3, m4, m5, m6⟩ := blk7 HN3.out
              have fz : ∀ i, V3.frozen? ⟨w1.heap.size, i, none⟩ = false := fun i => frozen_of_row V3 w1.heap.size i _ _ HN3.out
              have f0 := fz 0; have f1 := fz 1; have f2 := fz 2; have f3 := fz 3; have f4 := fz 4; have f5 := fz 5; have f6 := fz 6
              obtain ⟨V4, eV4, gV4, kV4⟩ := set7_of (.int .i64 2) (.int .i64 u.k) (.string u.t) (.bool u.q) (.int .i64 u.l) (.int .i64 u.c) (.slice ko ks.length kcap) HN3.out
              have K4 : Hid (Keeps w1 V4 (fun _ => True)) := Lib.hid ((K2.out.trans K3.out).on kV4 (fun b hb _ => by omega))
              have HRX := Lib.hid (rp_keep RP K4.out)
              have HIN := Lib.hid (HI.keeps (K4.out.weak (fun _ _ _ => trivial)) (fun _ _ hx => hx))
              have HNB := Lib.hid gV4
              have zV4 : V4.heap.size = w1.heap.size + 2 := by rw [← eV4]; simp; omega
              have d3 : ((((m' + 1 + 1 : Nat) : Int)) == 1) = false := beq_eq_false_iff_ne.2 (by omega)
              have w3 : wrap64 (((m' + 1 + 1 : Nat) : Int) - 1) = ((m' + 1 : Nat) : Int) := by rw [show (((m' + 1 + 1 : Nat) : Int) - 1) = ((m' + 1 : Nat) : Int) by omega]; exact IntWalk.wrap64_in _ (by omega)
              clear E1 hb2 hr2 hst2 RP HI gV3 bV3 fz gV4 kV4 hm hm' k1 k2
              have hq0 := blk7 HNB.out
              obtain ⟨y0, y1, y2, y3, y4, y5, y6⟩ := hq0
              obtain ⟨V5, eV5, gV5, bV5, hVs5⟩ := allocS V4 (Obj.cells #[.int .i64 2, .int .i64 u.k, .string u.t, .bool u.q, .int .i64 u.l, .int .i64 u.c, .slice ko ks.length kcap] 44)
              have K5 := Lib.hid (Keeps.of_below bV5)
              have G5 := Lib.hid gV5
              rw [zV4] at G5
              have R5 := Lib.hid (rp_keep HRX.out K5.out)
              have HIN5 := Lib.hid (HIN.out.keeps (K5.out.weak (fun _ _ _ => trivial)) (fun _ _ hx => hx))
              have zV5 : V5.heap.size = w1.heap.size + 2 + 1 := by rw [← eV5]; simp; omega
              have hsz5 : w.heap.size ≤ V5.heap.size := R5.out.below.size
              clear gV5 bV5
              go_wp2_with (first | (at_builtin; refine append_ndL rfl _ _ rfl w.heap.size _ N.length (ndsCells N) (w1.heap.size + 2) 1 2 u.k u.l u.c u.t u.q (.slice ko ks.length kcap) rfl rfl rfl (by first | exact R5.out.nodes | (rw [eV5]; exact R5.out.nodes)) (by first | exact G5.out | (rw [eV5]; exact G5.out)) (by omega) (by first | exact hsz5 | (rw [eV5]; exact hsz5)) ?_; (try rw [eV5]); intro v6 w6 hown6 hgr6 hor6; obtain ⟨g6, cap6, rfl⟩ := own_some hown6 (by omega); have R6 := Lib.hid (rp_node (nd := ⟨2, u, ks⟩) R5.out HIN5.out hown6 (hor6.imp id (fun h => ⟨_, h, Nat.le_refl _⟩)) (Keeps.of_grown hgr6)); have hst6 := R6.out.stk; rw [List.length_append] at hst6; have k6 : w6.cell? ⟨g, m' * 6 + 5, none⟩ = some (.slice lo ls.length lcap) := top_kids hst6 HM'.out; have f6 : w6.frozen? ⟨g, m' * 6 + 5, none⟩ = false := own_free hst6 _; have z6 : w.heap.size ≤ w6.heap.size := R6.out.below.size; clear hown6 hgr6 hor6 hst6) | (at_builtin; refine append_inL rfl _ _ rfl w.heap.size _ ls w6.heap.size 1 (N.length : Int) rfl rfl (own_keeps (R6.out.rows ((u2, ls), _) (by simp)) (Keeps.alloc w6 _) (fun _ _ => trivial)) (heap_alloc_new w6 _) (by omega) (by simp; omega) ?_; intro v7 w7 hown7 hgr7 hor7; obtain ⟨g7, cap7, rfl⟩ := own_some hown7 (by simp); have R7 := Lib.hid (rp_kids R6.out (by rw [HM'.out]) hown7 (hor7.imp id (fun h => ⟨_, h, by simp⟩)) (((Keeps.alloc w6 _).weak (fun _ _ _ => trivial)).trans (Keeps.of_grown hgr7))); rw [HM'.out] at R7; simp only [List.length_append, List.length_cons, List.length_nil, Nat.zero_add] at R7; obtain ⟨k7, f7⟩ := rp_top R6.out (((Keeps.alloc w6 _).weak (fun _ _ _ => trivial)).trans (Keeps.of_grown hgr7)) HM'.out; clear hown7 hgr7 hor7))
              go_roundw
              case rel => exact ⟨j + 1, N ++ [(⟨2, u, ks⟩, .slice ko ks.length kcap)], S', u2, ls ++ [(N.length : Int)], .slice (some ⟨g7, 0, none⟩) (ls.length + 1) cap7, hjl, rfl, R7.out, by simpa using HB2.out, by simpa using HR2.out⟩
              case measure => simp [intOf]; omega
          · have d2 : (t.k == 2) = false := beq_eq_false_iff_ne.2 k2
            have E1 := HE.out
            rw [if_neg k1, if_neg k2] at E1
            obtain ⟨hb2, hr2⟩ := rp_step HX.out HB.out HRR.out E1
            rw [toRd_atom k1 k2] at hb2 hr2
            have HB2 := Lib.hid hb2; have HR2 := Lib.hid hr2
            have HRX := R2
            have HNB := HNB2
            have HIN : Hid (InX V2 (RpX w.heap.size (.slice no N.length ncap) (.slice (some ⟨g, 0, none⟩) (m + 1) scap) (S ++ [((u, ks), .slice ko ks.length kcap)])) (.slice none 0 0) []) := Lib.hid ⟨none, 0, rfl, fun h => absurd rfl h⟩
            clear E1 hb2 hr2 k1 k2
            have hq0 := blk7 HNB.out
            obtain ⟨y0, y1, y2, y3, y4, y5, y6⟩ := hq0
            obtain ⟨V5, eV5, gV5, bV5, hVs5⟩ := allocS V2 (Obj.cells #[.int .i64 1, .int .i64 t.k, .string t.t, .bool t.q, .int .i64 t.l, .int .i64 t.c, .slice none 0 0] 44)
            have K5 := Lib.hid (Keeps.of_below bV5)
            have G5 := Lib.hid gV5
            rw [zV2] at G5
            have R5 := Lib.hid (rp_keep HRX.out K5.out)
            have HIN5 := Lib.hid (HIN.out.keeps (K5.out.weak (fun _ _ _ => trivial)) (fun _ _ hx => hx))
            have zV5 : V5.heap.size = w1.heap.size + 1 + 1 := by rw [← eV5]; simp; omega
            have hsz5 : w.heap.size ≤ V5.heap.size := R5.out.below.size
            clear gV5 bV5
            go_wp2_with (first | (at_builtin; refine append_ndL rfl _ _ rfl w.heap.size _ N.length (ndsCells N) (w1.heap.size + 1) 1 1 t.k t.l t.c t.t t.q (.slice none 0 0) rfl rfl rfl (by first | exact R5.out.nodes | (rw [eV5]; exact R5.out.nodes)) (by first | exact G5.out | (rw [eV5]; exact G5.out)) (by omega) (by first | exact hsz5 | (rw [eV5]; exact hsz5)) ?_; (try rw [eV5]); intro v6 w6 hown6 hgr6 hor6; obtain ⟨g6, cap6, rfl⟩ := own_some hown6 (by omega); have R6 := Lib.hid (rp_node (nd := ⟨1, t, []⟩) R5.out HIN5.out hown6 (hor6.imp id (fun h => ⟨_, h, Nat.le_refl _⟩)) (Keeps.of_grown hgr6)); have hst6 := R6.out.stk; rw [List.length_append] at hst6; have k6 : w6.cell? ⟨g, m * 6 + 5, none⟩ = some (.slice ko ks.length kcap) := top_kids hst6 HM.out; have f6 : w6.frozen? ⟨g, m * 6 + 5, none⟩ = false := own_free hst6 _; have z6 : w.heap.size ≤ w6.heap.size := R6.out.below.size; clear hown6 hgr6 hor6 hst6) | (at_builtin; refine append_inL rfl _ _ rfl w.heap.size _ ks w6.heap.size 1 (N.length : Int) rfl rfl (own_keeps (R6.out.rows ((u, ks), _) (by simp)) (Keeps.alloc w6 _) (fun _ _ => trivial)) (heap_alloc_new w6 _) (by omega) (by simp; omega) ?_; intro v7 w7 hown7 hgr7 hor7; obtain ⟨g7, cap7, rfl⟩ := own_some hown7 (by simp); have R7 := Lib.hid (rp_kids R6.out (by rw [HM.out]) hown7 (hor7.imp id (fun h => ⟨_, h, by simp⟩)) (((Keeps.alloc w6 _).weak (fun _ _ _ => trivial)).trans (Keeps.of_grown hgr7))); rw [HM.out] at R7; simp only [List.length_append, List.length_cons, List.length_nil, Nat.zero_add] at R7; obtain ⟨k7, f7⟩ := rp_top R6.out (((Keeps.alloc w6 _).weak (fun _ _ _ => trivial)).trans (Keeps.of_grown hgr7)) HM.out; clear hown7 hgr7 hor7))
            go_roundw
            case rel => exact ⟨j + 1, N ++ [(⟨1, t, []⟩, .slice none 0 0)], S, u, ks ++ [(N.length : Int)], .slice (some ⟨g7, 0, none⟩) (ks.length + 1) cap7, hjl, rfl, R7.out, by simpa using HB2.out, by simpa using HR2.out⟩
            case measure => simp [intOf]; omega
      · have WR : Hid (Calls Tryz.prog 14 #[.agg #[.int .i64 t.k, .string t.t, .bool t.q, .int .i64 t.l, .int .i64 t.c]] V fun e w' => e = .returned (.tuple #[.string ⟨#[]⟩, .int .i64 73]) ∧ Below V.heap.size V w') := Lib.hid (WR0.mono (by
          rintro e w' ⟨hb, ⟨h, _⟩ | ⟨_, rfl⟩⟩
          · exact absurd h hg
          · exact ⟨rfl, hb⟩))
        have E1 := toRd_bad (N := N.map Prod.fst) (S := S.map Prod.fst ++ [(u, ks)]) hg
        have PF := Lib.hid (par_fault HX.out HRR.out (by rw [E1]; decide))
        rw [E1] at PF
        clear E1 WR0
        go_wp2_with fail
        try rw [eV]
        refine WR.out.mono ?_
        rintro e w1 ⟨rfl, hb1⟩
        have BL1 := Lib.hid (HR.out.below.trans ((belowT HBV.out hb1).mono HR.out.below.size))
        obtain ⟨c0, c1, c2, c3, c4⟩ := blk5 (blkT hb1 GV.out)
        clear hb1 WR a0 a1 a2 a3 a4 v0 v1 v2 v3 v4
        go_wp2_with fail
        go_quiet (fail)
        go_wp2
        refine bodyPost_ret (v := .tuple #[.slice none 0 0, .slice none 0 0, .int .i64 t.l, .int .i64 t.c, .int .i64 73]) ?_ rfl ⟨uni_fault PF.out (by decide), below_drewN BL1.out _⟩
        simp [results, Tryz.results7, go_sem]
    · obtain rfl : j = L.length := by omega
      have e0 : L.drop L.length = [] := List.drop_length
      have HR0 : Hid (runR rd0 L = (toRd (N.map Prod.fst) (S.map Prod.fst ++ [(u, ks)]), none)) := Lib.hid (by rw [hr, e0]; rfl)
      obtain ⟨s0, s1, s2, s3, s4, s5⟩ := top_cells hst hm
      have BL := Lib.hid hR.below
      rcases List.eq_nil_or_concat S with hS | ⟨S', p, hS⟩
      · subst hS
        obtain rfl : m = 0 := by rw [← hm]; rfl
        have hnc := own_cap hR.nodes
        have UO : Hid (∀ n, UniP w.heap.size (wr.drewN n) L (.returned (.tuple #[.slice no N.length ncap, .slice ko ks.length kcap, .int .i64 0, .int .i64 0, .int .i64 0]))) := Lib.hid (fun n => by
          have hk := rp_keep HR.out (Keeps.of_below (below_drewN (Below.refl wr.heap.size wr) n))
          have e1 : flatK (([] : List ((Tk × List Int) × Value)).map Prod.fst ++ [(u, ks)]) = ks := by simp [flatK]
          exact uni_ok HR0.out rfl (by show N.length = (N.map Prod.fst).length; rw [List.length_map]) (by show ks.length = (flatK _).length; rw [e1]) hnc (rp_sx hk) (by show InX _ _ _ (flatK _); rw [e1]; exact own_inB (hk.rows ((u, ks), .slice ko ks.length kcap) (by simp)) (Nat.le_refl _)))
        simp only [Nat.zero_mul, Nat.zero_add] at s5
        clear hR hst hb hr hm s0 s1 s2 s3 s4 hnc e0
        go_wp2_with fail
        go_quiet (fail)
        go_wp2
        refine bodyPost_ret (v := .tuple #[.slice no N.length ncap, .slice ko ks.length kcap, .int .i64 0, .int .i64 0, .int .i64 0]) ?_ rfl ⟨UO.out _, below_drewN BL.out _⟩
        simp [results, Tryz.results7, go_sem]
      · rw [List.concat_eq_append] at hS
        subst hS
        obtain ⟨m', rfl⟩ : ∃ m', m = m' + 1 := ⟨S'.length, by rw [← hm, List.length_append]; rfl⟩
        have UE : Hid (∀ w', UniP w.heap.size w' L (.returned (.tuple #[.slice none 0 0, .slice none 0 0, .int .i64 u.l, .int .i64 u.c, .int .i64 71]))) := Lib.hid (fun w' => uni_end HR0.out (by rw [toRd_last (by simp)]; exact List.getLast?_concat))
        have w3 : wrap64 (((m' + 1 + 1 : Nat) : Int) - 1) = ((m' + 1 : Nat) : Int) := by rw [show (((m' + 1 + 1 : Nat) : Int) - 1) = ((m' + 1 : Nat) : Int) by omega]; exact IntWalk.wrap64_in _ (by omega)
        obtain ⟨V, eV, gV, bV, hVs⟩ := allocS wr (Obj.cells #[.int .i64 u.k, .string u.t, .bool u.q, .int .i64 u.l, .int .i64 u.c] 37)
        have BV := Lib.hid (BL.out.trans (bV.mono BL.out.size))
        obtain ⟨c0, c1, c2, c3, c4⟩ := blk5 gV
        clear hR hst hb hr hm s5 e0 gV bV
        go_wp2_with fail
        try rw [eV]
        go_quiet (fail)
        go_wp2
        refine bodyPost_ret (v := .tuple #[.slice none 0 0, .slice none 0 0, .int .i64 u.l, .int .i64 u.c, .int .i64 71]) ?_ rfl ⟨UE.out _, below_drewN BV.out _⟩
        simp [results, Tryz.results7, go_sem]
end Go.Proofs.YtpkdiciinhjfjaaGreatDoor

/- SexpParses: the walk. -/
namespace Go.Proofs.YtpkdiciinhjfjaaGreatDoor
open Go.RowKit Mth

theorem nds_bounds (L : List Tk) : (ndsR L).length ≤ L.length ∧ (frR L).length ≤ L.length ∧ ∀ nd ∈ ndsR L, nd.kids.length ≤ L.length := by
  by_cases h0 : errR L = 0
  · obtain ⟨s, a1, a2, a3, a4⟩ := err_zero h0
    have oa := rdo_run L a1 rdo0 rdb0
    have ba := rdb_run L a1 rdb0
    rw [Nat.zero_add] at ba
    rw [a3, a4]
    refine ⟨ba.nodes, ba.free, fun nd h => ?_⟩
    obtain ⟨i, hi, rfl⟩ := List.getElem_of_mem h
    exact Nat.le_trans (kids_lenj oa hi) ba.nodes
  · have hn : ndsR L = [] := by unfold ndsR; rw [if_neg h0]
    have hf : frR L = [] := by unfold frR; rw [if_neg h0]
    rw [hn, hf]
    exact ⟨Nat.zero_le _, Nat.zero_le _, fun nd h => by cases h⟩
/-- Parse's answer, its parts named -/
def UniA (w' : World) (T : List Nd) (F : List Int) (n m : Nat) (l c x : Int) (e : Ending) : Prop := ∃ na nc fa fc, e = .returned (.tuple #[.slice na n nc, .slice fa m fc, .int .i64 l, .int .i64 c, .int .i64 x]) ∧ n ≤ nc ∧ SxL w' (.slice na n nc) T ∧ InL w' (.slice fa m fc) F
theorem unip_a {B : Nat} {w' : World} {L : List Tk} {e : Ending} (h : UniP B w' L e) : UniA w' (ndsR L) (frR L) (ndsR L).length (frR L).length (plR L).1 (plR L).2 (errR L) e := by
  obtain ⟨na, n, nc, fa, m, fc, rfl, rfl, rfl, h1, h2, h3⟩ := h
  exact ⟨na, nc, fa, fc, rfl, h1, h2.sx, h3.inL⟩
theorem parseA (L : List Tk) (v : Value) (w : World) (hL : LexW w) (hv : TkL w v L) (hlen : L.length ≤ 1048576) (ht : ∀ x ∈ L, x.t.size ≤ 1048576) : Calls Tryz.prog 6 #[v] w fun e w' => UniA w' (ndsR L) (frR L) (ndsR L).length (frR L).length (plR L).1 (plR L).2 (errR L) e ∧ Below w.heap.size w w' :=
  (parse_any L v w hL hv hlen ht).mono fun e w' h => ⟨unip_a (parse_unip h), h.1⟩
theorem rparseA (L : List Tk) (v : Value) (w : World) (hv : TkL w v L) (hlen : L.length ≤ 1048576) (ht : ∀ x ∈ L, x.t.size ≤ 1048576) : Calls Tryz.prog 7 #[v] w fun e w' => UniA w' (ndsR L) (frR L) (ndsR L).length (frR L).length (plR L).1 (plR L).2 (errR L) e ∧ Below w.heap.size w w' :=
  (rparse_any L v w hv hlen ht).mono fun e w' h => ⟨unip_a h.1, h.2⟩
set_option maxHeartbeats 16000000 in
set_option maxRecDepth 100000 in
theorem parses7_walk (w : World) (v : Value) (L : List Tk) (hv : TkL w v L) (hlen : L.length ≤ 1048576) (ht : ∀ x ∈ L, x.t.size ≤ 1048576) (hL : LexW w) : Calls Tryz.prog 3 #[v] w fun e w' => e = .returned (.bool true) ∧ Below w.heap.size w w' := by
  have P1 := Lib.hid (parseA L v w hL hv hlen ht)
  have P2 : Hid (∀ W, Below w.heap.size w W → Calls Tryz.prog 7 #[v] W fun e w' => UniA w' (ndsR L) (frR L) (ndsR L).length (frR L).length (plR L).1 (plR L).2 (errR L) e ∧ Below W.heap.size W w') := Lib.hid (fun W hW => rparseA L v W (hv.below hW) hlen ht)
  have AL : Hid (∀ W, Below w.heap.size w W → Calls Tryz.prog 10 #[] W fun e w' => e = .returned (.bool true) ∧ Below W.heap.size W w') := Lib.hid (fun W hW => alive7_any W (hL.below hW))
  obtain ⟨b1, b2, b3⟩ := nds_bounds L
  have HB := Lib.hid b3
  have hb1 : (ndsR L).length ≤ 1048576 := by omega
  have hb2 : (frR L).length ≤ 1048576 := by omega
  obtain ⟨ao, cap, rfl, -⟩ := hv
  clear hL ht b3 b1 b2
  generalize ndsR L = T at *
  generalize frR L = F at *
  generalize (plR L).1 = l at *
  generalize (plR L).2 = c at *
  generalize errR L = x at *
  have HN : Hid (T.length ≤ 1048576) := Lib.hid hb1
  have HM : Hid (F.length ≤ 1048576) := Lib.hid hb2
  have HX : Hid (∀ nd ∈ T, nd.kids.length ≤ 4611686018427387904) := Lib.hid (fun nd h => by have := HB.out nd h; omega)
  clear hb1 hb2 HB
  go_enter Tryz.func3, Tryz.ntmps3
  go_wp2_with fail
  refine P1.out.mono ?_
  rintro e w1 ⟨⟨na, nc, fa, fc, rfl, -, hs, hi⟩, hb1⟩
  have B1 := Lib.hid hb1; have S1 := Lib.hid hs; have I1 := Lib.hid hi
  clear hb1 hs hi P1
  go_wp2_with fail
  refine (P2.out _ B1.out).mono ?_
  rintro e w2 ⟨⟨na2, nc2, fa2, fc2, rfl, -, hs, hi⟩, hb2⟩
  have B2 := Lib.hid (belowT B1.out hb2)
  have SM := Lib.hid (same7_any T _ _ w2 (S1.out.below hb2) hs (by have := HN.out; omega) HX.out)
  have IM : Hid (∀ m, Calls Tryz.prog 9 #[.slice fa F.length fc, .slice fa2 F.length fc2] (w2.drewN m) fun e w' => e = .returned (.bool true) ∧ ∃ q, w' = (w2.drewN m).drewN q) := Lib.hid (fun m => by
    have h := sameInts_any _ _ F F _ ((I1.out.below hb2).below (dr_below w2 m)) (hi.below (dr_below w2 m)) (by have := HM.out; omega)
    rw [decide_eq_true rfl] at h
    exact h)
  have d1 : (l == l) = true := beq_self_eq_true l
  have d2 : (c == c) = true := beq_self_eq_true c
  have d3 : (x == x) = true := beq_self_eq_true x
  clear hb2 hs hi P2
  go_wp2_with fail
  refine SM.out.mono ?_
  rintro e w3 ⟨rfl, m, rfl⟩
  clear SM
  go_wp2_with fail
  refine (IM.out m).mono ?_
  rintro e w4 ⟨rfl, q, rfl⟩
  have B3 : Hid (Below w.heap.size w (w2.drewN (m + q))) := Lib.hid (below_drewN B2.out (m + q))
  clear IM
  go_wp2_with fail
  refine (AL.out _ B3.out).mono ?_
  rintro e w5 ⟨rfl, hb5⟩
  have B5 := Lib.hid (belowT B3.out hb5)
  clear hb5
  go_wp2
  go_ret
  exact ⟨rfl, B5.out⟩
end Go.Proofs.YtpkdiciinhjfjaaGreatDoor
