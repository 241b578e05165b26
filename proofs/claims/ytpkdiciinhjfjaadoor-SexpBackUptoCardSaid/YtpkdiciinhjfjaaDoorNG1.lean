/- NA NB NC ND NE NF NG NH NI. -/
import Derived.Test.YtpkdiciinhjfjaaDoorLG2
import Derived.Lib.ReplaceLaws
import Derived.MapKept
import Derived.Test.YtpkdiciinhjfjaaDoorLG3
import Derived.Laws.AppendOwnNone
import Derived.LoopTactic
set_option linter.unusedVariables false
set_option linter.unusedSimpArgs false
/- lexis's reference: what pieces are: Numeral, all, Decimal, Bytes. -/
namespace Go.Proofs.YtpkdiciinhjfjaaDoor
open Go.RowKit Mth

theorem all_step {s : ByteArray} {P : Nat → Bool} {k : Nat} (h : allP s P 0 k) (hk : P (cb s k) = true) : allP s P 0 (k + 1) := fun i i1 i2 => by
  by_cases e : i = k
  · subst e; exact hk
  · exact h i i1 (by omega)
def AllR (s : ByteArray) (P : Nat → Bool) (i : Value) : Prop := ∃ k : Nat, k ≤ s.size ∧ i = .int .i64 (k : Int) ∧ allP s P 0 k
/-- a yes or no, and the world stays -/
def Says (w w' : World) (Q : Prop) (e : Ending) : Prop := ∃ b : Bool, e = .returned (.bool b) ∧ (b = true ↔ Q) ∧ w = w'
theorem lst_ne {s : ByteArray} {l : List UInt8} (h : s ≠ ⟨l.toArray⟩) : ¬ s.toList = l := fun e => h (by
  rw [ByteArray.toList_eq] at e
  cases s with | mk d => rw [← e])
theorem says_no {w : World} {Q : Prop} (h : ¬ Q) : Says w w Q (.returned (.bool false)) := ⟨false, rfl, ⟨fun x => Bool.noConfusion x, fun x => absurd x h⟩, rfl⟩
theorem says_no' {w : World} {Q : Prop} {b : Bool} (hb : b = false) (h : ¬ Q) : Says w w Q (.returned (.bool b)) := by subst hb; exact says_no h
theorem says_yes' {w : World} {Q : Prop} {b : Bool} (hb : b = true) (h : Q) : Says w w Q (.returned (.bool b)) := by subst hb; exact ⟨true, rfl, ⟨fun _ => h, fun _ => rfl⟩, rfl⟩
theorem says_yes {w : World} {Q : Prop} (h : Q) : Says w w Q (.returned (.bool true)) := ⟨true, rfl, ⟨fun _ => h, fun _ => rfl⟩, rfl⟩
end Go.Proofs.YtpkdiciinhjfjaaDoor

/- lexis's reference: Decimal, small, bare. -/
namespace Go.Proofs.YtpkdiciinhjfjaaDoor
open Go.RowKit Mth

theorem cb_ext {s : ByteArray} {a b j : Nat} (hj : j < b - a) (hb : b ≤ s.size) : cb (s.extract a b) j = cb s (a + j) := by
  unfold cb
  rw [dif_pos (show j < (s.extract a b).size by rw [ByteArray.size_extract]; omega), dif_pos (show a + j < s.size by omega), ByteArray.getElem_extract]
theorem size_ext {s : ByteArray} {a b : Nat} (hb : b ≤ s.size) : (s.extract a b).size = b - a := by rw [ByteArray.size_extract]; omega
theorem num_ext {s : ByteArray} {a b : Nat} (hab : a ≤ b) (hb : b ≤ s.size) : isNum (s.extract a b) 0 (b - a) ↔ isNum s a b := by
  constructor
  · intro h
    have := isNum_move (s := s.extract a b) (s' := s) (p := 0) (p' := a) (n := b - a) h (fun j hj => by rw [Nat.zero_add]; exact (cb_ext (by omega) hb).symm)
    rwa [show a + (b - a - 0) = b by omega] at this
  · intro h
    have := isNum_move (s := s) (s' := s.extract a b) (p := a) (p' := 0) (n := b) h (fun j hj => by rw [Nat.zero_add]; exact cb_ext hj hb)
    rwa [Nat.zero_add] at this
theorem all_ext {s : ByteArray} {P : Nat → Bool} {a b : Nat} (hab : a ≤ b) (hb : b ≤ s.size) : allP (s.extract a b) P 0 (b - a) ↔ allP s P a b := by
  constructor
  · intro h i i1 i2
    have := h (i - a) (by omega) (by omega)
    rwa [cb_ext (by omega) hb, show a + (i - a) = i by omega] at this
  · intro h i i1 i2
    rw [cb_ext i2 hb]; exact h _ (by omega) (by omega)
def DotR (s : ByteArray) (i : Value) : Prop := ∃ k : Nat, k ≤ s.size ∧ i = .int .i64 (k : Int) ∧ ∀ j, j < k → cb s j ≠ 46
theorem dec_at {s : ByteArray} {k : Nat} (h : ∀ j, j < k → cb s j ≠ 46) (hk : cb s k = 46) (hd : isDec s 0 s.size) : isNum s 0 k ∧ allP s bDig (k + 1) s.size ∧ k + 1 < s.size := by
  obtain ⟨i, i1, i2, i3, i4, i5⟩ := hd
  rcases (show i < k ∨ i = k ∨ k < i by omega) with h9 | h9 | h9
  · exact absurd i2 (h i h9)
  · subst h9; exact ⟨i3, i4, i5⟩
  · have := i3.2.1 k (by omega) h9; rw [hk] at this; cases this
end Go.Proofs.YtpkdiciinhjfjaaDoor

/- lexis's reference: small. -/
namespace Go.Proofs.YtpkdiciinhjfjaaDoor
open Go.RowKit Mth

theorem one_string (w : World) (z : Int) (d : UInt8) (e : z = (d.toNat : Int)) :
    (convert 79 9 (.slice (some ⟨w.heap.size, 0, none⟩) 1 1)).run Tryd.prog (w.alloc (Obj.cells #[Value.int .u8 z] 5)) = .ok (.string ⟨#[d]⟩) (w.alloc (Obj.cells #[Value.int .u8 z] 5)) := by
  subst e
  refine run_convert_bytes_back _ 79 9 5 ⟨w.heap.size, 0, none⟩ 1 [d] Tryd.underlying79 Tryd.underlying5 Tryd.underlying9 ?_
  have hw := heap_alloc_new w (Obj.cells #[Value.int .u8 (d.toNat : Int)] 5)
  intro j hj
  match j, hj with
  | 0, _ => rw [Addr.add_lit, Nat.zero_add, cell_of_row _ _ 0 _ _ (0, 0) hw]; rfl
  | j + 1, hj => exact absurd hj (by simp)
theorem low_app (a b : ByteArray) : lowB (a ++ b) = lowB a ++ lowB b := by
  apply ByteArray.ext
  simp [lowB, lower]
theorem low_next {s : ByteArray} {k : Nat} (h : k < s.size) : lowB (s.extract 0 (k + 1)) = lowB (s.extract 0 k) ++ ⟨#[Lib.lowerB (s[k]'h)]⟩ := by
  have e : s.extract k (k + 1) = ⟨#[s[k]'h]⟩ := byt_ext (l := [s[k]'h]) ⟨(cb_at h).symm, True.intro⟩ (by simp; omega)
  have e2 : s.extract 0 (k + 1) = s.extract 0 k ++ s.extract k (k + 1) := by rw [ByteArray.extract_append_extract, Nat.min_eq_left (by omega), Nat.max_eq_right (by omega)]
  rw [e2, low_app, e]
  rfl
theorem low_size (s : ByteArray) : (lowB s).size = s.size := by
  unfold lowB lower
  rw [size_list, List.length_map]
  exact Array.length_toList
def SmR (w : World) (s : ByteArray) (o i : Value) (wr : World) : Prop := ∃ k : Nat, k ≤ s.size ∧ i = .int .i64 (k : Int) ∧ o = .string (lowB (s.extract 0 k)) ∧ Below w.heap.size w wr
end Go.Proofs.YtpkdiciinhjfjaaDoor

/- lexis's reference: bare (written by gennd.py). -/
namespace Go.Proofs.YtpkdiciinhjfjaaDoor
open Go.RowKit Mth

theorem says_t {w w' : World} {Q : Prop} {e : Ending} (h : Says w w' Q e) (q : Q) : e = .returned (.bool true) ∧ w = w' := by
  obtain ⟨b, h1, h2, h3⟩ := h
  exact ⟨by rw [h1, h2.2 q], h3⟩
theorem says_f {w w' : World} {Q : Prop} {e : Ending} (h : Says w w' Q e) (q : ¬ Q) : e = .returned (.bool false) ∧ w = w' := by
  obtain ⟨b, h1, h2, h3⟩ := h
  refine ⟨?_, h3⟩
  cases b with
  | true => exact absurd (h2.1 rfl) q
  | false => exact h1
set_option maxRecDepth 100000 in
/-- a token comes back: out of a block -/
theorem results_tok1 {fn : Func} {t : Tmp} {tmps : Array Value} {b : Nat} {v0 v1 v2 v3 v4 : Value} {T : TypeId} {W : World} (h : fn.results = #[.cell t 34])
    (h1 : tmps.getD t undef = .pointer (some ⟨b, 0, none⟩)) (h3 : W.heap[b]? = some (.cells #[v0, v1, v2, v3, v4] T (0, 0))) :
    (results fn tmps).run Tryd.prog W = .ok (.agg #[v0, v1, v2, v3, v4]) W := by
  obtain ⟨c0, c1, c2, c3, c4⟩ := blk5 h3
  rw [Array.getD_eq_getD_getElem?] at h1
  simp [results, h, h1, go_sem, c0, c1, c2, c3, c4]
theorem noTok_eq : noTok = tokV 0 ⟨#[]⟩ false 0 0 := rfl
end Go.Proofs.YtpkdiciinhjfjaaDoor

/- lexis's reference: bare, whatever the piece. -/
namespace Go.Proofs.YtpkdiciinhjfjaaDoor
open Go.RowKit Mth

theorem dec_ext {s : ByteArray} {p e : Nat} (hpe : p ≤ e) (he : e ≤ s.size) : isDec (s.extract p e) 0 (e - p) ↔ isDec s p e := by
  constructor
  · rintro ⟨i, i1, i2, i3, i4, i5⟩
    refine ⟨p + i, by omega, by rw [← i2, cb_ext i1 he], ?_, ?_, by omega⟩
    · have := isNum_move (s' := s) (p' := p) i3 (fun j hj => by rw [Nat.zero_add, cb_ext (by omega) he])
      rwa [Nat.sub_zero] at this
    · intro j j1 j2
      have := i4 (j - p) (by omega) (by omega)
      rwa [cb_ext (by omega) he, show p + (j - p) = j by omega] at this
  · rintro ⟨i, i1, i2, i3, i4, i5⟩
    have hp := i3.1
    refine ⟨i - p, by omega, by rw [cb_ext (by omega) he, show p + (i - p) = i by omega]; exact i2, ?_, ?_, by omega⟩
    · have := isNum_move (s' := s.extract p e) (p' := 0) i3 (fun j hj => by rw [Nat.zero_add, cb_ext (by omega) he])
      rwa [Nat.zero_add] at this
    · intro j j1 j2
      rw [cb_ext j2 he]; exact i4 _ (by omega) (by omega)
theorem ext_tail {s : ByteArray} {p e k : Nat} (hpe : p ≤ e) (he : e ≤ s.size) : (s.extract p e).extract k (s.extract p e).size = s.extract (p + k) e := by
  rw [size_ext he, ByteArray.extract_extract, show p + (e - p) = e by omega, Nat.min_self]
theorem two_iff {x : ByteArray} {a b : UInt8} (h : 2 < x.size) : x.extract 0 2 = ⟨#[a, b]⟩ ↔ cb x 0 = a.toNat ∧ cb x 1 = b.toNat := by
  constructor
  · intro e
    have h1 := (byt_of_ext e (by omega) (by omega)).1
    exact ⟨h1.1, h1.2.1⟩
  · rintro ⟨h1, h2⟩
    exact byt_ext (l := [a, b]) (i := 0) ⟨h1, h2, True.intro⟩ (by simp; omega)
def BareO (w w' : World) (r : Res) (n : Nat) (e : Ending) : Prop :=
  Below w.heap.size w w' ∧ ((∃ k t, r = .tok k t false n ∧ 0 < k ∧ e = .returned (tokV k t false 0 0)) ∨ (r = .err 62 ∧ e = .returned noTok))
end Go.Proofs.YtpkdiciinhjfjaaDoor

/- lexis's reference: between. -/
namespace Go.Proofs.YtpkdiciinhjfjaaDoor
open Go.RowKit Mth

/-- the answer of what reads a text or a symbol with bars -/
def BtO (w w' : World) (r : Res) (e : Ending) : Prop :=
  Below w.heap.size w w' ∧ ((∃ k t q n, r = .tok k t q n ∧ 0 < k ∧ e = .returned (.tuple #[tokV k t q 0 0, .int .i64 (n : Int)])) ∨ (r = .err 61 ∧ e = .returned (.tuple #[noTok, .int .i64 0])))
def QbR (s : ByteArray) (p : Nat) (t i : Value) : Prop := ∃ (k : Nat) (t0 : ByteArray), p + 1 ≤ k ∧ k ≤ s.size ∧ i = .int .i64 (k : Int) ∧ t = .string t0 ∧ t0.size ≤ k ∧ quF s (p + 1) ⟨#[]⟩ = quF s k t0
theorem qu_end {s : ByteArray} {t0 : ByteArray} : quF s s.size t0 = .err 61 := by rw [quF, if_neg (by omega)]
theorem qu_bad1 {s : ByteArray} {k : Nat} {t0 : ByteArray} (h : k < s.size) (h1 : cb s k ≠ 34) (h2 : bInner (cb s k) = false) : quF s k t0 = .err 61 := by rw [quF, if_pos h, if_neg h1, if_neg (by rw [h2]; simp)]
theorem qu_next {s : ByteArray} {k : Nat} {t0 : ByteArray} (h : k < s.size) (h1 : cb s k ≠ 34) (h2 : bInner (cb s k) = true) : quF s k t0 = quF s (k + 1) (t0 ++ s.extract k (k + 1)) := by rw [quF, if_pos h, if_neg h1, if_pos h2]
theorem app_size (a b : ByteArray) : (a ++ b).size = a.size + b.size := ByteArray.size_append
def BbR (s : ByteArray) (p : Nat) (t i : Value) : Prop := ∃ (k : Nat), p + 1 ≤ k ∧ k ≤ s.size ∧ i = .int .i64 (k : Int) ∧ t = .string (s.extract (p + 1) k) ∧ baF s (p + 1) (p + 1) = baF s (p + 1) k
theorem ba_end {s : ByteArray} {a : Nat} : baF s a s.size = .err 61 := by rw [baF, if_neg (by omega)]
theorem ba_stop {s : ByteArray} {a k : Nat} (h : k < s.size) (h1 : cb s k = 124) : baF s a k = .tok 8 (s.extract a k) true (k + 1) := by rw [baF, if_pos h, if_pos h1]
theorem ba_bad1 {s : ByteArray} {a k : Nat} (h : k < s.size) (h1 : cb s k ≠ 124) (h2 : ¬ (bInner (cb s k) = true ∧ cb s k ≠ 92)) : baF s a k = .err 61 := by rw [baF, if_pos h, if_neg h1, if_neg h2]
theorem ba_next {s : ByteArray} {a k : Nat} (h : k < s.size) (h1 : cb s k ≠ 124) (h2 : bInner (cb s k) = true) (h3 : cb s k ≠ 92) : baF s a k = baF s a (k + 1) := by rw [baF, if_pos h, if_neg h1, if_pos ⟨h2, h3⟩]
end Go.Proofs.YtpkdiciinhjfjaaDoor

/- lexis's reference: one. -/
namespace Go.Proofs.YtpkdiciinhjfjaaDoor
open Go.RowKit Mth

/-- the answer of what reads one token -/
def OneO (w w' : World) (r : Res) (e : Ending) : Prop :=
  Below w.heap.size w w' ∧ ((∃ k t q n, r = .tok k t q n ∧ e = .returned (.tuple #[tokV k t q 0 0, .int .i64 (n : Int), .int .i64 0])) ∨ (∃ E : Nat, r = .err E ∧ E ≠ 0 ∧ e = .returned (.tuple #[noTok, .int .i64 0, .int .i64 (E : Int)])))
set_option maxRecDepth 100000 in
/-- a token, a place and an error come back: the token out of a block -/
theorem results_tok3 {fn : Func} {t u x : Tmp} {tmps : Array Value} {b : Nat} {v0 v1 v2 v3 v4 v5 v6 : Value} {T : TypeId} {W : World} (h : fn.results = #[.cell t 34, .tmp u, .tmp x])
    (h1 : tmps.getD t undef = .pointer (some ⟨b, 0, none⟩)) (h2 : tmps.getD u undef = v5) (h4 : tmps.getD x undef = v6) (h3 : W.heap[b]? = some (.cells #[v0, v1, v2, v3, v4] T (0, 0))) :
    (results fn tmps).run Tryd.prog W = .ok (.tuple #[.agg #[v0, v1, v2, v3, v4], v5, v6]) W := by
  obtain ⟨c0, c1, c2, c3, c4⟩ := blk5 h3
  rw [Array.getD_eq_getD_getElem?] at h1 h2 h4
  simp [results, h, h1, h2, h4, go_sem, c0, c1, c2, c3, c4]
theorem below_set5 {w w2 : World} {v0 v1 v2 v3 v4 : Value} {b : Nat} (h : Below w.heap.size w w2) (hb : w.heap.size ≤ b) :
    Below w.heap.size w (((((w2.setCell ⟨b, 0, none⟩ v0).setCell ⟨b, 1, none⟩ v1).setCell ⟨b, 2, none⟩ v2).setCell ⟨b, 3, none⟩ v3).setCell ⟨b, 4, none⟩ v4) :=
  ((((h.setCell hb _).setCell hb _).setCell hb _).setCell hb _).setCell hb _
def EaR (s : ByteArray) (p : Nat) (i : Value) : Prop := ∃ k : Nat, p ≤ k ∧ k ≤ s.size ∧ i = .int .i64 (k : Int) ∧ endAt s p = endAt s k
theorem end_next {s : ByteArray} {k : Nat} (h : k < s.size) (he : bEnd (cb s k) = false) : endAt s k = endAt s (k + 1) := by rw [endAt, if_pos h, if_neg (by rw [he]; simp)]
theorem end_here {s : ByteArray} {k : Nat} (h : k = s.size ∨ bEnd (cb s k) = true) : endAt s k = k := by
  rw [endAt]
  rcases h with h | h
  · rw [if_neg (by omega)]
  · split
    · simp
    · rfl
abbrev ZT : Obj := .cells #[.int .i64 0, .string ⟨#[]⟩, .bool false, .int .i64 0, .int .i64 0] 34
theorem one_none {s : ByteArray} {p : Nat} (h : cb s p ≠ 40 ∧ cb s p ≠ 41 ∧ cb s p ≠ 34 ∧ cb s p ≠ 124 ∧ cb s p ≠ 35 ∧ cb s p ≠ 58 ∧ bSimple (cb s p) = false) : oneF s p = .err 60 := by
  obtain ⟨h1, h2, h3, h4, h5, h6, h7⟩ := h
  unfold oneF; rw [if_neg h1, if_neg h2, if_neg h3, if_neg h4, if_pos ⟨h5, h6, h7⟩]
theorem one_bare {s : ByteArray} {p : Nat} (h : cb s p ≠ 40 ∧ cb s p ≠ 41 ∧ cb s p ≠ 34 ∧ cb s p ≠ 124) (h5 : cb s p = 35 ∨ cb s p = 58 ∨ bSimple (cb s p) = true) : oneF s p = bareF s p (endAt s p) := by
  obtain ⟨h1, h2, h3, h4⟩ := h
  unfold oneF; rw [if_neg h1, if_neg h2, if_neg h3, if_neg h4, if_neg (fun x => by
    rcases h5 with h | h | h
    · exact x.1 h
    · exact x.2.1 h
    · rw [x.2.2] at h; cases h)]
end Go.Proofs.YtpkdiciinhjfjaaDoor

/- lists of tokens in memory; append of a token. -/
namespace Go.Proofs.YtpkdiciinhjfjaaDoor
open Go.RowKit Mth

theorem info_tok : (Tryd.prog.info? 34).map (fun i => (i.zero, i.size, i.bytes)) = some (some (.agg #[.int .i64 0, .string ⟨#[]⟩, .bool false, .int .i64 0, .int .i64 0]), 5, 48) := by kernel_rfl
def tkCells (x : Tk) : List Value := [.int .i64 x.k, .string x.t, .bool x.q, .int .i64 x.l, .int .i64 x.c]
def tksCells (L : List Tk) : List Value := L.flatMap tkCells
theorem tks_len : ∀ L : List Tk, (tksCells L).length = 5 * L.length
  | [] => rfl
  | x :: L => by show (tkCells x ++ tksCells L).length = _; rw [List.length_append, tks_len L, List.length_cons]; show 5 + _ = _; omega
theorem tks_app (L M : List Tk) : tksCells (L ++ M) = tksCells L ++ tksCells M := List.flatMap_append
theorem tks_get : ∀ (L : List Tk) (i : Nat) (x : Tk), L[i]? = some x → ∀ j v, (tkCells x)[j]? = some v → (tksCells L)[5 * i + j]? = some v
  | [], i, x, h, j, v, hv => by simp at h
  | y :: L, 0, x, h, j, v, hv => by
    obtain rfl : y = x := by simpa using h
    show (tkCells y ++ tksCells L)[_]? = _
    rw [Nat.mul_zero, Nat.zero_add]
    exact List.getElem?_append_left (List.getElem?_eq_some_iff.1 hv).1 |>.trans hv
  | y :: L, i + 1, x, h, j, v, hv => by
    show (tkCells y ++ tksCells L)[_]? = _
    rw [List.getElem?_append_right (show (tkCells y).length ≤ _ by show 5 ≤ _; omega)]
    show (tksCells L)[5 * (i + 1) + j - 5]? = _
    rw [show 5 * (i + 1) + j - 5 = 5 * i + j by omega]
    exact tks_get L i x (by simpa using h) j v hv
/-- a list of tokens in memory -/
def TkL (w : World) (v : Value) (L : List Tk) : Prop := ∃ ao cap, v = .slice ao L.length cap ∧ (L ≠ [] → ∃ b off, ao = some ⟨b, off, none⟩ ∧ b < w.heap.size ∧ ∀ j x, (tksCells L)[j]? = some x → w.cell? ⟨b, off + j, none⟩ = some x)
theorem TkL.nil (w : World) : TkL w (.slice none 0 0) [] := ⟨none, 0, rfl, fun h => absurd rfl h⟩
theorem TkL.below {w w' : World} {v : Value} {L : List Tk} (h : TkL w v L) (hb : Below w.heap.size w w') : TkL w' v L := by
  obtain ⟨ao, cap, h1, h2⟩ := h
  refine ⟨ao, cap, h1, fun hn => ?_⟩
  obtain ⟨b, off, e, hlt, hc⟩ := h2 hn
  exact ⟨b, off, e, Nat.lt_of_lt_of_le hlt hb.size, fun j x hx => (hb.cell (p := ⟨b, off + j, none⟩) hlt).trans (hc j x hx)⟩
theorem TkL.grown {w w' : World} {v : Value} {L : List Tk} (h : TkL w v L) (hb : w.grownBy w' none) : TkL w' v L := h.below ⟨hb.os, hb.tape, hb.output, hb.size, fun k hk => hb.block k hk (by simp)⟩
/-- the cells of one token of a list -/
theorem TkL.at {w : World} {b off : Nat} {L : List Tk} (hc : ∀ j x, (tksCells L)[j]? = some x → w.cell? ⟨b, off + j, none⟩ = some x) {i : Nat} {x : Tk} (hx : L[i]? = some x) :
    w.cell? ⟨b, off + i * 5, none⟩ = some (.int .i64 x.k) ∧ w.cell? ⟨b, off + i * 5 + 1, none⟩ = some (.string x.t) ∧ w.cell? ⟨b, off + i * 5 + 2, none⟩ = some (.bool x.q) ∧ w.cell? ⟨b, off + i * 5 + 3, none⟩ = some (.int .i64 x.l) ∧ w.cell? ⟨b, off + i * 5 + 4, none⟩ = some (.int .i64 x.c) := by
  rw [Nat.mul_comm i 5]
  exact ⟨hc _ _ (tks_get L i x hx 0 _ rfl), by rw [Nat.add_assoc]; exact hc _ _ (tks_get L i x hx 1 _ rfl), by rw [Nat.add_assoc]; exact hc _ _ (tks_get L i x hx 2 _ rfl), by rw [Nat.add_assoc]; exact hc _ _ (tks_get L i x hx 3 _ rfl), by rw [Nat.add_assoc]; exact hc _ _ (tks_get L i x hx 4 _ rfl)⟩
/-- what the call owns is a list of tokens -/
theorem TkL.own {w : World} {base : Nat} {v : Value} {L : List Tk} (h : w.ownsRow base 34 5 v L.length (tksCells L)) : TkL w v L := by
  have hl := h.lt
  have hc : ∀ {g : Nat}, v.ownBlock = some g → ∀ j u, (tksCells L)[j]? = some u → w.cell? ((⟨g, 0, none⟩ : Addr).add j) = some u := fun hg => h.cells hg
  obtain ⟨h0, h1⟩ := h
  rcases h1 with ⟨rfl, h2⟩ | ⟨g, cap, cur, rfl, _⟩
  · cases L with
    | nil => exact TkL.nil w
    | cons x L => simp [tksCells, tkCells] at h2
  · refine ⟨some ⟨g, 0, none⟩, cap, rfl, fun _ => ⟨g, 0, rfl, (hl g rfl).2, fun j x hx => ?_⟩⟩
    have := hc (g := g) rfl j x hx
    rwa [Addr.add_lit] at this
theorem append_tok {w : World} {ops : Array Oper} {rest : List Oper} {o : Oper} {a : Act} {Q : Exit → Act → World → Prop} (hgd : o.guard = none) (s x : Operand)
    (ho : o.op = .call { callee := .builtin .append, args := #[s, x], argTypes := #[38, 38] }) (base : Nat) (v : Value) (L : List Tk) (y : Tk) (b cap : Nat)
    (hs : a.eval s = v) (hx : a.eval x = .slice (some ⟨b, 0, none⟩) 1 cap) (hown : w.ownsRow base 34 5 v L.length (tksCells L)) (hu : w.heap[b]? = some (.cells #[.int .i64 y.k, .string y.t, .bool y.q, .int .i64 y.l, .int .i64 y.c] 34 (0, 0))) (hlen : L.length ≤ 1048576) (hbase : base ≤ w.heap.size)
    (h : ∀ v' w', w'.ownsRow base 34 5 v' (L ++ [y]).length (tksCells (L ++ [y])) → w.grownBy w' v.ownBlock → wpList Tryd.prog ops Q rest (a.put o.dst v') w') : wpList Tryd.prog ops Q (o :: rest) a w := by
  obtain ⟨i0, hi, hz0, hz1, hz2⟩ := info_parts info_tok
  obtain ⟨c0, c1, c2, c3, c4⟩ := blk5 hu
  refine wpList_append_own w hgd s x 38 ho base 34 i0 _ 5 48 Tryd.underlying38 hi hz0 hz1 hz2 rfl (by decide) v _ _ hs hown ⟨b, 0, none⟩ 1 cap (tkCells y) hx rfl ?_ ?_
      (by unfold maxLen; omega) (by omega) hbase ?_
  · intro j u hj
    match j, hj with
    | 0, hj => obtain rfl := Option.some.inj hj; rw [Addr.add_lit]; exact c0
    | 1, hj => obtain rfl := Option.some.inj hj; rw [Addr.add_lit]; exact c1
    | 2, hj => obtain rfl := Option.some.inj hj; rw [Addr.add_lit]; exact c2
    | 3, hj => obtain rfl := Option.some.inj hj; rw [Addr.add_lit]; exact c3
    | 4, hj => obtain rfl := Option.some.inj hj; rw [Addr.add_lit]; exact c4
    | j + 5, hj => simp [tkCells] at hj
  · intro u hu
    simp [tkCells] at hu
    rcases hu with rfl | rfl | rfl | rfl | rfl <;> rfl
  · intro v' w' h2 h3 _
    refine h v' w' ?_ h3
    rw [tks_app, List.length_append]
    have e : tksCells [y] = tkCells y := by simp [tksCells]
    rw [e]
    exact h2
theorem scan_congr {s : ByteArray} {p p' : Nat} (h : skipF s p = skipF s p') : scanF s p = scanF s p' := by
  conv => lhs; rw [scanF]
  conv => rhs; rw [scanF]
  rw [h]
end Go.Proofs.YtpkdiciinhjfjaaDoor

/- lexis's reference: Scan. -/
namespace Go.Proofs.YtpkdiciinhjfjaaDoor
open Go.RowKit Mth

/-- memory from a block on -/
def FarV (B : Nat) (v : Value) : Prop := ∀ ad n c, v = .slice (some ad) n c → B ≤ ad.block
theorem FarV.own {w : World} {base B size n : Nat} {e : TypeId} {v : Value} {xs : List Value} (h : w.ownsRow base e size v n xs) (hB : B ≤ base) : FarV B v := fun ad m c hv => by
  have hl := h.lt
  obtain ⟨_, h1⟩ := h
  rcases h1 with ⟨rfl, _⟩ | ⟨g, cap, cur, rfl, _⟩
  · cases hv
  · injection hv with a1 a2 a3
    have a4 := Option.some.inj a1
    subst a4
    exact Nat.le_trans hB (hl g rfl).1
/-- the answer of Scan -/
def ScanO (w w' : World) (r : SR) (e : Ending) : Prop :=
  Below w.heap.size w w' ∧ ((∃ L v, r = .ok L ∧ e = .returned (.tuple #[v, .int .i64 0, .int .i64 0, .int .i64 0]) ∧ TkL w' v L ∧ FarV w.heap.size v) ∨
    (∃ E x y : Nat, r = .bad E x y ∧ E ≠ 0 ∧ e = .returned (.tuple #[.slice none 0 0, .int .i64 (x : Int), .int .i64 (y : Int), .int .i64 (E : Int)])))
theorem SR.pre_ok {L M : List Tk} : (SR.ok M).pre L = .ok (L ++ M) := rfl
theorem SR.pre_bad {L : List Tk} {e x y : Nat} : (SR.bad e x y).pre L = .bad e x y := rfl
set_option maxRecDepth 100000 in
theorem results4 {fn : Func} {t u x y : Tmp} {tmps : Array Value} {v0 v1 v2 v3 : Value} {W : World} (h : fn.results = #[.tmp t, .tmp u, .tmp x, .tmp y])
    (h1 : tmps.getD t undef = v0) (h2 : tmps.getD u undef = v1) (h3 : tmps.getD x undef = v2) (h4 : tmps.getD y undef = v3) : (results fn tmps).run Tryd.prog W = .ok (.tuple #[v0, v1, v2, v3]) W := by
  rw [Array.getD_eq_getD_getElem?] at h1 h2 h3 h4
  simp [results, h, h1, h2, h3, h4, go_sem]
/-- where the reference's Scan is -/
def ScR (w wr : World) (s : ByteArray) (v ln cl fr at_ : Value) : Prop := ∃ (p f : Nat) (L : List Tk), f ≤ p ∧ p ≤ s.size ∧ L.length ≤ p ∧ at_ = .int .i64 (p : Int) ∧ fr = .int .i64 (f : Int) ∧ ln = .int .i64 (lnAt s f : Int) ∧ cl = .int .i64 (colAt s f : Int) ∧
  wr.ownsRow w.heap.size 34 5 v L.length (tksCells L) ∧ scanF s 0 = (scanF s p).pre L ∧ Below w.heap.size w wr
theorem col_le (s : ByteArray) (p : Nat) : colAt s p ≤ p + 1 := by unfold colAt; omega
theorem col_nl {s : ByteArray} {p : Nat} (h : cb s p = 10) : colAt s (p + 1) = 1 := by unfold colAt; rw [(ln_nl h).2]; omega
theorem col_same {s : ByteArray} {p : Nat} (h : cb s p ≠ 10) : colAt s (p + 1) = colAt s p + 1 := by
  have := fs_le s p
  unfold colAt; rw [(ln_same h).2]; omega
def ck (s : ByteArray) (p : Nat) (i : Value) : Prop := ∃ k : Nat, p ≤ k ∧ k ≤ s.size ∧ i = .int .i64 (k : Int) ∧ cmtF s p = cmtF s k
theorem cmt_next {s : ByteArray} {k : Nat} (h : k < s.size) (hn : cb s k ≠ 10) : cmtF s k = cmtF s (k + 1) := by rw [cmtF, if_pos h, if_neg hn]
theorem cmt_here {s : ByteArray} {k : Nat} (h : k = s.size ∨ cb s k = 10) : cmtF s k = k := by
  rw [cmtF]
  split
  · rcases h with h | h
    · omega
    · rw [if_pos h]
  · rfl
def PlR (s : ByteArray) (p f0 : Nat) (ln cl fr : Value) : Prop := ∃ f : Nat, f0 ≤ f ∧ f ≤ p ∧ fr = .int .i64 (f : Int) ∧ ln = .int .i64 (lnAt s f : Int) ∧ cl = .int .i64 (colAt s f : Int)
theorem own_below {w w' : World} {base size n : Nat} {e : TypeId} {v : Value} {xs : List Value} (h : w.ownsRow base e size v n xs) (hb : Below w.heap.size w w') : w'.ownsRow base e size v n xs :=
  h.kept (row := none) ⟨hb.os, hb.tape, hb.output, hb.size, fun k hk _ => hb.block k hk⟩ (by cases hv : v.ownBlock with
    | none => exact .inl rfl
    | some x => exact .inr (by simp))
end Go.Proofs.YtpkdiciinhjfjaaDoor
