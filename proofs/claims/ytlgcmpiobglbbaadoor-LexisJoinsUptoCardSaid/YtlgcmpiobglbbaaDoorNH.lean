/- lists of tokens in memory; append of a token. -/
import Derived.Test.YtlgcmpiobglbbaaDoorLU
import Derived.Test.YtlgcmpiobglbbaaDoorLI
import Derived.Laws.AppendOwnNone
import Derived.LoopTactic
set_option linter.unusedVariables false
set_option linter.unusedSimpArgs false
namespace Go.Proofs.YtlgcmpiobglbbaaDoor
open Go.RowKit Mth

theorem info_tok : (Tryd.prog.info? 33).map (fun i => (i.zero, i.size, i.bytes)) = some (some (.agg #[.int .i64 0, .string ⟨#[]⟩, .bool false, .int .i64 0, .int .i64 0]), 5, 48) := by kernel_rfl
def tkCells (x : Tk) : List Value := [.int .i64 x.k, .string x.t, .bool x.q, .int .i64 x.l, .int .i64 x.c]
def tksCells (L : List Tk) : List Value := L.flatMap tkCells
theorem tks_len : ∀ L : List Tk, (tksCells L).length = 5 * L.length
  | [] => rfl
  | x :: L => by show (tkCells x ++ tksCells L).length = _; rw [List.length_append, tks_len L, List.length_cons]; show 5 + _ = _; omega
theorem tks_app (L M : List Tk) : tksCells (L ++ M) = tksCells L ++ tksCells M := List.flatMap_append
theorem tks_get : ∀ (L : List Tk) (i : Nat) (x : Tk), L[i]? = some x → ∀ j v, (tkCells x)[j]? = some v → (tksCells L)[5 * i + j]? = some v
  | [], i, x, h, j, v, hv => by simp at h
  | y :: L, 0, x, h, j, v, hv => by
    obtain rfl : y = x := by simpa using h
    show (tkCells y ++ tksCells L)[_]? = _
    rw [Nat.mul_zero, Nat.zero_add]
    exact List.getElem?_append_left (List.getElem?_eq_some_iff.1 hv).1 |>.trans hv
  | y :: L, i + 1, x, h, j, v, hv => by
    show (tkCells y ++ tksCells L)[_]? = _
    rw [List.getElem?_append_right (show (tkCells y).length ≤ _ by show 5 ≤ _; omega)]
    show (tksCells L)[5 * (i + 1) + j - 5]? = _
    rw [show 5 * (i + 1) + j - 5 = 5 * i + j by omega]
    exact tks_get L i x (by simpa using h) j v hv
/-- a list of tokens in memory -/
def TkL (w : World) (v : Value) (L : List Tk) : Prop := ∃ ao cap, v = .slice ao L.length cap ∧ (L ≠ [] → ∃ b off, ao = some ⟨b, off, none⟩ ∧ b < w.heap.size ∧ ∀ j x, (tksCells L)[j]? = some x → w.cell? ⟨b, off + j, none⟩ = some x)
theorem TkL.nil (w : World) : TkL w (.slice none 0 0) [] := ⟨none, 0, rfl, fun h => absurd rfl h⟩
theorem TkL.below {w w' : World} {v : Value} {L : List Tk} (h : TkL w v L) (hb : Below w.heap.size w w') : TkL w' v L := by
  obtain ⟨ao, cap, h1, h2⟩ := h
  refine ⟨ao, cap, h1, fun hn => ?_⟩
  obtain ⟨b, off, e, hlt, hc⟩ := h2 hn
  exact ⟨b, off, e, Nat.lt_of_lt_of_le hlt hb.size, fun j x hx => (hb.cell (p := ⟨b, off + j, none⟩) hlt).trans (hc j x hx)⟩
theorem TkL.grown {w w' : World} {v : Value} {L : List Tk} (h : TkL w v L) (hb : w.grownBy w' none) : TkL w' v L := h.below ⟨hb.os, hb.tape, hb.output, hb.size, fun k hk => hb.block k hk (by simp)⟩
/-- the cells of one token of a list -/
theorem TkL.at {w : World} {b off : Nat} {L : List Tk} (hc : ∀ j x, (tksCells L)[j]? = some x → w.cell? ⟨b, off + j, none⟩ = some x) {i : Nat} {x : Tk} (hx : L[i]? = some x) :
    w.cell? ⟨b, off + i * 5, none⟩ = some (.int .i64 x.k) ∧ w.cell? ⟨b, off + i * 5 + 1, none⟩ = some (.string x.t) ∧ w.cell? ⟨b, off + i * 5 + 2, none⟩ = some (.bool x.q) ∧ w.cell? ⟨b, off + i * 5 + 3, none⟩ = some (.int .i64 x.l) ∧ w.cell? ⟨b, off + i * 5 + 4, none⟩ = some (.int .i64 x.c) := by
  rw [Nat.mul_comm i 5]
  exact ⟨hc _ _ (tks_get L i x hx 0 _ rfl), by rw [Nat.add_assoc]; exact hc _ _ (tks_get L i x hx 1 _ rfl), by rw [Nat.add_assoc]; exact hc _ _ (tks_get L i x hx 2 _ rfl), by rw [Nat.add_assoc]; exact hc _ _ (tks_get L i x hx 3 _ rfl), by rw [Nat.add_assoc]; exact hc _ _ (tks_get L i x hx 4 _ rfl)⟩
/-- what the call owns is a list of tokens -/
theorem TkL.own {w : World} {base : Nat} {v : Value} {L : List Tk} (h : w.ownsRow base 33 5 v L.length (tksCells L)) : TkL w v L := by
  have hl := h.lt
  have hc : ∀ {g : Nat}, v.ownBlock = some g → ∀ j u, (tksCells L)[j]? = some u → w.cell? ((⟨g, 0, none⟩ : Addr).add j) = some u := fun hg => h.cells hg
  obtain ⟨h0, h1⟩ := h
  rcases h1 with ⟨rfl, h2⟩ | ⟨g, cap, cur, rfl, _⟩
  · cases L with
    | nil => exact TkL.nil w
    | cons x L => simp [tksCells, tkCells] at h2
  · refine ⟨some ⟨g, 0, none⟩, cap, rfl, fun _ => ⟨g, 0, rfl, (hl g rfl).2, fun j x hx => ?_⟩⟩
    have := hc (g := g) rfl j x hx
    rwa [Addr.add_lit] at this
theorem append_tok {w : World} {ops : Array Oper} {rest : List Oper} {o : Oper} {a : Act} {Q : Exit → Act → World → Prop} (hgd : o.guard = none) (s x : Operand)
    (ho : o.op = .call { callee := .builtin .append, args := #[s, x], argTypes := #[22, 22] }) (base : Nat) (v : Value) (L : List Tk) (y : Tk) (b cap : Nat)
    (hs : a.eval s = v) (hx : a.eval x = .slice (some ⟨b, 0, none⟩) 1 cap) (hown : w.ownsRow base 33 5 v L.length (tksCells L)) (hu : w.heap[b]? = some (.cells #[.int .i64 y.k, .string y.t, .bool y.q, .int .i64 y.l, .int .i64 y.c] 33 (0, 0))) (hlen : L.length ≤ 1048576) (hbase : base ≤ w.heap.size)
    (h : ∀ v' w', w'.ownsRow base 33 5 v' (L ++ [y]).length (tksCells (L ++ [y])) → w.grownBy w' v.ownBlock → wpList Tryd.prog ops Q rest (a.put o.dst v') w') : wpList Tryd.prog ops Q (o :: rest) a w := by
  obtain ⟨i0, hi, hz0, hz1, hz2⟩ := info_parts info_tok
  obtain ⟨c0, c1, c2, c3, c4⟩ := blk5 hu
  refine wpList_append_own w hgd s x 22 ho base 33 i0 _ 5 48 Tryd.underlying22 hi hz0 hz1 hz2 rfl (by decide) v _ _ hs hown ⟨b, 0, none⟩ 1 cap (tkCells y) hx rfl ?_ ?_
      (by unfold maxLen; omega) (by omega) hbase ?_
  · intro j u hj
    match j, hj with
    | 0, hj => obtain rfl := Option.some.inj hj; rw [Addr.add_lit]; exact c0
    | 1, hj => obtain rfl := Option.some.inj hj; rw [Addr.add_lit]; exact c1
    | 2, hj => obtain rfl := Option.some.inj hj; rw [Addr.add_lit]; exact c2
    | 3, hj => obtain rfl := Option.some.inj hj; rw [Addr.add_lit]; exact c3
    | 4, hj => obtain rfl := Option.some.inj hj; rw [Addr.add_lit]; exact c4
    | j + 5, hj => simp [tkCells] at hj
  · intro u hu
    simp [tkCells] at hu
    rcases hu with rfl | rfl | rfl | rfl | rfl <;> rfl
  · intro v' w' h2 h3 _
    refine h v' w' ?_ h3
    rw [tks_app, List.length_append]
    have e : tksCells [y] = tkCells y := by simp [tksCells]
    rw [e]
    exact h2
theorem scan_congr {s : ByteArray} {p p' : Nat} (h : skipF s p = skipF s p') : scanF s p = scanF s p' := by
  conv => lhs; rw [scanF]
  conv => rhs; rw [scanF]
  rw [h]
end Go.Proofs.YtlgcmpiobglbbaaDoor
