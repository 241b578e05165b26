/- Operations on rows of limbs, as laws of the walk: make, copy, append, a slice written out; math/bits's carries. -/
import Derived.Test.YtafeokkkbiaajabDoorTrim
import Derived.Laws.Externs
import Derived.Laws.CopyOwn
namespace Go.Proofs.YtafeokkkbiaajabDoor
open Go.RowKit Mth

theorem info_u64 : (Tryd.prog.info? 36).map (fun i => (i.zero, i.size, i.bytes)) = some (some (.int .u64 0), 1, 8) := by kernel_rfl
theorem info_u32 : (Tryd.prog.info? 62).map (fun i => (i.zero, i.size, i.bytes)) = some (some (.int .u32 0), 1, 4) := by kernel_rfl
theorem ret_bool {a b : Bool} (h : a = b) : Ending.returned (.bool a) = .returned (.bool b) := by rw [h]
theorem ret_int {k : IntKind} {a b : Int} (h : a = b) : Ending.returned (.int k a) = .returned (.int k b) := by rw [h]
theorem len_eq {n : Nat} (h : n = 0) : ((n : Int) == 0) = true := by rw [h]; rfl
theorem len_ne {n : Nat} (h : n ≠ 0) : ((n : Int) == 0) = false := by simp; omega

/-- make(api.Nat, n) -/
theorem make_nat {w : World} {ops : Array Oper} {rest : List Oper} {o : Oper} {a : Act} {Q : Exit → Act → World → Prop}
    (hg : o.guard = none) (l c : Operand) (hop : o.op = Op.makeSlice 23 l c) (L C : Int) (n : Nat) (hl : a.eval l = .int .i64 L) (hc : a.eval c = .int .i64 C) (hL : L = (n : Int)) (hC : C = (n : Int))
    (hn : n ≤ 16777217)
    (hK : ∀ w', Row w' 36 .u64 w.heap.size (List.replicate n 0) → Below w.heap.size w w' → wpList Tryd.prog ops Q rest (a.put o.dst (.slice (some ⟨w.heap.size, 0, none⟩) n n)) w') :
    wpList Tryd.prog ops Q (o :: rest) a w := by
  obtain ⟨i0, hi, hz0, hz1, hz2⟩ := info_parts info_u64
  refine wpList_make_full w hg l c 23 hop w.heap.size 36 i0 _ 1 Tryd.underlying23 hi hz0 hz1 .i64 .i64 L C n hl hc hL hC (by rw [hz2]; omega) (by unfold maxLen; omega) (Nat.le_refl _) ?_
  intro w' hown hgrow
  rw [zeros_own] at hown
  exact hK w' (row_of_own hown).1 ((Below.refl _ _).grown hgrow (Nat.le_refl _) (fun k e => by simp at e))

/-- make(Half, n) -/
theorem make_half {w : World} {ops : Array Oper} {rest : List Oper} {o : Oper} {a : Act} {Q : Exit → Act → World → Prop}
    (hg : o.guard = none) (l c : Operand) (hop : o.op = Op.makeSlice 58 l c) (L C : Int) (n : Nat) (hl : a.eval l = .int .i64 L) (hc : a.eval c = .int .i64 C) (hL : L = (n : Int)) (hC : C = (n : Int))
    (hn : n ≤ 16777217)
    (hK : ∀ w', Row w' 62 .u32 w.heap.size (List.replicate n 0) → Below w.heap.size w w' → wpList Tryd.prog ops Q rest (a.put o.dst (.slice (some ⟨w.heap.size, 0, none⟩) n n)) w') :
    wpList Tryd.prog ops Q (o :: rest) a w := by
  obtain ⟨i0, hi, hz0, hz1, hz2⟩ := info_parts info_u32
  refine wpList_make_full w hg l c 58 hop w.heap.size 62 i0 _ 1 Tryd.underlying58 hi hz0 hz1 .i64 .i64 L C n hl hc hL hC (by rw [hz2]; omega) (by unfold maxLen; omega) (Nat.le_refl _) ?_
  intro w' hown hgrow
  rw [zeros_own] at hown
  exact hK w' (row_of_own hown).1 ((Below.refl _ _).grown hgrow (Nat.le_refl _) (fun k e => by simp at e))

theorem cells_one (k : IntKind) (xs : List Nat) : ∀ v ∈ cellsOf k xs, v.oneCell' = true := by
  intro v hv
  obtain ⟨x, _, rfl⟩ := List.mem_map.1 hv
  rfl

/-- copy(own, a): a row of the call's own that is just as long as what is copied -/
theorem copy_nat {w w0 : World} {ops : Array Oper} {rest : List Oper} {o : Oper} {a : Act} {Q : Exit → Act → World → Prop} (hgd : o.guard = none) (d s : Operand)
    (ho : o.op = .call { callee := .builtin .copy, args := #[d, s], argTypes := #[23, 23] }) (g n c : Nat) (v : Value) (xs zs : List Nat)
    (hd : a.eval d = .slice (some ⟨g, 0, none⟩) n c) (hs : a.eval s = v) (hrow : Row w 36 .u64 g zs) (hz : zs.length = n) (hx : xs.length = n) (hsl : Sl w .u64 v xs)
    (hb : Below w0.heap.size w0 w) (hg : w0.heap.size ≤ g)
    (h : ∀ w', Row w' 36 .u64 g xs → Below w0.heap.size w0 w' → wpList Tryd.prog ops Q rest (a.put o.dst (goInt n)) w') :
    wpList Tryd.prog ops Q (o :: rest) a w := by
  obtain ⟨ao, cap, rfl, h1, h2, h3, h4, h5⟩ := hsl
  subst hx
  have hlen : (cellsOf .u64 xs).length = xs.length := length_cellsOf _ _
  refine wpList_copy_splice hgd d s 23 23 ho 36 Tryd.underlying23 (by kernel_rfl) _ _ _ _ _ _ hd hs g 0 (cellsOf .u64 zs) 36 hrow (cellsOf .u64 xs) (by rw [hlen]; simp) ?_
    (by rw [hlen, length_cellsOf]; omega) (cells_one _ _) w0.heap.size w0 hb hg ?_
  · intro hp
    obtain ⟨b, off, rfl, hlt, hc⟩ := h5 (by omega)
    refine ⟨rfl, _, rfl, fun j u hj => ?_⟩
    have hjl : j < xs.length := by have := (List.getElem?_eq_some_iff.1 hj).1; omega
    rw [cellsOf_get _ _ _ hjl] at hj
    rw [Addr.add_lit, hc j hjl, hj]
  · intro w' hh hb'
    have e : splice (cellsOf .u64 zs) 0 (cellsOf .u64 xs) = cellsOf .u64 xs := by
      simp only [splice, List.take_zero, List.nil_append, Nat.zero_add]
      rw [List.drop_of_length_le (by rw [length_cellsOf, length_cellsOf]; omega), List.append_nil]
    have h' := hh.out
    rw [e] at h'
    rw [hlen] at *
    exact h w' h' hb'

/-- math/bits's Add64 and Sub64: the model's own entries -/
theorem add64_run (x y c : Nat) (hc : c ≤ 1) (w : World) :
    (callFunc 43 #[.int .u64 x, .int .u64 y, .int .u64 c]).run Tryd.prog w =
      .ok (.value (.tuple #[.int .u64 ((aLo x y c : Nat) : Int), .int .u64 ((aHi x y c : Nat) : Int)])) w := by
  unfold aLo aHi B64
  rw [run_callFunc_extern Tryd.func43 (by kernel_rfl) (by kernel_rfl) (by kernel_rfl) (e := add64Entry) (by kernel_rfl), run_add64 x y c (by omega) (by omega) (by omega) (by omega)]
  simp only [Result.andThen]
  congr 5 <;> omega
theorem add64_run0 (x y : Nat) (w : World) :
    (callFunc 43 #[.int .u64 x, .int .u64 y, .int .u64 0]).run Tryd.prog w =
      .ok (.value (.tuple #[.int .u64 ((aLo x y 0 : Nat) : Int), .int .u64 ((aHi x y 0 : Nat) : Int)])) w := add64_run x y 0 (by omega) w
/-- The model's entry for math/bits.Sub64. -/
def sub64Entry : Array Value → Sem Value := fun args => do
  let (x, y, b) ← Extern.MathBitsCarry.three "Sub64" args
  pure (Extern.MathBitsCarry.pair ((x + Extern.MathBitsCarry.m64 - y - b) % Extern.MathBitsCarry.m64) (if x < y + b then 1 else 0))
theorem sub64_run (x y b : Nat) (hb : b ≤ 1) (w : World) :
    (callFunc 73 #[.int .u64 x, .int .u64 y, .int .u64 b]).run Tryd.prog w =
      .ok (.value (.tuple #[.int .u64 ((sLo x y b : Nat) : Int), .int .u64 ((sHi x y b : Nat) : Int)])) w := by
  unfold sLo sHi B64
  rw [run_callFunc_extern Tryd.func73 (by kernel_rfl) (by kernel_rfl) (by kernel_rfl) (e := sub64Entry) (by kernel_rfl)]
  have : b = 0 ∨ b = 1 := by omega
  rcases this with rfl | rfl <;> rfl

/-- append of one element to a row of halves, or of limbs, of the call's own -/
theorem append_half {w : World} {ops : Array Oper} {rest : List Oper} {o : Oper} {a : Act} {Q : Exit → Act → World → Prop} (hgd : o.guard = none) (s x : Operand)
    (ho : o.op = .call { callee := .builtin .append, args := #[s, x], argTypes := #[58, 58] }) (base : Nat) (v : Value) (xs : List Nat) (y : Nat) (ad : Addr)
    (hs : a.eval s = v) (hx : a.eval x = .slice (some ad) 1 1) (hown : w.ownsRow base 62 1 v xs.length (cellsOf .u32 xs)) (hc : w.cell? ad = some (.int .u32 ((y : Nat) : Int))) (hlen : xs.length ≤ 16777216) (hbase : base ≤ w.heap.size)
    (h : ∀ v' w', w'.ownsRow base 62 1 v' (xs ++ [y]).length (cellsOf .u32 (xs ++ [y])) → w.grownBy w' v.ownBlock → wpList Tryd.prog ops Q rest (a.put o.dst v') w') : wpList Tryd.prog ops Q (o :: rest) a w := by
  obtain ⟨i0, hi, hz0, hz1, hz2⟩ := info_parts info_u32
  refine wpList_append_own w hgd s x 58 ho base 62 i0 _ 1 4 Tryd.underlying58 hi hz0 hz1 hz2 rfl (by decide) v _ _ hs hown ad 1 1 [.int .u32 ((y : Nat) : Int)] hx rfl ?_ ?_
    (by unfold maxLen; omega) (by omega) hbase ?_
  · intro j u hj
    match j, hj with
    | 0, hj => simp at hj; subst hj; simpa [Addr.add] using hc
  · intro u hu
    simp at hu; subst hu; rfl
  · intro v' w' h2 h3 _
    refine h v' w' ?_ h3
    rw [cellsOf_append, List.length_append]
    exact h2
theorem append_nat {w : World} {ops : Array Oper} {rest : List Oper} {o : Oper} {a : Act} {Q : Exit → Act → World → Prop} (hgd : o.guard = none) (s x : Operand)
    (ho : o.op = .call { callee := .builtin .append, args := #[s, x], argTypes := #[23, 23] }) (base : Nat) (v : Value) (xs : List Nat) (y : Nat) (ad : Addr)
    (hs : a.eval s = v) (hx : a.eval x = .slice (some ad) 1 1) (hown : w.ownsRow base 36 1 v xs.length (cellsOf .u64 xs)) (hc : w.cell? ad = some (.int .u64 ((y : Nat) : Int))) (hlen : xs.length ≤ 16777216) (hbase : base ≤ w.heap.size)
    (h : ∀ v' w', w'.ownsRow base 36 1 v' (xs ++ [y]).length (cellsOf .u64 (xs ++ [y])) → w.grownBy w' v.ownBlock → wpList Tryd.prog ops Q rest (a.put o.dst v') w') : wpList Tryd.prog ops Q (o :: rest) a w := by
  obtain ⟨i0, hi, hz0, hz1, hz2⟩ := info_parts info_u64
  refine wpList_append_own w hgd s x 23 ho base 36 i0 _ 1 8 Tryd.underlying23 hi hz0 hz1 hz2 rfl (by decide) v _ _ hs hown ad 1 1 [.int .u64 ((y : Nat) : Int)] hx rfl ?_ ?_
    (by unfold maxLen; omega) (by omega) hbase ?_
  · intro j u hj
    match j, hj with
    | 0, hj => simp at hj; subst hj; simpa [Addr.add] using hc
  · intro u hu
    simp at hu; subst hu; rfl
  · intro v' w' h2 h3 _
    refine h v' w' ?_ h3
    rw [cellsOf_append, List.length_append]
    exact h2
theorem own_addr {w : World} {base e n : Nat} {v : Value} {xs : List Value} (h : w.ownsRow base e 1 v n xs) (hp : 0 < n) : ∃ g cap, v = .slice (some ⟨g, 0, none⟩) n cap ∧ n ≤ cap ∧ cap ≤ maxLen := by
  rcases h.2 with ⟨rfl, h0⟩ | ⟨g, cap, cur, rfl, _, _, h1, h2, _⟩
  · omega
  · exact ⟨g, cap, rfl, h1, h2⟩
/-- the same as append_nat, the new value written out -/
theorem append_nat_at {w : World} {ops : Array Oper} {rest : List Oper} {o : Oper} {a : Act} {Q : Exit → Act → World → Prop} (hgd : o.guard = none) (s x : Operand)
    (ho : o.op = .call { callee := .builtin .append, args := #[s, x], argTypes := #[23, 23] }) (base : Nat) (v : Value) (xs : List Nat) (y : Nat) (ad : Addr)
    (hs : a.eval s = v) (hx : a.eval x = .slice (some ad) 1 1) (hown : w.ownsRow base 36 1 v xs.length (cellsOf .u64 xs)) (hc : w.cell? ad = some (.int .u64 ((y : Nat) : Int))) (hlen : xs.length ≤ 16777216) (hbase : base ≤ w.heap.size)
    (h : ∀ g cap w', w'.ownsRow base 36 1 (.slice (some ⟨g, 0, none⟩) (xs ++ [y]).length cap) (xs ++ [y]).length (cellsOf .u64 (xs ++ [y])) → w.grownBy w' v.ownBlock → (xs ++ [y]).length ≤ cap → cap ≤ maxLen →
      wpList Tryd.prog ops Q rest (a.put o.dst (.slice (some ⟨g, 0, none⟩) (xs ++ [y]).length cap)) w') : wpList Tryd.prog ops Q (o :: rest) a w :=
  append_nat hgd s x ho base v xs y ad hs hx hown hc hlen hbase fun v' w' h1 h2 => by
    obtain ⟨g, cap, rfl, h3, h4⟩ := own_addr h1 (by simp)
    exact h g cap w' h1 h2 h3 h4
/-- an owned row's writes stay above the base -/
theorem below_own {a w w' : World} {B e : Nat} {v : Value} {n : Nat} {xs : List Value} (hb : Below B a w) (hown : w.ownsRow B e 1 v n xs) (hg : w.grownBy w' v.ownBlock) (hB : B ≤ w.heap.size) : Below B a w' :=
  hb.grown hg hB (fun k e => (hown.lt k e).1)
end Go.Proofs.YtafeokkkbiaajabDoor
