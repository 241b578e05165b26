/- Lift Lift10 LiftL LiftZ. -/
import Derived.Test.YthgmebnihpjnoaaGreatDoorRF
import Derived.Test.YthgmebnihpjnoaaGreatDoorCards
import Derived.Test.YthgmebnihpjnoaaGreatDoorTie
import Derived.OpenShut
import Derived.Deep.DeepHandedRow
import Derived.Lib.LaidTab
import Derived.Test.YthgmebnihpjnoaaGreatDoorTX
import Derived.Deep.Matrix
import Derived.Test.YthgmebnihpjnoaaGreatDoorZ1
import Derived.Lib.SmallJoins
set_option linter.unusedVariables false
set_option linter.unusedSimpArgs false
/- From the row's reading of the arguments to the walks: a slice of limbs, the tables that the row lists, the bound; the witness's world. -/
namespace Go.Proofs.YthgmebnihpjnoaaGreatDoor
open Go.ChangeShapes Go.WideShapes Go.ChangeAt Go.RowKit Mth

theorem own : ownKnob Tryz.prog.godebug = none := by kernel_rfl
theorem laidOut : laidOutB Tryz.prog = true := by kernel_rfl
theorem cells_u64 : Tryz.prog.cellsOf 73 = 1 := by kernel_rfl
theorem cells_u8 : Tryz.prog.cellsOf 5 = 1 := by kernel_rfl
theorem cells_tab64 : Tryz.prog.cellsOf 216 = 64 := by kernel_rfl
theorem g_tab64 : Tryz.prog.globalNamed "math/bits.deBruijn64tab" = some 1 := by kernel_rfl
theorem g_tab64_type : (Tryz.prog.globals[1]?).map (·.type) = some 216 := by kernel_rfl

/-- the three tables that every row of this seat lists -/
def tables : List (String × DataW Unit) := [("math/bits.deBruijn32tab", Rows.laid_math_bits_deBruijn32tab), ("math/bits.deBruijn64tab", Rows.laid_math_bits_deBruijn64tab), ("internal/strconv.uint64pow10", Rows.laid_internal_strconv_uint64pow10)]
def tab64 : List Int := [0, 1, 56, 2, 57, 49, 28, 3, 61, 58, 42, 50, 38, 29, 17, 4, 62, 47, 59, 36, 45, 43, 51, 22, 53, 39, 33, 30, 24, 18, 12, 5, 63, 55, 48, 27, 60, 41, 37, 16, 46, 35, 44, 21, 52, 32, 23, 11, 54, 26, 40, 15, 34, 20, 31, 10, 25, 14, 19, 9, 13, 8, 7, 6]
theorem tab64_data : (Rows.laid_math_bits_deBruijn64tab : DataW Unit) = Lib.tabData .u8 tab64 := by kernel_rfl

/-- what is read of math/bits's table -/
theorem tz_of_laid {W : World} (h : laidMetH Tryz.prog tables W) : TZ W := by
  have h' : laidMet Tryz.prog tables W := h
  obtain ⟨ps, ⟨g0, t0, cs0, f0, p0, q0, hg0, ht0, hv0, hd0, ⟨g1, t1, cs1, f1, p1, q1, hg1, ht1, hv1, hd1, _⟩, _⟩, _⟩ := h'
  obtain rfl := Option.some.inj (g_tab64.symm.trans hg1)
  obtain rfl := Option.some.inj (g_tab64_type.symm.trans ht1)
  rw [tab64_data] at hd1
  have tab : Lib.TabIs Tryz.prog W "math/bits.deBruijn64tab" .u8 tab64 := by
    unfold Lib.TabIs
    rw [hv1, ← Lib.cells_of_tab Tryz.underlying216 Tryz.underlying5 cells_u8 cells_tab64 hd1]
  exact ⟨tab.cell g_tab64 15 (by decide), tab.cell g_tab64 1 (by decide)⟩

/-- so many values does a list of numbers hold -/
theorem bulk_ints {H : Type} (k : IntKind) (zs : List Int) : Rows.uptoBulkAll (lits (H := H) k zs) = zs.length := by
  induction zs with
  | nil => simp [lits, Rows.uptoBulkAll]
  | cons z r ih =>
    simp only [lits, List.map_cons, Rows.uptoBulkAll, Rows.uptoBulk, List.length_cons] at ih ⊢
    omega
theorem bulk_mem {H : Type} {d : DataW H} {ds : List (DataW H)} (h : d ∈ ds) : Rows.uptoBulk d ≤ Rows.uptoBulkAll ds := by
  induction ds with
  | nil => cases h
  | cons x r ih =>
    simp only [Rows.uptoBulkAll]
    rcases List.mem_cons.1 h with e | e
    · subst e; omega
    · have := ih e; omega

set_option maxRecDepth 100000 in
/-- a number among the arguments -/
theorem nat_arg {H : Type} {enc : TypeId × Value → H} {W : World} {base : Nat} {v : Value} {d : DataW H} {p : List MemPlace} (hval : Value.okWide Tryz.prog W .any base 23 v)
    (h : DataW.Trod enc Tryz.prog W 0 (fun _ => true) true 23 v d p) (hk : Rows.uptoBulk d ≤ 1048576) : ∃ xs : List Nat, Sl W .u64 v xs ∧ Lim B64 xs ∧ xs.length ≤ 1048576 := by
  obtain ⟨a0, len, cap, rfl⟩ := okWide_slice Tryz.underlying23 hval
  obtain ⟨fuel, hf⟩ := h
  rcases open_ints Tryz.underlying23 Tryz.underlying73 cells_u64 hf with ⟨hcs, hx⟩ | ⟨a, len', cap', zs, hcs, _, hl, hm, hz, hx, hcell, hwz⟩
  · simp [Value.cells] at hcs
    obtain ⟨rfl, rfl, rfl⟩ := hcs
    exact ⟨[], sl_nil W _, lim_nil (by have := B64_pos; omega), by simp⟩
  · simp [Value.cells] at hcs
    obtain ⟨rfl, rfl, rfl⟩ := hcs
    simp only [Prod.mk.injEq] at hx
    obtain ⟨rfl, rfl⟩ := hx
    simp only [if_true] at hz
    simp only [Rows.uptoBulk, bulk_ints, List.length_take, List.length_drop] at hk
    have hlen : len ≤ 1048576 := by omega
    have hget : ∀ j, ((zs.take len).map Int.toNat).getD j 0 = if j < len then (zs.getD j 0).toNat else 0 := by
      intro j
      simp only [List.getD_eq_getElem?_getD, List.getElem?_map, List.getElem?_take]
      split
      · cases zs[j]? <;> rfl
      · rfl
    have hwf : ∀ j, 0 ≤ zs.getD j 0 ∧ zs.getD j 0 ≤ 18446744073709551615 := by
      intro j
      have := range_u64 hwz j
      simpa [List.getD_eq_getElem?_getD] using this
    have hxl : ((zs.take len).map Int.toNat).length = len := by rw [List.length_map, List.length_take]; omega
    refine ⟨(zs.take len).map Int.toNat, ⟨some a, cap, by rw [hxl], by omega, hm, by omega, fun e => by simp at e, fun hp => ?_⟩, fun j => ?_, by omega⟩
    · obtain ⟨b, off, rfl, hc⟩ := ints_at hcell (by omega)
      refine ⟨b, off, rfl, World.block_lt_of_cell? W _ (hc 0 (by omega)), fun j hj => ?_⟩
      rw [hc j (by omega), hget, if_pos (by omega), Int.toNat_of_nonneg (hwf j).1]
    · rw [hget]
      have := hwf j
      unfold B64
      split <;> omega

/-- an argument reads behind the call as it read before -/
theorem arg_stays {H : Type} {enc : TypeId × Value → H} {t : TypeId} (hr : Tryz.prog.readableRec t = true) (hrow : t < Tryz.prog.types.size) {W W' : World} {v : Value} {d : DataW H} {p : List MemPlace}
    (h : DataW.Trod enc Tryz.prog W 0 (fun _ => true) true t v d p) (hb : Below W.heap.size W W') (hlt : ∀ x ∈ p, x.block < W.heap.size) : DataW.Trod enc Tryz.prog W' 0 (fun b => decide (b < W.heap.size)) true t v d p :=
  Below.trod laidOut hr hrow h hb hlt

/-- new cells in a block -/
def refill (cs : Array Value) : Obj → Obj
  | .cells _ t frozen => .cells cs t frozen
  | o => o
def cells32 : Array Value := #[.int .u8 0, .int .u8 1, .int .u8 28, .int .u8 2, .int .u8 29, .int .u8 14, .int .u8 24, .int .u8 3, .int .u8 30, .int .u8 22, .int .u8 20, .int .u8 15, .int .u8 25, .int .u8 17, .int .u8 4, .int .u8 8, .int .u8 31, .int .u8 27, .int .u8 13, .int .u8 23, .int .u8 21, .int .u8 19, .int .u8 16, .int .u8 7, .int .u8 26, .int .u8 12, .int .u8 18, .int .u8 6, .int .u8 11, .int .u8 5, .int .u8 10, .int .u8 9]
def cells64 : Array Value := #[.int .u8 0, .int .u8 1, .int .u8 56, .int .u8 2, .int .u8 57, .int .u8 49, .int .u8 28, .int .u8 3, .int .u8 61, .int .u8 58, .int .u8 42, .int .u8 50, .int .u8 38, .int .u8 29, .int .u8 17, .int .u8 4, .int .u8 62, .int .u8 47, .int .u8 59, .int .u8 36, .int .u8 45, .int .u8 43, .int .u8 51, .int .u8 22, .int .u8 53, .int .u8 39, .int .u8 33, .int .u8 30, .int .u8 24, .int .u8 18, .int .u8 12, .int .u8 5, .int .u8 63, .int .u8 55, .int .u8 48, .int .u8 27, .int .u8 60, .int .u8 41, .int .u8 37, .int .u8 16, .int .u8 46, .int .u8 35, .int .u8 44, .int .u8 21, .int .u8 52, .int .u8 32, .int .u8 23, .int .u8 11, .int .u8 54, .int .u8 26, .int .u8 40, .int .u8 15, .int .u8 34, .int .u8 20, .int .u8 31, .int .u8 10, .int .u8 25, .int .u8 14, .int .u8 19, .int .u8 9, .int .u8 13, .int .u8 8, .int .u8 7, .int .u8 6]
def cells10 : Array Value := #[.int .u64 1, .int .u64 10, .int .u64 100, .int .u64 1000, .int .u64 10000, .int .u64 100000, .int .u64 1000000, .int .u64 10000000, .int .u64 100000000, .int .u64 1000000000, .int .u64 10000000000, .int .u64 100000000000, .int .u64 1000000000000, .int .u64 10000000000000, .int .u64 100000000000000, .int .u64 1000000000000000, .int .u64 10000000000000000, .int .u64 100000000000000000, .int .u64 1000000000000000000, .int .u64 10000000000000000000]
/-- A world for the witnesses: the settled one, the tables holding what their initialisers lay. -/
noncomputable def laidWorld (os : Os) : World :=
  { World.holding Tryz.prog os ⟨#[], #[], []⟩ with heap := (((World.holding Tryz.prog os ⟨#[], #[], []⟩).heap.modify 4 (refill cells10)).modify 5 (refill cells32)).modify 1 (refill cells64) }
end Go.Proofs.YthgmebnihpjnoaaGreatDoor

/- The table of powers of ten, from the row's own list. -/
namespace Go.Proofs.YthgmebnihpjnoaaGreatDoor
open Go.ChangeShapes Go.WideShapes Go.ChangeAt Go.RowKit Mth

theorem cells_tab10 : Tryz.prog.cellsOf 243 = 20 := by kernel_rfl
theorem g_pow10_type : (Tryz.prog.globals[4]?).map (·.type) = some 243 := by kernel_rfl
theorem tab10_data : (Rows.laid_internal_strconv_uint64pow10 : DataW Unit) = Lib.tabData .u64 Lib.pow10Tab := by kernel_rfl
theorem pow10_of_laid {W : World} (h : laidMetH Tryz.prog tables W) : TZ10 W := by
  have h' : laidMet Tryz.prog tables W := h
  obtain ⟨ps, ⟨g0, t0, cs0, f0, p0, q0, hg0, ht0, hv0, hd0, ⟨g1, t1, cs1, f1, p1, q1, hg1, ht1, hv1, hd1, ⟨g2, t2, cs2, f2, p2, q2, hg2, ht2, hv2, hd2, _⟩, _⟩, _⟩, _⟩ := h'
  obtain rfl := Option.some.inj (g_pow10.symm.trans hg2)
  obtain rfl := Option.some.inj (g_pow10_type.symm.trans ht2)
  rw [tab10_data] at hd2
  unfold TZ10 Lib.TabIs
  rw [hv2, ← Lib.cells_of_tab Tryz.underlying243 Tryz.underlying73 cells_u64 cells_tab10 hd2]
end Go.Proofs.YthgmebnihpjnoaaGreatDoor

/- A list of numbers among the arguments. -/
namespace Go.Proofs.YthgmebnihpjnoaaGreatDoor
open Go.ChangeShapes Go.WideShapes Go.ChangeAt Go.RowKit Mth Go.Deep

theorem cells_nat : Tryz.prog.cellsOf 23 = 1 := by kernel_rfl
theorem bulk_at {H : Type} (n : Nat) (D : Nat → DataW H) (j : Nat) (hj : j < n) : Rows.uptoBulk (D j) ≤ Rows.uptoBulkAll ((List.range n).map D) := bulk_mem (List.mem_map.2 ⟨j, List.mem_range.2 hj, rfl⟩)
theorem bulk_row {H : Type} (k : IntKind) (A : Option Addr) (L C : Nat) (zs : List Int) (hz : zs.length = C) (hLC : L ≤ C) (h0 : A = none → C = 0) : L ≤ Rows.uptoBulk (H := H) (intRow k A L zs) := by
  cases A with
  | none => have := h0 rfl; omega
  | some a =>
    simp only [intRow, Rows.uptoBulk, bulk_ints, List.length_take, List.length_drop]
    omega
theorem bulk_pos {H : Type} (k : IntKind) (A : Option Addr) (L : Nat) (zs : List Int) : 1 ≤ Rows.uptoBulk (H := H) (intRow k A L zs) := by
  cases A with
  | none => exact Nat.le_refl _
  | some a => simp only [intRow, Rows.uptoBulk]; omega
theorem bulk_many {H : Type} (n : Nat) (D : Nat → DataW H) (h : ∀ j, 1 ≤ Rows.uptoBulk (D j)) : n ≤ Rows.uptoBulkAll ((List.range n).map D) := by
  have key : ∀ l : List Nat, l.length ≤ Rows.uptoBulkAll (l.map D) := by
    intro l
    induction l with
    | nil => exact Nat.zero_le _
    | cons x r ih =>
      simp only [List.map_cons, Rows.uptoBulkAll, List.length_cons]
      have := h x
      omega
  have := key (List.range n)
  rwa [List.length_range] at this

/-- the numbers of one row -/
def rowN (L : Nat) (zs : List Int) : List Nat := (zs.take L).map Int.toNat
theorem rowN_len {L C : Nat} {zs : List Int} (hz : zs.length = C) (hLC : L ≤ C) : (rowN L zs).length = L := by
  unfold rowN; rw [List.length_map, List.length_take]; omega
theorem rowN_get (L : Nat) (zs : List Int) (j : Nat) : (rowN L zs).getD j 0 = if j < L then (zs.getD j 0).toNat else 0 := by
  unfold rowN
  simp only [List.getD_eq_getElem?_getD, List.getElem?_map, List.getElem?_take]
  split
  · cases zs[j]? <;> rfl
  · rfl

set_option maxRecDepth 100000 in
/-- a list of numbers among the arguments -/
theorem nats_arg {H : Type} {enc : TypeId × Value → H} {W : World} {base : Nat} {v : Value} {d : DataW H} {p : List MemPlace} (hval : Value.okWide Tryz.prog W .any base 203 v)
    (h : DataW.Trod enc Tryz.prog W 0 (fun _ => true) true 203 v d p) (hk : Rows.uptoBulk d ≤ 1048576) : ∃ xss : List (List Nat), NatList W v xss ∧ (∀ j, Lim B64 (xss.getD j [])) ∧ ∀ j, (xss.getD j []).length ≤ 1048576 := by
  obtain ⟨a0, len, cap, rfl⟩ := okWide_slice Tryz.underlying203 hval
  obtain ⟨fuel, hf⟩ := h
  rcases open_int_rows Tryz.underlying203 Tryz.underlying23 Tryz.underlying73 cells_nat cells_u64 hf with ⟨hcs, _⟩ | ⟨a, len', cap', A, L, C, Z, hcs, _, hl, hm, hx, hrow⟩
  · simp [Value.cells] at hcs
    obtain ⟨rfl, rfl, rfl⟩ := hcs
    exact ⟨[], ⟨none, 0, rfl, Nat.le_refl _, by unfold maxLen; omega, by simp, fun _ => rfl, fun h => by simp at h⟩, fun j => by simpa using lim_nil (by have := B64_pos; omega), by simp⟩
  · simp [Value.cells] at hcs
    obtain ⟨rfl, rfl, rfl⟩ := hcs
    simp only [Prod.mk.injEq] at hx
    obtain ⟨rfl, rfl⟩ := hx
    simp only [Rows.uptoBulk] at hk
    have hlen : len ≤ 1048576 := by
      have := bulk_many (H := H) len (fun r => intRow .u64 (A r) (L r) (Z r)) (fun j => bulk_pos _ _ _ _)
      omega
    have hLr : ∀ r, r < len → L r ≤ 1048576 := by
      intro r hr
      obtain ⟨_, r1, _, r3, _, r5, _⟩ := hrow r (by omega)
      have h1 := bulk_row (H := H) .u64 (A r) (L r) (C r) (Z r) r3 r1 r5
      have h2 := bulk_at len (fun r => intRow (H := H) .u64 (A r) (L r) (Z r)) r hr
      omega
    have hget : ∀ r, ((List.range len).map fun r => rowN (L r) (Z r)).getD r [] = if r < len then rowN (L r) (Z r) else [] := by
      intro r
      simp only [List.getD_eq_getElem?_getD, List.getElem?_map]
      split
      · rename_i h; rw [List.getElem?_eq_getElem (by simpa using h)]; simp
      · rename_i h; rw [List.getElem?_eq_none (by simpa using h)]; rfl
    have hwf : ∀ r, r < len → ∀ j, 0 ≤ (Z r).getD j 0 ∧ (Z r).getD j 0 ≤ 18446744073709551615 := by
      intro r hr j
      obtain ⟨_, _, _, _, r4, _⟩ := hrow r (by omega)
      have := range_u64 r4 j
      simpa [List.getD_eq_getElem?_getD] using this
    have hxl : ((List.range len).map fun r => rowN (L r) (Z r)).length = len := by simp
    refine ⟨(List.range len).map fun r => rowN (L r) (Z r), ⟨some a, cap, by rw [hxl], by omega, hm, by omega, fun e => by simp at e, fun hp => ?_⟩, fun j => ?_, fun j => ?_⟩
    · rw [hxl] at hp
      obtain ⟨b, off, spot⟩ := a
      have hspot : spot = none := by simpa [Addr.add] using World.cell?_spot (hrow 0 (by omega)).1
      subst hspot
      have hc : ∀ j, j < len → W.cell? ⟨b, off + j, none⟩ = some (.slice (A j) (L j) (C j)) := fun j hj => by rw [← Go.WideShapes.add_plain]; exact (hrow j (by omega)).1
      refine ⟨b, off, rfl, World.block_lt_of_cell? W _ (hc 0 hp), fun j hj => ⟨_, hc j (by omega), ?_⟩⟩
      have hjl : j < len := by omega
      rw [hget, if_pos hjl]
      obtain ⟨_, r1, r2, r3, _, r5, r6⟩ := hrow j (by omega)
      refine ⟨A j, C j, by rw [rowN_len r3 r1], by rw [rowN_len r3 r1]; exact r1, r2, by rw [rowN_len r3 r1]; have := hLr j hjl; omega, r5, fun hp2 => ?_⟩
      rw [rowN_len r3 r1] at hp2
      cases hA : A j with
      | none => have := r5 hA; omega
      | some a' =>
        obtain ⟨_, h6⟩ := r6 a' hA
        obtain ⟨b', off', rfl, hc'⟩ := ints_at (zs := Z j) (k := .u64) (fun i hi => h6 i (by omega)) (by omega)
        refine ⟨b', off', rfl, World.block_lt_of_cell? W _ (hc' 0 (by omega)), fun i hi => ?_⟩
        rw [rowN_len r3 r1] at hi
        rw [hc' i (by omega), rowN_get, if_pos hi, Int.toNat_of_nonneg (hwf j hjl i).1]
    · rw [hget]
      split
      · rename_i hj
        intro i
        rw [rowN_get]
        have := hwf j hj i
        unfold B64
        split <;> omega
      · exact lim_nil (by have := B64_pos; omega)
    · rw [hget]
      split
      · rename_i hj
        obtain ⟨_, r1, _, r3, _⟩ := hrow j (by omega)
        rw [rowN_len r3 r1]; exact hLr j hj
      · simp
end Go.Proofs.YthgmebnihpjnoaaGreatDoor

/- Whole numbers among the arguments: an Int. -/
namespace Go.Proofs.YthgmebnihpjnoaaGreatDoor
open Go.ChangeShapes Go.WideShapes Go.ChangeAt Go.RowKit Mth Go.Joins

/-- a list of limbs in a field -/
theorem nat_cell {H : Type} {enc : TypeId × Value → H} {W : World} {v : Value} {y : DataW H × List MemPlace} {fuel : Nat}
    (hf : DataW.trod enc Tryz.prog W 0 (fun _ => true) true fuel 23 [v] = some y) (hk : Rows.uptoBulk y.1 ≤ 1048576) : ∃ xs : List Nat, Sl W .u64 v xs ∧ Lim B64 xs ∧ xs.length ≤ 1048576 := by
  obtain ⟨d, p⟩ := y
  rcases open_ints Tryz.underlying23 Tryz.underlying73 cells_u64 hf with ⟨hcs, hx⟩ | ⟨a, len, cap, zs, hcs, _, hl, hm, hz, hx, hcell, hwz⟩
  · obtain rfl : v = .slice none 0 0 := by simpa using hcs
    exact ⟨[], sl_nil W _, lim_nil (by have := B64_pos; omega), by simp⟩
  · obtain rfl : v = .slice (some a) len cap := by simpa using hcs
    simp only [Prod.mk.injEq] at hx
    obtain ⟨rfl, rfl⟩ := hx
    simp only [if_true] at hz
    simp only [Rows.uptoBulk, bulk_ints, List.length_take, List.length_drop] at hk
    have hlen : len ≤ 1048576 := by omega
    have hget : ∀ j, ((zs.take len).map Int.toNat).getD j 0 = if j < len then (zs.getD j 0).toNat else 0 := by
      intro j
      simp only [List.getD_eq_getElem?_getD, List.getElem?_map, List.getElem?_take]
      split
      · cases zs[j]? <;> rfl
      · rfl
    have hwf : ∀ j, 0 ≤ zs.getD j 0 ∧ zs.getD j 0 ≤ 18446744073709551615 := by
      intro j
      have := range_u64 hwz j
      simpa [List.getD_eq_getElem?_getD] using this
    have hxl : ((zs.take len).map Int.toNat).length = len := by rw [List.length_map, List.length_take]; omega
    refine ⟨(zs.take len).map Int.toNat, ⟨some a, cap, by rw [hxl], by omega, hm, by omega, fun e => by simp at e, fun hp => ?_⟩, fun j => ?_, by omega⟩
    · obtain ⟨b, off, rfl, hc⟩ := ints_at hcell (by omega)
      refine ⟨b, off, rfl, World.block_lt_of_cell? W _ (hc 0 (by omega)), fun j hj => ?_⟩
      rw [hc j (by omega), hget, if_pos (by omega), Int.toNat_of_nonneg (hwf j).1]
    · rw [hget]
      have := hwf j
      unfold B64
      split <;> omega

theorem cells_int : Tryz.prog.cellsOf 25 = 2 := by kernel_rfl
set_option maxRecDepth 100000 in
/-- an Int among the arguments -/
theorem int_arg {H : Type} {enc : TypeId × Value → H} {W : World} {base : Nat} {v : Value} {d : DataW H} {p : List MemPlace} (hval : Value.okWide Tryz.prog W .any base 25 v)
    (h : DataW.Trod enc Tryz.prog W 0 (fun _ => true) true 25 v d p) (hk : Rows.uptoBulk d ≤ 1048576) : ∃ z : Int, IntV W v z := by
  obtain ⟨v0, v1, y0, y1, n, rfl, rfl, rfl, h0, h1⟩ := open_agg2 Tryz.underlying25 (by kernel_rfl) cells_int hval h
  obtain ⟨b, hb, _⟩ := DataW.trod_bool Tryz.underlying4 h0
  obtain rfl : v0 = .bool b := by simpa using hb
  have hk1 : Rows.uptoBulk y1.1 ≤ 1048576 := by
    have := bulk_mem (d := y1.1) (ds := [y0.1, y1.1]) (by simp)
    simp only [Rows.uptoBulk] at hk
    omega
  obtain ⟨xs, s, l, hl⟩ := nat_cell h1 hk1
  exact ⟨_, b, v1, xs, rfl, s, l, by omega, rfl⟩
end Go.Proofs.YthgmebnihpjnoaaGreatDoor
