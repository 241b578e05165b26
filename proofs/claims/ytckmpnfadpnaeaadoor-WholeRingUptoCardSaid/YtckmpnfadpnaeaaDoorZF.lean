/- append(a, make(n)...) on a row of the call's own; a stretch of a block that is written in place. -/
import Derived.Test.YtckmpnfadpnaeaaDoorZA
import Derived.Lib.AppendZeros
set_option linter.unusedVariables false
set_option linter.unusedSimpArgs false
namespace Go.Proofs.YtckmpnfadpnaeaaDoor
open Go.RowKit Mth

section
variable {P : Program} (w : World)
theorem zeros_sum (z : Array Value) (m n : Nat) : Builtin.zeroCells z m ++ Builtin.zeroCells z n = Builtin.zeroCells z (m + n) := by
  apply Array.ext
  · simp [Builtin.zeroCells, Nat.add_mul]
  · intro i h1 h2
    by_cases hz : z.size = 0
    · simp [Builtin.zeroCells, hz] at h2
    · rw [Array.getElem_append]
      split
      · simp [Builtin.zeroCells]
      · rename_i h
        simp only [Builtin.zeroCells, Array.size_map, Array.size_range] at h
        simp only [Builtin.zeroCells, Array.getElem_map, Array.getElem_range, Array.size_map, Array.size_range]
        congr 1
        obtain ⟨j, rfl⟩ : ∃ j, i = m * z.size + j := ⟨i - m * z.size, by omega⟩
        rw [Nat.add_sub_cancel_left, Nat.mul_comm m, Nat.mul_add_mod]
theorem run_append_room_zeros (t tn ty e : TypeId) (i : TypeInfo) (z : Value) (kn : IntKind) (ht : P.underlying t = some (.slice e)) (htn : P.underlying tn = some (.int kn)) (hi : P.info? e = some i) (hz : i.zero = some z) (hzs : z.cells.size = i.size)
    (hz1 : ∀ v ∈ z.cells, v.oneCell' = true) (g sLen sCap : Nat) (cur : Array Value) (hg : w.heap[g]? = some (.cells cur e (0, 0))) (n : Nat) (h0 : 0 < n) (hs : 0 < i.size) (h63 : (n : Int) ≤ 9223372036854775807) (h48 : n * i.bytes ≤ 281474976710656)
    (hroom : sLen + n ≤ sCap) (hfit : sLen * i.size + n * i.size ≤ cur.size) :
    (Builtin.append_ #[t, tn] ty #[.slice (some ⟨g, 0, none⟩) sLen sCap, .int .i64 n]).run P w =
      .ok (.slice (some ⟨g, 0, none⟩) (sLen + n) sCap) (w.setRow g (cur.toList.take (sLen * i.size) ++ (Builtin.zeroCells z.cells n).toList ++ cur.toList.drop (sLen * i.size + (Builtin.zeroCells z.cells n).toList.length)).toArray) := by
  have hn : n ≠ 0 := by omega
  have hw : IntKind.i64.wrap (n : Int) = n := by rw [IntKind.wrap_i64]; omega
  have h48i : ¬ (281474976710656 < (n : Int) * (i.bytes : Int)) := by
    rw [← Int.natCast_mul]
    omega
  have hneg : ¬ ((n : Int) < 0) := by omega
  have hns : ¬ (n * i.size = 0) := Nat.mul_ne_zero hn (by omega)
  have hl : (Builtin.zeroCells z.cells n).toList.length = n * i.size := by rw [Array.length_toList, size_zeroCells, hzs]
  have hst := run_storeCells_at P g (sLen * i.size) e (Builtin.zeroCells z.cells n).toList 0 cur w hg (by rw [hl]; omega) (by
    intro v hv
    simp only [Builtin.zeroCells, Array.toList_map, List.mem_map] at hv
    obtain ⟨j, _, rfl⟩ := hv
    refine hz1 _ ?_
    have hlt : j % z.cells.size < z.cells.size := Nat.mod_lt _ (by omega)
    rw [getElem!_pos z.cells _ hlt]
    exact Array.getElem_mem hlt)
  simp only [Nat.add_zero] at hst
  simp [Builtin.append_, run_underlying ht, run_underlying htn, sizeOf, typeInfo, zeroValue, hi, hz, asInt, asIntOf, hw, hn, hneg, hns, h48i, hroom, Addr.add_lit, hst]
theorem run_append_grow_zeros (t tn ty e : TypeId) (i : TypeInfo) (z : Value) (kn : IntKind) (ht : P.underlying t = some (.slice e)) (htn : P.underlying tn = some (.int kn)) (hi : P.info? e = some i) (hz : i.zero = some z)
    (b : Addr) (sLen sCap : Nat) (olds : List Value) (hlo : olds.length = sLen * i.size) (holds : ∀ j v, olds[j]? = some v → w.cell? (b.add j) = some v) (n : Nat) (h0 : 0 < n) (hs : 0 < i.size)
    (hg : sCap < sLen + n) (h63 : ((sLen + n : Nat) : Int) ≤ 9223372036854775807) (h48 : n * i.bytes ≤ 281474976710656) (hfit : Builtin.nextslicecap (sLen + n) sCap * i.bytes ≤ 281474976710656) :
    (Builtin.append_ #[t, tn] ty #[.slice (some b) sLen sCap, .int .i64 n]).run P w =
      .ok (.slice (some ⟨w.heap.size, 0, none⟩) (sLen + n) (grownCap w (sLen + n) sCap e))
        (w.drew.alloc (.cells (olds.toArray ++ Builtin.zeroCells z.cells n ++ Builtin.zeroCells z.cells (grownCap w (sLen + n) sCap e - (sLen + n))) e)) := by
  have hn : n ≠ 0 := by omega
  have hw : IntKind.i64.wrap (n : Int) = n := by rw [IntKind.wrap_i64]; omega
  have hnr : ¬ (sLen + n ≤ sCap) := by omega
  have h63' : ¬ (9223372036854775807 < ((sLen : Int) + (n : Int))) := by omega
  have h48' : ¬ (281474976710656 < Builtin.nextslicecap (sLen + n) sCap * i.bytes) := by omega
  have h48i : ¬ (281474976710656 < (n : Int) * (i.bytes : Int)) := by
    rw [← Int.natCast_mul]
    omega
  have hneg : ¬ ((n : Int) < 0) := by omega
  have hns : ¬ (n * i.size = 0) := Nat.mul_ne_zero hn (by omega)
  have hfo := run_firstCells_some (P := P) w.drew i.size sLen b sLen sCap olds hlo (by simpa using holds)
  simp [Builtin.append_, run_underlying ht, run_underlying htn, sizeOf, typeInfo, zeroValue, hi, hz, asInt, asIntOf, hw, hn, hneg, hns, h48i, hnr, h63', h48', Question.forced, hfo, newRow, grownCap]
end

theorem zero_cells (n : Nat) : (Builtin.zeroCells (Value.int .u64 0).cells n).toList = cellsOf .u64 (List.replicate n 0) := by
  apply List.ext_getElem
  · simp [Builtin.zeroCells, cellsOf, Value.cells]
  · intro i h1 h2
    simp [Builtin.zeroCells, cellsOf, Value.cells]
    have : i % 1 = 0 := Nat.mod_one i
    simp [this]
theorem grown_zeros {w : World} {xs : List Nat} {old n base : Nat} (hx : xs.length + n ≤ 16777217) (hbase : base ≤ w.heap.size) :
    (w.drew.alloc (.cells ((cellsOf .u64 xs).toArray ++ Builtin.zeroCells (Value.int .u64 0).cells n ++ Builtin.zeroCells (Value.int .u64 0).cells (grownCap w (xs.length + n) old 65 - (xs.length + n))) 65)).ownsRow base 65 1
      (.slice (some ⟨w.heap.size, 0, none⟩) (xs.length + n) (grownCap w (xs.length + n) old 65)) (xs ++ List.replicate n 0).length (cellsOf .u64 (xs ++ List.replicate n 0)) ∧
    ∀ row, w.grownBy (w.drew.alloc (.cells ((cellsOf .u64 xs).toArray ++ Builtin.zeroCells (Value.int .u64 0).cells n ++ Builtin.zeroCells (Value.int .u64 0).cells (grownCap w (xs.length + n) old 65 - (xs.length + n))) 65)) row := by
  have hge := grownCap_ge w (xs.length + n) old 65
  have hcm := grownCap_le_maxLen w (xs.length + n) old 65 (by unfold maxLen; omega)
  have hl : (xs ++ List.replicate n 0).length = xs.length + n := by simp
  refine ⟨⟨by rw [length_cellsOf, Nat.mul_one], .inr ⟨w.heap.size, _, _, by rw [hl], hbase, heap_alloc_new w.drew _, by rw [hl]; exact hge, hcm, ?_, ?_⟩⟩, fun row => ⟨rfl, rfl, rfl, by simp, fun k hk _ => heap_alloc_old w.drew _ hk⟩⟩
  · simp only [Array.size_append, List.size_toArray, size_zeroCells, length_cellsOf, Value.cells]
    simp
    omega
  · simp only [Array.toList_append, zero_cells, cellsOf_append, List.append_assoc]
    rw [← List.append_assoc, ← cellsOf_append]
    have e : (xs ++ List.replicate n 0).length * 1 = (cellsOf .u64 (xs ++ List.replicate n 0)).length := by rw [length_cellsOf, Nat.mul_one]
    rw [e]
    exact List.take_left
theorem append_zeros {w : World} {ops : Array Oper} {rest : List Oper} {o : Oper} {a : Act} {Q : Exit → Act → World → Prop} (hgd : o.guard = none) (s x : Operand)
    (ho : o.op = .call { callee := .builtin .append, args := #[s, x], argTypes := #[52, 3] }) (base : Nat) (v : Value) (xs : List Nat) (n : Nat)
    (hs : a.eval s = v) (hx : a.eval x = .int .i64 (n : Int)) (hown : w.ownsRow base 65 1 v xs.length (cellsOf .u64 xs)) (h0 : 0 < n) (hlen : xs.length + n ≤ 16777217) (hbase : base ≤ w.heap.size)
    (h : ∀ v' w', w'.ownsRow base 65 1 v' (xs ++ List.replicate n 0).length (cellsOf .u64 (xs ++ List.replicate n 0)) → w.grownBy w' v.ownBlock → (v'.ownBlock = v.ownBlock ∨ v'.ownBlock = some w.heap.size) → wpList Tryd.prog ops Q rest (a.put o.dst v') w') : wpList Tryd.prog ops Q (o :: rest) a w := by
  obtain ⟨i0, hi, hz0, hz1, hz2⟩ := info_parts info_u64
  have hl : (xs ++ List.replicate n 0).length = xs.length + n := by simp
  rcases hown.2 with ⟨rfl, h1⟩ | ⟨g, cap, cur, rfl, hbg, hg, hnc, hcm, hcs, htake⟩
  · obtain rfl : xs = [] := List.eq_nil_of_length_eq_zero h1
    have hr := Lib.run_append_nil_zeros (P := Tryd.prog) w 52 3 o.type 65 i0 _ .i64 .i64 Tryd.underlying52 Tryd.underlying3 hi hz0 n h0 (by omega) (by omega) (by rw [hz2]; omega)
    refine Lib.wpList_append_run w hgd s x _ _ ho _ _ hs hx _ _ hr ?_
    have hgr := grown_zeros (w := w) (xs := []) (old := 0) (n := n) (base := base) (by simpa using hlen) hbase
    simp only [List.nil_append, cellsOf, List.map_nil, List.length_nil, Nat.zero_add, Array.empty_append, List.length_replicate] at hgr
    refine h _ _ ?_ (hgr.2 _) (.inr rfl)
    simp only [List.nil_append, cellsOf, List.length_replicate]
    exact hgr.1
  · by_cases hroom : xs.length + n ≤ cap
    · have hr := run_append_room_zeros (P := Tryd.prog) w 52 3 o.type 65 i0 _ .i64 Tryd.underlying52 Tryd.underlying3 hi hz0 (by rw [hz1]; rfl) (by intro v hv; simp [Value.cells] at hv; subst hv; rfl) g xs.length cap cur hg n h0 (by omega) (by omega) (by rw [hz2]; omega) hroom (by rw [hz1]; omega)
      refine Lib.wpList_append_run w hgd s x _ _ ho _ _ hs hx _ _ hr ?_
      rw [zero_cells, hz1]
      refine h _ _ ⟨by rw [length_cellsOf, Nat.mul_one], .inr ⟨g, cap, _, by rw [hl], hbg, setRow_heap w g cur _ 65 _ hg, by rw [hl]; exact hroom, hcm, ?_, ?_⟩⟩ ⟨rfl, rfl, rfl, by simp, fun k _ hk => setRow_other w g k _ (fun e => hk (by simp [Value.ownBlock, e]))⟩ (.inl rfl)
      · simp only [List.size_toArray, List.length_append, List.length_take, List.length_drop, Array.length_toList, length_cellsOf, List.length_replicate]
        omega
      · rw [htake, cellsOf_append, hl]
        have e : (xs.length + n) * 1 = (cellsOf .u64 xs ++ cellsOf .u64 (List.replicate n 0)).length := by rw [List.length_append, length_cellsOf, length_cellsOf, List.length_replicate, Nat.mul_one]
        rw [e]
        exact List.take_left
    · have holds : ∀ j u, (cellsOf .u64 xs)[j]? = some u → w.cell? ((⟨g, 0, none⟩ : Addr).add j) = some u := hown.cells (g := g) rfl
      have hr := run_append_grow_zeros (P := Tryd.prog) w 52 3 o.type 65 i0 _ .i64 Tryd.underlying52 Tryd.underlying3 hi hz0 ⟨g, 0, none⟩ xs.length cap (cellsOf .u64 xs) (by rw [length_cellsOf, hz1, Nat.mul_one]) holds n h0 (by omega) (by omega) (by omega) (by rw [hz2]; omega) (by rw [hz2]; exact growslice_fits (by omega) (by omega))
      refine Lib.wpList_append_run w hgd s x _ _ ho _ _ hs hx _ _ hr ?_
      have hgr := grown_zeros (w := w) (xs := xs) (old := cap) (n := n) (base := base) hlen hbase
      exact h _ _ hgr.1 (hgr.2 _) (.inr rfl)

/-- a stretch of limbs in the midst of a block -/
def Mid (w : World) (g : Nat) (pre : List Value) (xs : List Nat) (post : List Value) : Prop := w.heap[g]? = some (.cells (pre ++ cellsOf .u64 xs ++ post).toArray 65 (0, 0))
theorem Mid.cell {w : World} {g : Nat} {pre post : List Value} {xs : List Nat} (h : Mid w g pre xs post) {j : Nat} (hj : j < xs.length) : w.cell? ⟨g, pre.length + j, none⟩ = some (.int .u64 ((xs.getD j 0 : Nat) : Int)) := by
  rw [cell_of_row w g _ _ _ (0, 0) h]
  have h1 := cellsOf_get .u64 xs j hj
  simp only [List.getElem?_toArray, List.append_assoc]
  rw [List.getElem?_append_right (by omega), Nat.add_sub_cancel_left, List.getElem?_append_left (by rw [length_cellsOf]; exact hj)]
  exact h1
theorem Mid.free {w : World} {g : Nat} {pre post : List Value} {xs : List Nat} (h : Mid w g pre xs post) (j : Nat) : w.frozen? ⟨g, j, none⟩ = false := frozen_of_row w g j _ _ h
theorem Mid.set {w : World} {g : Nat} {pre post : List Value} {xs : List Nat} (h : Mid w g pre xs post) {j : Nat} (hj : j < xs.length) (x : Nat) :
    Mid (w.setCell ⟨g, pre.length + j, none⟩ (.int .u64 ((x : Nat) : Int))) g pre (xs.set j x) post ∧ w.grownBy (w.setCell ⟨g, pre.length + j, none⟩ (.int .u64 ((x : Nat) : Int))) (some g) := by
  refine ⟨?_, ⟨rfl, rfl, rfl, by simp, fun i _ hk => heap_setCell_other w ⟨g, _, none⟩ i _ (fun e => hk (by simp [e]))⟩⟩
  unfold Mid
  rw [heap_setCell_same w g _ _ _ _ h, List.setIfInBounds_toArray]
  congr 3
  rw [List.append_assoc, List.set_append_right _ _ (by omega), Nat.add_sub_cancel_left, List.set_append_left _ _ (by rw [length_cellsOf]; exact hj), cellsOf_set, List.append_assoc]
theorem Mid.lt {w : World} {g : Nat} {pre post : List Value} {xs : List Nat} (h : Mid w g pre xs post) : g < w.heap.size := (Array.getElem?_eq_some_iff.1 h).1
/-- a row of the call's own, as a stretch -/
theorem mid_own {w : World} {base : Nat} {v : Value} {xs : List Nat} (h : w.ownsRow base 65 1 v xs.length (cellsOf .u64 xs)) (hp : 0 < xs.length) :
    ∃ g cap post, v = .slice (some ⟨g, 0, none⟩) xs.length cap ∧ base ≤ g ∧ xs.length ≤ cap ∧ cap ≤ maxLen ∧ Mid w g [] xs post ∧ xs.length + post.length = cap := by
  rcases h.2 with ⟨rfl, h0⟩ | ⟨g, cap, cur, rfl, hb, hg, hnc, hcm, hcs, htake⟩
  · omega
  · rw [Nat.mul_one] at htake hcs
    refine ⟨g, cap, cur.toList.drop xs.length, rfl, hb, hnc, hcm, ?_, by rw [List.length_drop]; simp only [Array.length_toList]; omega⟩
    unfold Mid
    rw [hg, List.nil_append, ← htake, List.take_append_drop]
theorem own_mid {w : World} {base g cap : Nat} {xs : List Nat} {post : List Value} (h : Mid w g [] xs post) (hb : base ≤ g) (hc : xs.length ≤ cap) (hm : cap ≤ maxLen) (hs : xs.length + post.length = cap) : w.ownsRow base 65 1 (.slice (some ⟨g, 0, none⟩) xs.length cap) xs.length (cellsOf .u64 xs) := by
  refine ⟨by rw [length_cellsOf, Nat.mul_one], .inr ⟨g, cap, _, rfl, hb, h, hc, hm, by simp [length_cellsOf]; omega, ?_⟩⟩
  rw [Nat.mul_one, List.nil_append]
  have e : xs.length = (cellsOf .u64 xs).length := (length_cellsOf _ _).symm
  conv => lhs; rw [e]
  exact List.take_left
end Go.Proofs.YtckmpnfadpnaeaaDoor
