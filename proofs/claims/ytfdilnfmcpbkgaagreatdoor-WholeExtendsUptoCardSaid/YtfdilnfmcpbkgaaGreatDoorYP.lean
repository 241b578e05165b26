/- tribunalref02: Text, Print. -/
import Derived.Test.YtfdilnfmcpbkgaaGreatDoorYL
import Derived.Test.YtfdilnfmcpbkgaaGreatDoorPrMath
import Derived.Test.YtfdilnfmcpbkgaaGreatDoorZR
import Derived.Laws.IdiomStrings
set_option linter.unusedVariables false
set_option linter.unusedSimpArgs false
namespace Go.Proofs.YtfdilnfmcpbkgaaGreatDoor
open Go.RowKit Mth

def cellNat16 (w : World) (b off j : Nat) : Nat := match w.cell? ⟨b, off + j, none⟩ with | some (.int _ z) => z.toNat | _ => 0
def numIn16 (w : World) : Value → Nat
  | .slice (some a) n _ => val B16 ((List.range n).map (cellNat16 w a.block a.off))
  | _ => 0
theorem numIn16_eq {w : World} {v : Value} {xs : List Nat} (h : Sl w .u16 v xs) : numIn16 w v = val B16 xs := by
  obtain ⟨ao, cap, rfl, h1, h2, h3, h4, h5⟩ := h
  by_cases hp : 0 < xs.length
  · obtain ⟨b, off, rfl, hb, hc⟩ := h5 hp
    have e : (List.range xs.length).map (cellNat16 w b off) = xs := by
      apply List.ext_getElem
      · simp
      · intro j hj1 hj2
        simp only [List.getElem_map, List.getElem_range, cellNat16]
        rw [hc j hj2]
        simp [List.getD_eq_getElem?_getD, hj2]
    show val B16 ((List.range xs.length).map (cellNat16 w b off)) = _
    rw [e]
  · have : xs = [] := List.eq_nil_of_length_eq_zero (by omega)
    subst this
    cases ao <;> rfl
theorem numIn16_num {w : World} {v : Value} {n : Nat} (h : QNum w v n) : numIn16 w v = n := by
  obtain ⟨xs, s, _, _, rfl⟩ := h
  exact numIn16_eq s
/-- a number of one digit at most -/
theorem qone {w : World} {v : Value} {m : Nat} (h : QNum w v m) (hm : m < 65536) : (m = 0 ∧ ∃ ao c, v = .slice ao 0 c) ∨ (m ≠ 0 ∧ ∃ b off c, v = .slice (some ⟨b, off, none⟩) 1 c ∧ w.cell? ⟨b, off, none⟩ = some (.int .u16 (m : Int))) := by
  obtain ⟨ys, s, l, t, rfl⟩ := h
  have hl := length_of_val B16_pos t 1 (by unfold B16 at *; simpa using hm)
  match ys, hl, s, t with
  | [], _, s, _ =>
    obtain ⟨ao, c, rfl⟩ := s.shape
    exact .inl ⟨rfl, ao, c, rfl⟩
  | [y], _, s, t =>
    obtain ⟨b, off, c, rfl, _, _, _, hc⟩ := s.pos (by simp)
    have hv : val B16 [y] = y := by simp [val]
    refine .inr ⟨?_, b, off, c, rfl, ?_⟩
    · have := val_ge_top (B := B16) t (by simp)
      simp at this
      omega
    · rw [hv]; simpa using hc 0 (by simp)
theorem qlen_lit (w : World) (y : Nat) (hy : y < 65536) (h0 : y ≠ 0) : QLen (w.alloc (Obj.cells #[Value.int .u16 ((y : Nat) : Int)] 90)) (.slice (some ⟨w.heap.size, 0, none⟩) 1 1) y := by
  have hrow : Row (w.alloc (Obj.cells #[Value.int .u16 ((y : Nat) : Int)] 90)) 90 .u16 w.heap.size [y] := heap_alloc_new w _
  have hsl := hrow.sl_all (by simp)
  refine ⟨[y], hsl, lim_cons.2 ⟨hy, lim_nil (by have := B16_pos; omega)⟩, ?_, by simp [val], by simp⟩
  simp [Top, tlen, h0]
theorem cat_lists (A S : List Nat) : (⟨(toBytes A).toArray⟩ : ByteArray) ++ ⟨(toBytes S).toArray⟩ = ⟨(toBytes (A ++ S)).toArray⟩ := by
  apply ByteArray.ext
  simp [toBytes]
theorem u8_int {q : Nat} (h : q < 256) : (((q : Nat).toUInt8).toNat : Int) = (q : Int) := by
  rw [Nat.toUInt8, UInt8.toNat_ofNat']; omega
theorem one_byte {w : World} {g : Nat} {cs : Array Value} {q j : Nat} (hw : w.heap[g]? = some (.cells cs 5 (0, 0))) (hc : cs[j]? = some (.int .u8 (q : Int))) (hq : q < 256) : w.cell? (Addr.add ⟨g, 0, none⟩ j) = some (.int .u8 (((q : Nat).toUInt8).toNat : Int)) := by
  rw [Addr.add_lit, Nat.zero_add, cell_of_row _ g j _ _ (0, 0) hw, hc, u8_int hq]
/-- string([]byte{..}) of four bytes -/
theorem four_string (w : World) (d0 d1 d2 d3 : Int) (q0 q1 q2 q3 : Nat) (e0 : d0 = (q0 : Int)) (e1 : d1 = (q1 : Int)) (e2 : d2 = (q2 : Int)) (e3 : d3 = (q3 : Int)) (h0 : q0 < 256) (h1 : q1 < 256) (h2 : q2 < 256) (h3 : q3 < 256) :
    (convert 139 9 (.slice (some ⟨w.heap.size, 0, none⟩) 4 4)).run Tryz.prog (w.alloc (Obj.cells #[Value.int .u8 d0, Value.int .u8 d1, Value.int .u8 d2, Value.int .u8 d3] 5)) =
      .ok (.string ⟨(toBytes [q0, q1, q2, q3]).toArray⟩) (w.alloc (Obj.cells #[Value.int .u8 d0, Value.int .u8 d1, Value.int .u8 d2, Value.int .u8 d3] 5)) := by
  subst e0 e1 e2 e3
  refine run_convert_bytes_back _ 139 9 5 ⟨w.heap.size, 0, none⟩ 4 (toBytes [q0, q1, q2, q3]) Tryz.underlying139 Tryz.underlying5 Tryz.underlying9 ?_
  have hw := heap_alloc_new w (Obj.cells #[Value.int .u8 (q0 : Int), Value.int .u8 (q1 : Int), Value.int .u8 (q2 : Int), Value.int .u8 (q3 : Int)] 5)
  intro j hj
  match j, hj with
  | 0, _ => exact one_byte hw rfl h0
  | 1, _ => exact one_byte hw rfl h1
  | 2, _ => exact one_byte hw rfl h2
  | 3, _ => exact one_byte hw rfl h3
  | j + 4, hj => exact absurd hj (by rw [length_toBytes]; simp)
theorem four_q4 (w : World) (m : Nat) (hm : m < 10000) :
    (convert 139 9 (.slice (some ⟨w.heap.size, 0, none⟩) 4 4)).run Tryz.prog (w.alloc (Obj.cells #[Value.int .u8 (48 + (m : Int) / 1000), Value.int .u8 (48 + (m : Int) / 100 % 10), Value.int .u8 (48 + (m : Int) / 10 % 10), Value.int .u8 (48 + (m : Int) % 10)] 5)) =
      .ok (.string ⟨(toBytes (q4 m)).toArray⟩) (w.alloc (Obj.cells #[Value.int .u8 (48 + (m : Int) / 1000), Value.int .u8 (48 + (m : Int) / 100 % 10), Value.int .u8 (48 + (m : Int) / 10 % 10), Value.int .u8 (48 + (m : Int) % 10)] 5)) :=
  four_string w _ _ _ _ (48 + m / 1000) (48 + m / 100 % 10) (48 + m / 10 % 10) (48 + m % 10) (by omega) (by omega) (by omega) (by omega) (by omega) (by omega) (by omega) (by omega)
theorem four_q0 (w : World) :
    (convert 139 9 (.slice (some ⟨w.heap.size, 0, none⟩) 4 4)).run Tryz.prog (w.alloc (Obj.cells #[Value.int .u8 48, Value.int .u8 48, Value.int .u8 48, Value.int .u8 48] 5)) =
      .ok (.string ⟨(toBytes (q4 0)).toArray⟩) (w.alloc (Obj.cells #[Value.int .u8 48, Value.int .u8 48, Value.int .u8 48, Value.int .u8 48] 5)) :=
  four_string w 48 48 48 48 48 48 48 48 rfl rfl rfl rfl (by omega) (by omega) (by omega) (by omega)
theorem sgn_ge {z : Int} (h : sgn z = false) : 0 ≤ z := by
  rcases Int.lt_or_le z 0 with h2 | h2
  · rw [sgn_neg h2] at h; cases h
  · exact h2
def strLen : Value → Nat
  | .string s => s.size
  | _ => 0
theorem cut_first (d : Nat) (U : List Nat) : (⟨(toBytes (d :: U)).toArray⟩ : ByteArray).extract 1 (U.length + 1) = ⟨(toBytes U).toArray⟩ := by
  apply ByteArray.ext
  rw [ByteArray.data_extract]
  apply Array.ext'
  simp [toBytes]
  exact List.take_of_length_le (by simp)
theorem first_byte (d : Nat) (hd : d < 256) (U : List Nat) (w : World) : (Instr.index 9 (.string ⟨(toBytes (d :: U)).toArray⟩) (.int .i64 0)).run Tryz.prog w = .ok (.int .u8 (d : Int)) w := by
  have h : (Instr.index 9 (.string ⟨(toBytes (d :: U)).toArray⟩) (.int .i64 0)).run Tryz.prog w = .ok (.int .u8 ((d.toUInt8).toNat : Int)) w := by kernel_rfl
  rw [h, u8_int hd]

/-- what Text's first loop holds -/
def TxZ (w wr : World) (N : Nat) (sv dv : Value) : Prop := ∃ (n : Nat) (S : List Nat), QNum wr dv n ∧ sv = .string ⟨(toBytes S).toArray⟩ ∧ TzI N n S ∧ Below w.heap.size w wr
def TxY (w wr : World) (N : Nat) (sv : Value) : Prop := ∃ S : List Nat, sv = .string ⟨(toBytes S).toArray⟩ ∧ TzJ N S ∧ S.length ≤ 100000 ∧ Below w.heap.size w wr

set_option maxRecDepth 100000 in
theorem longZ_any (v : Value) (z : Int) (w : World) (h : ZV w v z) : Calls Tryz.prog 26 #[v] w fun e w' => e = .returned (.bool (decide (Big ≤ z.natAbs))) ∧ Below w.heap.size w w' := by
  obtain ⟨n, ao, k, c, rfl⟩ := h.shape
  have hl := h.long
  have E : Hid (decide ((16384 : Int) < (k : Int)) = decide (Big ≤ z.natAbs)) := Lib.hid (by
    by_cases hb : Big ≤ z.natAbs
    · rw [decide_eq_true hb, decide_eq_true (by have := hl.2 hb; omega)]
    · rw [decide_eq_false hb, decide_eq_false (fun h => hb (hl.1 (by omega)))])
  clear h hl
  go_enter Tryz.func26, Tryz.ntmps26
  go_wp2
  go_ret
  exact ⟨by rw [← E.out]; rfl, (Below.refl _ _).alloc (Nat.le_refl _) _⟩

end Go.Proofs.YtfdilnfmcpbkgaaGreatDoor
