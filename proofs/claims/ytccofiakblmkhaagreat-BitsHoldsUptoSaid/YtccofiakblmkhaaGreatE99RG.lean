/- bits: what is no order. -/
import Derived.Test.YtccofiakblmkhaaGreatE9N7
import Derived.Test.YtccofiakblmkhaaGreatE9N3
set_option linter.unusedVariables false
set_option linter.unusedSimpArgs false
namespace Go.Proofs.YtccofiakblmkhaaGreat
open Go.RowKit Mth

theorem ordRow_len (k : Nat) : (ordRow k).length = 2 := by
  unfold ordRow
  split <;> rfl
theorem ordTab_none (k : Nat) (hk : k < 68) : ordTab[k * 2]? = some .nilFunc ∧ ordTab[k * 2 + 1]? = some .nilFunc := by
  have hrow : ordRow k = [.nilFunc, .nilFunc] := by
    unfold ordRow
    rw [if_pos hk]
  have h := fun i (hi : i < 2) => flat_row ordRow ordRow_len 76 k i (by omega) hi
  rw [hrow] at h
  unfold ordTab
  simp only [List.getElem?_toArray]
  exact ⟨h 0 (by omega), h 1 (by omega)⟩
set_option maxHeartbeats 16000000 in
set_option maxRecDepth 100000 in
theorem orderOf_low (k : Nat) (hk : k < 68) (w : World) :
    Calls Tryz.prog 58 #[.int .i64 (k : Int)] w fun e w' => e = .returned (.tuple #[.agg #[.nilFunc, .nilFunc], .bool false]) ∧ Below w.heap.size w w' := by
  obtain ⟨W, eW, gW, bW, hWs⟩ := alloc1 w (Obj.cells #[.nilFunc, .nilFunc] 103)
  have OP := Lib.hid (orders_any W)
  have GW : Hid (W.heap[w.heap.size]? = _) := Lib.hid gW
  have BW := Lib.hid bW
  have hT := ordTab_size
  have hsf : ∀ (a : Addr) (W : World) m, Sem.run Tryz.prog (store a .nilFunc m) W = stored Tryz.prog W a .nilFunc m := fun a W m => run_store Tryz.prog W a _ m rfl
  have hbn : ∀ W, Sem.run Tryz.prog (binOp BinOp.neq 66 Value.nilFunc Value.nilFunc) W = .ok (.bool false) W := fun W => by kernel_rfl
  have HT := Lib.hid (ordTab_none k hk)
  clear gW bW
  have EW := Lib.hid eW
  clear eW
  go_enter Tryz.func58, Tryz.ntmps58
  go_wp2_with fail
  rw [EW.out]
  refine OP.out.mono ?_
  rintro e w1 ⟨rfl, hb1⟩
  have HB1 := Lib.hid hb1
  have G1 := Lib.hid ((hb1.block _ hWs).trans GW.out)
  clear hb1 OP
  go_wp2_with fail
  refine upon_storeBig (tab := ordTab) rfl ordTab_list info_ords zero_ords ordTab_one ?_
  obtain ⟨V, eV, gV, bV, hVs⟩ := alloc1 w1 (Obj.cells ordTab 143)
  rw [eV]
  have hc : ∀ j, V.cell? ⟨w1.heap.size, j, none⟩ = ordTab[j]? := fun j => cell_of_row V w1.heap.size j _ _ (0, 0) gV
  have c0 := (hc _).trans HT.out.1; have c1 := (hc _).trans HT.out.2
  have G5 := Lib.hid (bV.block _ (by have := HB1.out.size; omega) |>.trans G1.out)
  obtain ⟨y0, y1, f0, f1', _⟩ := blk2 G5.out
  have BV := Lib.hid (below_of BW.out (below_of HB1.out bV))
  have hl1 : w.heap.size < w1.heap.size := Nat.lt_of_lt_of_le hWs HB1.out.size
  have hn1 : w1.heap.size ≠ w.heap.size := by omega
  have hn2 : w.heap.size ≠ w1.heap.size := by omega
  clear hc
  go_wp2_with fail
  go_region_with fail
  all_goals
    go_wp2
    refine bodyPost_ret (v := .tuple #[.agg #[.nilFunc, .nilFunc], .bool false]) ?_ rfl ⟨rfl, ?_⟩
    · exact results_or rfl rfl rfl (set2_row _ _ G5.out)
    · exact ((BV.out.setCell (Nat.le_refl _) _).setCell (Nat.le_refl _) _).drew
set_option maxHeartbeats 16000000 in
set_option maxRecDepth 100000 in
theorem orderOf_out (kk : Int) (hk : kk < 0 ∨ 76 ≤ kk) (w : World) :
    Calls Tryz.prog 58 #[.int .i64 kk] w fun e w' => e = .returned (.tuple #[.agg #[.nilFunc, .nilFunc], .bool false]) ∧ Below w.heap.size w w' := by
  obtain ⟨W, eW, gW, bW, hWs⟩ := alloc1 w (Obj.cells #[.nilFunc, .nilFunc] 103)
  have OP := Lib.hid (orders_any W)
  have GW : Hid (W.heap[w.heap.size]? = _) := Lib.hid gW
  have BW := Lib.hid bW
  have hT := ordTab_size
  have hsf : ∀ (a : Addr) (W : World) m, Sem.run Tryz.prog (store a .nilFunc m) W = stored Tryz.prog W a .nilFunc m := fun a W m => run_store Tryz.prog W a _ m rfl
  clear gW bW
  have EW := Lib.hid eW
  clear eW
  rcases hk with hk | hk
  all_goals
    go_enter Tryz.func58, Tryz.ntmps58
    go_wp2_with fail
    rw [EW.out]
    refine OP.out.mono ?_
    rintro e w1 ⟨rfl, hb1⟩
    have HB1 := Lib.hid hb1
    have G1 := Lib.hid ((hb1.block _ hWs).trans GW.out)
    clear hb1 OP
    go_wp2_with fail
    refine upon_storeBig (tab := ordTab) rfl ordTab_list info_ords zero_ords ordTab_one ?_
    obtain ⟨V, eV, gV, bV, hVs⟩ := alloc1 w1 (Obj.cells ordTab 143)
    rw [eV]
    have G5 := Lib.hid (bV.block _ (by have := HB1.out.size; omega) |>.trans G1.out)
    obtain ⟨y0, y1, f0, f1', _⟩ := blk2 G5.out
    have BV := Lib.hid (below_of BW.out (below_of HB1.out bV))
    have hl1 : w.heap.size < w1.heap.size := Nat.lt_of_lt_of_le hWs HB1.out.size
    have hn1 : w1.heap.size ≠ w.heap.size := by omega
    have hn2 : w.heap.size ≠ w1.heap.size := by omega
    go_wp2
    refine bodyPost_ret (v := .tuple #[.agg #[.nilFunc, .nilFunc], .bool false]) ?_ rfl ⟨rfl, ?_⟩
    · exact results_or rfl rfl rfl (set2_row _ _ G5.out)
    · exact (BV.out.setCell (Nat.le_refl _) _).setCell (Nat.le_refl _) _
theorem orderOf_none (kk : Int) (hk : kk < 68 ∨ 75 < kk) (w : World) :
    Calls Tryz.prog 58 #[.int .i64 kk] w fun e w' => e = .returned (.tuple #[.agg #[.nilFunc, .nilFunc], .bool false]) ∧ Below w.heap.size w w' := by
  by_cases h : kk < 0 ∨ 76 ≤ kk
  · exact orderOf_out kk h w
  · obtain ⟨k, rfl⟩ := Int.eq_ofNat_of_zero_le (show 0 ≤ kk by omega)
    exact orderOf_low k (by omega) w
set_option maxHeartbeats 16000000 in
set_option maxRecDepth 100000 in
theorem holds_none (kk : Int) (hk : kk < 68 ∨ 75 < kk) (x y : Int) (a1 a2 : Option Addr) (k1 c1 k2 c2 : Nat) (w : World) :
    Calls Tryz.prog 27 #[.int .i64 kk, .agg #[.int .i64 x, .slice a1 k1 c1], .agg #[.int .i64 y, .slice a2 k2 c2]] w fun e w' => e = .returned (.tuple #[.bool false, .int .i64 50]) ∧ Below w.heap.size w w' := by
  obtain ⟨W, eW, g1, g2, bel, hsz⟩ := alloc2 w (Obj.cells #[.int .i64 x, .slice a1 k1 c1] 28) (Obj.cells #[.int .i64 y, .slice a2 k2 c2] 28)
  have OP := Lib.hid (orderOf_none kk hk W)
  have hsf : ∀ (a : Addr) (W : World) m, Sem.run Tryz.prog (store a .nilFunc m) W = stored Tryz.prog W a .nilFunc m := fun a W m => run_store Tryz.prog W a _ m rfl
  have BL := Lib.hid bel
  clear g1 g2 bel hk
  go_enter Tryz.func27, Tryz.ntmps27
  go_wp2_with fail
  try rw [eW]
  refine OP.out.mono ?_
  rintro e w2 ⟨rfl, hb2⟩
  obtain ⟨V, eV, gV, bV, hVs⟩ := alloc1n w2 (Obj.cells #[.nilFunc, .nilFunc] 103)
  have BV := Lib.hid (below_of (below_of BL.out hb2) bV)
  have EV := Lib.hid eV
  clear hb2 bV gV eV
  go_upto_region 2 with fail
  try rw [EV.out]
  go_wp2
  go_ret2
  exact ⟨rfl, BV.out⟩
end Go.Proofs.YtccofiakblmkhaaGreat
