/- Package whole: Gcd. -/
import Derived.Test.YtkbfgbkhhfligaaGreatDoorZB4
import Derived.Test.YtkbfgbkhhfligaaGreatDoorGC
import Derived.Test.YtkbfgbkhhfligaaGreatDoorZ3
set_option linter.unusedVariables false
set_option linter.unusedSimpArgs false
namespace Go.Proofs.YtkbfgbkhhfligaaGreatDoor
open Go.RowKit Mth

/-- the greatest divisor of the first k -/
def gNz (zs : List Int) (k : Nat) : Nat := ((zs.take k).map Int.natAbs).foldl Nat.gcd 0
theorem gNz_next {zs : List Int} {k : Nat} (h : k < zs.length) : gNz zs (k + 1) = Nat.gcd (gNz zs k) (zs.getD k 0).natAbs := by
  unfold gNz
  rw [take_next h, List.map_append, List.foldl_append]
  rfl
/-- none of the first k is too long -/
def Fine (zs : List Int) (k : Nat) : Prop := ∀ j, j < k → (zs.getD j 0).natAbs < Big
theorem big_pos : 0 < Big := Nat.lt_trans Nat.zero_lt_one one_lt_big
theorem gcd_lt {a b : Nat} (ha : a < Big) (hb : b < Big) : Nat.gcd a b < Big := by
  rcases Nat.eq_zero_or_pos b with h | h
  · rw [h, Nat.gcd_zero_right]; exact ha
  · exact Nat.lt_of_le_of_lt (Nat.gcd_le_right _ h) hb
theorem gNz_lt {zs : List Int} : ∀ {k : Nat}, k ≤ zs.length → Fine zs k → gNz zs k < Big
  | 0, _, _ => by simpa [gNz] using big_pos
  | k + 1, h, hf => by
    rw [gNz_next (by omega)]
    exact gcd_lt (gNz_lt (by omega) (fun j hj => hf j (by omega))) (hf k (by omega))
open Classical in
noncomputable def gZ (zs : List Int) : Int := if Fine zs zs.length then ((gNz zs zs.length : Nat) : Int) else 0
open Classical in
noncomputable def gE (zs : List Int) : Int := if Fine zs zs.length then 0 else 5
theorem g_fine {zs : List Int} (h : Fine zs zs.length) : gZ zs = ((gNz zs zs.length : Nat) : Int) ∧ gE zs = 0 := ⟨if_pos h, if_pos h⟩
theorem g_long {zs : List Int} {k : Nat} (hk : k < zs.length) (h : Big ≤ (zs.getD k 0).natAbs) : gZ zs = 0 ∧ gE zs = 5 := by
  have hn : ¬ Fine zs zs.length := fun hf => by have := hf k hk; omega
  exact ⟨if_neg hn, if_neg hn⟩
theorem gcd_num {v1 v2 : Value} {m : Nat} {ys : List Nat} {w : World} (h1 : Num w v1 m) (h2 : Sl w .u64 v2 ys) (l2 : Lim B64 ys) (hm : m < Big) (hn : val B64 ys < Big) :
    Calls Tryz.prog 60 #[v1, v2] w fun e w' => ∃ v', e = .returned (.tuple #[v', .int .i64 0]) ∧ Num w' v' (Nat.gcd m (val B64 ys)) ∧ Below w.heap.size w w' := by
  obtain ⟨xs, s1, l1, _, rfl⟩ := h1
  have F := gcd_fine (show ¬ (Big ≤ val B64 xs ∨ Big ≤ val B64 ys) by omega)
  refine (gcd_any v1 v2 xs ys w s1 h2 l1 l2).mono ?_
  rintro e w' ⟨v', rfl, ho, hb⟩
  rw [F.1] at ho
  rw [F.2]
  exact ⟨v', rfl, ho.num, hb⟩
theorem nat_int (n : Nat) : sgn (n : Int) = false ∧ (n : Int).natAbs = n := ⟨by unfold sgn; exact decide_eq_false (by omega), Int.natAbs_natCast n⟩

def GzB : Obj := Obj.cells #[Value.bool false, Value.slice none 0 0] 25
def GcO1 (w wr : World) (zs : List Int) (i : Value) : Prop := ∃ k : Nat, k ≤ zs.length ∧ i = .int .i64 k ∧ Fine zs k ∧ Below (w.heap.size + 1) (w.alloc (Obj.cells #[Value.bool false, Value.slice none 0 0] 25)) wr
def GcO2 (w wr : World) (zs : List Int) (d i : Value) : Prop := ∃ k : Nat, k ≤ zs.length ∧ i = .int .i64 k ∧ Num wr d (gNz zs k) ∧ Below (w.heap.size + 1) (w.alloc (Obj.cells #[Value.bool false, Value.slice none 0 0] 25)) wr

set_option maxHeartbeats 4000000 in
set_option maxRecDepth 100000 in
theorem gcdI_any (v : Value) (zs : List Int) (w : World) (h : IntL w v zs) : Calls Tryz.prog 17 #[v] w fun e w' => ∃ v', e = .returned (.tuple #[v', .int .i64 (gE zs)]) ∧ IntK w' v' (gZ zs) ∧ Below w.heap.size w w' := by
  have HS := Lib.hid h
  have hlen : zs.length ≤ 4000000 := by obtain ⟨_, _, _, _, _, h, _⟩ := h; exact h
  obtain ⟨ao, cap, rfl⟩ := h.shape
  clear h
  have hfd := field_amount
  go_enter Tryz.func17, Tryz.ntmps17
  go_wp2
  go_loopw [11] (fun i wr => GcO1 w wr zs i) (fun i _ => zs.length - (intOf i).toNat)
  case atStart => exact ⟨0, Nat.zero_le _, rfl, fun j hj => by omega, Below.refl _ _⟩
  case round =>
    obtain ⟨k, hk, rfl, hF, hbel⟩ := hrel
    have HF := Lib.hid hF; have HB := Lib.hid hbel
    clear hF
    by_cases hlt : k < zs.length
    · have hB0 : Below w.heap.size w wr := ((Below.refl w.heap.size w).alloc (Nat.le_refl _) _).trans (hbel.mono (Nat.le_succ _))
      obtain ⟨ao', cap', e0, hc1, hc2, _, _, h5⟩ := HS.out
      simp only [Value.slice.injEq, true_and] at e0
      obtain ⟨rfl, rfl⟩ := e0
      obtain ⟨b, off, rfl, hblt, hc⟩ := h5 (by omega)
      obtain ⟨n, a, kk, c, c0', c1', hi⟩ := hc k hlt
      obtain ⟨z, hz⟩ : ∃ z, zs.getD k 0 = z := ⟨_, rfl⟩
      have GL : Hid (Big ≤ z.natAbs → gZ zs = 0 ∧ gE zs = 5) := Lib.hid (fun h => g_long hlt (by rw [hz]; exact h))
      have GF : Hid (z.natAbs < Big → Fine zs (k + 1)) := Lib.hid (fun h j hj => by
        by_cases e : j = k
        · subst e; rw [hz]; exact h
        · exact HF.out j (by omega))
      rw [hz] at hi
      clear hz
      obtain ⟨n', a', k', c', t, e1, N, R⟩ := hi.rd
      simp only [Value.agg.injEq, Array.mk.injEq, List.cons.injEq, Value.bool.injEq, Value.slice.injEq, and_true] at e1
      obtain ⟨rfl, rfl, rfl, rfl⟩ := e1
      have NL : Hid (4096 < t ↔ Big ≤ z.natAbs) := Lib.hid (by
        obtain ⟨u, e, hn⟩ := N
        simp only [Value.agg.injEq, Array.mk.injEq, List.cons.injEq, and_true] at e
        obtain ⟨rfl, _⟩ := e
        exact num_long hn)
      have c0 := cell_to hB0 c0' hblt; have c1 := cell_to hB0 c1' hblt
      have RR := Lib.hid R
      have BS := Lib.hid hB0
      have hwr := hbel.size
      have hw1 : IntKind.i64.wrap ((k : Int) + 1) = (k : Int) + 1 := by rw [IntKind.wrap_i64]; omega
      unfold maxLen at hc2
      clear h5 hc hbel hi N R hB0 c0' c1'
      go_wp2_with fail
      obtain ⟨V, eV, hV, belV, hszV⟩ := alloc1 wr (Obj.cells #[Value.bool n, Value.slice a kk c] 25)
      rw [eV]
      clear eV hV
      refine (RR.out V (below_of BS.out belV)).mono ?_
      rintro e w2 ⟨rfl, hb2, hs2⟩
      clear hs2
      have B2 := Lib.hid (HB.out.trans ((below_of belV hb2).mono (by have := HB.out.size; simp at this; omega)))
      clear belV hszV hb2
      by_cases hbig : Big ≤ z.natAbs
      · have hd : decide ((4096 : Int) < (t : Int)) = true := decide_eq_true (by have := NL.out.2 hbig; omega)
        have GG := Lib.hid (GL.out hbig)
        clear hbig
        have hR0 : (w.alloc (Obj.cells #[Value.bool false, Value.slice none 0 0] 25)).heap[w.heap.size]? = some (Obj.cells #[Value.bool false, Value.slice none 0 0] 25) := heap_alloc_new w _
        have hR := (B2.out.block w.heap.size (by omega)).trans hR0
        obtain ⟨k0, k1, g0, g1, hl⟩ := blk2 hR
        have B3 := Lib.hid (((Below.refl w.heap.size w).alloc (Nat.le_refl _) (Obj.cells #[Value.bool false, Value.slice none 0 0] 25)).trans (B2.out.mono (Nat.le_succ _)))
        clear hR hR0
        go_wp2_with (go_at_call 59; refine (long_is _ _ _ _).mono ?_; rintro e w' ⟨rfl, rfl⟩)
        refine bodyPost_ret (v := .tuple #[.agg #[.bool false, .slice none 0 0], .int .i64 5]) ?_ rfl ⟨_, by rw [GG.out.2], by rw [GG.out.1]; exact intk_zero _, (B3.out.setCell (p := ⟨w.heap.size, 0, none⟩) (Nat.le_refl _) _).setCell (p := ⟨w.heap.size, 1, none⟩) (Nat.le_refl _) _⟩
        simp [results, Tryz.results17, go_sem, *]
      · have hd : decide ((4096 : Int) < (t : Int)) = false := decide_eq_false (by have := NL.out.1; omega)
        have GG := Lib.hid (GF.out (by omega))
        clear hbig
        go_wp2_with (go_at_call 59; refine (long_is _ _ _ _).mono ?_; rintro e w' ⟨rfl, rfl⟩)
        go_roundw
        case rel => exact ⟨k + 1, by omega, by go_num, GG.out, B2.out⟩
        case measure => simp [intOf]; omega
    · obtain rfl : k = zs.length := by omega
      clear hlt hbel
      obtain ⟨wo, rfl⟩ : ∃ wo : World, wo = wr := ⟨_, rfl⟩
      have GG := Lib.hid (g_fine HF.out)
      go_wp2
      go_loopw [6, 23] (fun d i wr => GcO2 w wr zs d i) (fun _ i _ => zs.length - (intOf i).toNat)
      case atStart => exact ⟨0, Nat.zero_le _, rfl, num_nil _, HB.out⟩
      case round =>
        obtain ⟨k, hk, rfl, hN, hbel⟩ := hrel
        obtain ⟨da, dk, dc, rfl⟩ := hN.nm.shape
        have HN := Lib.hid hN; have HB2 := Lib.hid hbel
        by_cases hlt : k < zs.length
        · have hB0 : Below w.heap.size w wr := ((Below.refl w.heap.size w).alloc (Nat.le_refl _) _).trans (hbel.mono (Nat.le_succ _))
          obtain ⟨ao', cap', e0, hc1, hc2, _, _, h5⟩ := HS.out
          simp only [Value.slice.injEq, true_and] at e0
          obtain ⟨rfl, rfl⟩ := e0
          obtain ⟨b, off, rfl, hblt, hc⟩ := h5 (by omega)
          obtain ⟨n, a, kk, c, c0', c1', hi⟩ := hc k hlt
          have NX := gNz_next hlt
          have GB := gNz_lt hk (fun j hj => HF.out j (by omega))
          have ZB := HF.out k hlt
          obtain ⟨n', u, xs, e1, hs, hl, _, hz⟩ := hi
          simp only [Value.agg.injEq, Array.mk.injEq, List.cons.injEq, Value.bool.injEq, and_true] at e1
          obtain ⟨rfl, rfl⟩ := e1
          rw [hz, natAbs_sg] at NX ZB
          have GC : Hid (∀ w1, Below wr.heap.size wr w1 → Calls Tryz.prog 60 #[.slice da dk dc, .slice a kk c] w1 fun e w' => ∃ v', e = .returned (.tuple #[v', .int .i64 0]) ∧ Num w' v' (gNz zs (k + 1)) ∧ Below w1.heap.size w1 w') := Lib.hid (fun w1 hb => by
            rw [NX]
            exact gcd_num (HN.out.below hb) ((hs.below hB0).below hb) hl GB ZB)
          have c0 := cell_to hB0 c0' hblt; have c1 := cell_to hB0 c1' hblt
          have hwr := hbel.size
          have hw1 : IntKind.i64.wrap ((k : Int) + 1) = (k : Int) + 1 := by rw [IntKind.wrap_i64]; omega
          unfold maxLen at hc2
          clear h5 hc hbel hB0 c0' c1' hN hs hl hz NX GB ZB
          go_wp2_with fail
          obtain ⟨V, eV, hV, belV, hszV⟩ := alloc1 wr (Obj.cells #[Value.bool n, Value.slice a kk c] 25)
          rw [eV]
          clear eV
          refine (GC.out V belV).mono ?_
          rintro e w2 ⟨v2, rfl, hn2, hb2⟩
          have HN2 := Lib.hid hn2
          have B2 := Lib.hid (HB2.out.trans ((below_of belV hb2).mono (by have := HB2.out.size; simp at this; omega)))
          clear hn2 belV hszV hb2 hV
          go_wp2
          go_roundw
          case rel => exact ⟨k + 1, by omega, by go_num, HN2.out, B2.out⟩
          case measure => simp [intOf]; omega
        · obtain rfl : k = zs.length := by omega
          clear hlt hbel hN
          have hR0 : (w.alloc (Obj.cells #[Value.bool false, Value.slice none 0 0] 25)).heap[w.heap.size]? = some (Obj.cells #[Value.bool false, Value.slice none 0 0] 25) := heap_alloc_new w _
          have hR := (HB2.out.block w.heap.size (by omega)).trans hR0
          obtain ⟨k0, k1, g0, g1, hl⟩ := blk2 hR
          have HR := Lib.hid hR
          have B3 := Lib.hid (((Below.refl w.heap.size w).alloc (Nat.le_refl _) (Obj.cells #[Value.bool false, Value.slice none 0 0] 25)).trans (HB2.out.mono (Nat.le_succ _)))
          have IK : Hid (IntK wr (.agg #[.bool false, .slice da dk dc]) (gZ zs)) := Lib.hid ⟨_, by rw [GG.out.1, (nat_int _).1], by rw [GG.out.1, (nat_int _).2]; exact HN.out⟩
          clear hR hR0
          go_wp2
          refine bodyPost_ret (v := .tuple #[.agg #[.bool false, .slice da dk dc], .int .i64 0]) ?_ rfl ⟨_, by rw [GG.out.2], IK.out.far HR.out, (B3.out.setCell (p := ⟨w.heap.size, 0, none⟩) (Nat.le_refl _) _).setCell (p := ⟨w.heap.size, 1, none⟩) (Nat.le_refl _) _⟩
          simp [results, Tryz.results17, go_sem, *]
end Go.Proofs.YtkbfgbkhhfligaaGreatDoor
