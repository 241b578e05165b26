/- Package whole: Sum. -/
import Derived.Test.YtckmpnfadpnaeaaDoorZS
set_option linter.unusedVariables false
set_option linter.unusedSimpArgs false
namespace Go.Proofs.YtckmpnfadpnaeaaDoor
open Go.RowKit Mth

theorem blk_below' {w w' : World} {g : Nat} {x : Obj} (hb : Below w.heap.size w w') (h : w.heap[g]? = some x) : w'.heap[g]? = some x := (hb.block g (Array.getElem?_eq_some_iff.1 h).1).trans h
theorem TalO.below {w w' : World} {base g m P N : Nat} (h : TalO w base g m P N) (hb : Below w.heap.size w w') : TalO w' base g m P N := by
  obtain ⟨u, d, xs, ys, h1, h2, h3, h4⟩ := h
  exact ⟨u, d, xs, ys, blk_below' hb h1, own_other h2 (grown_of_below hb none) (fun _ _ e => by cases e), own_other h3 (grown_of_below hb none) (fun _ _ e => by cases e), h4⟩
/-- a list of Ints in memory, in any form -/
def IntL (w : World) (v : Value) (zs : List Int) : Prop := ∃ (ao : Option Addr) (cap : Nat), v = .slice ao zs.length cap ∧ zs.length ≤ cap ∧ cap ≤ maxLen ∧ zs.length ≤ 4000000 ∧ (ao = none → cap = 0) ∧
  (0 < zs.length → ∃ b off, ao = some ⟨b, off, none⟩ ∧ b < w.heap.size ∧ ∀ j, j < zs.length → ∃ (n : Bool) (a : Option Addr) (k c : Nat), w.cell? ⟨b, off + j * 2, none⟩ = some (.bool n) ∧ w.cell? ⟨b, off + j * 2 + 1, none⟩ = some (.slice a k c) ∧ IntV w (.agg #[.bool n, .slice a k c]) (zs.getD j 0))
theorem IntL.below {w w' : World} {v : Value} {zs : List Int} (h : IntL w v zs) (hb : Below w.heap.size w w') : IntL w' v zs := by
  obtain ⟨ao, cap, h0, h1, h2, h3, h4, h5⟩ := h
  refine ⟨ao, cap, h0, h1, h2, h3, h4, fun hp => ?_⟩
  obtain ⟨b, off, rfl, hlt, hc⟩ := h5 hp
  refine ⟨b, off, rfl, Nat.lt_of_lt_of_le hlt hb.size, fun j hj => ?_⟩
  obtain ⟨n, a, k, c, c0, c1, hi⟩ := hc j hj
  exact ⟨n, a, k, c, cell_to hb c0 hlt, cell_to hb c1 hlt, hi.below hb⟩
theorem IntL.shape {w : World} {v : Value} {zs : List Int} (h : IntL w v zs) : ∃ ao c, v = .slice ao zs.length c := by
  obtain ⟨ao, c, h0, _⟩ := h; exact ⟨ao, c, h0⟩
/-- the sums of those not below 0, of the others -/
def upS (zs : List Int) (k : Nat) : Nat := ((zs.take k).map fun z => if sgn z = true then 0 else z.natAbs).sum
def dnS (zs : List Int) (k : Nat) : Nat := ((zs.take k).map fun z => if sgn z = true then z.natAbs else 0).sum
theorem take_next {zs : List Int} {k : Nat} (h : k < zs.length) : zs.take (k + 1) = zs.take k ++ [zs.getD k 0] := by
  rw [List.take_succ_eq_append_getElem h, List.getD_eq_getElem?_getD, List.getElem?_eq_getElem h]; rfl
theorem upS_next {zs : List Int} {k : Nat} (h : k < zs.length) : upS zs (k + 1) = upS zs k + (if sgn (zs.getD k 0) = true then 0 else (zs.getD k 0).natAbs) := by
  unfold upS; rw [take_next h]; simp
theorem dnS_next {zs : List Int} {k : Nat} (h : k < zs.length) : dnS zs (k + 1) = dnS zs k + (if sgn (zs.getD k 0) = true then (zs.getD k 0).natAbs else 0) := by
  unfold dnS; rw [take_next h]; simp
theorem up_dn (zs : List Int) : ∀ k, k ≤ zs.length → ((upS zs k : Nat) : Int) - ((dnS zs k : Nat) : Int) = (zs.take k).sum
  | 0, _ => by simp [upS, dnS]
  | k + 1, h => by
    rw [upS_next (by omega), dnS_next (by omega), take_next (by omega), List.sum_append]
    have ih := up_dn zs k (by omega)
    generalize zs.getD k 0 = z at *
    cases hs : sgn z
    · have := of_sgn_false hs; simp; omega
    · have := of_sgn_true hs; simp; omega
/-- what Sum's loop holds -/
def SumO (w wr : World) (zs : List Int) (i : Value) : Prop := ∃ k : Nat, k ≤ zs.length ∧ i = .int .i64 k ∧ TalO wr (w.heap.size + 1) (w.heap.size + 1) k (upS zs k) (dnS zs k) ∧ Below (w.heap.size + 1) (w.alloc (Obj.cells #[Value.bool false, Value.slice none 0 0] 25)) wr

set_option maxHeartbeats 2000000 in
set_option maxRecDepth 100000 in
theorem sumI_any (v : Value) (zs : List Int) (w : World) (h : IntL w v zs) : Calls Tryd.prog 16 #[v] w fun e w' => ∃ v', e = .returned (.tuple #[v', .int .i64 (zE zs.sum)]) ∧ IntK w' v' (zN zs.sum) ∧ Below w.heap.size w w' := by
  have HS := Lib.hid h
  have hlen : zs.length ≤ 4000000 := by obtain ⟨_, _, _, _, _, h, _⟩ := h; exact h
  obtain ⟨ao, cap, rfl⟩ := h.shape
  clear h
  go_enter Tryd.func16, Tryd.ntmps16
  go_wp2
  obtain ⟨W, eW, h1, h2, bel, hsz⟩ := alloc2 w (Obj.cells #[Value.bool false, Value.slice none 0 0] 25) (Obj.cells #[Value.slice none 0 0, Value.slice none 0 0] 67)
  have BA : Hid (Below (w.heap.size + 1) (w.alloc (Obj.cells #[Value.bool false, Value.slice none 0 0] 25)) W) := Lib.hid (by
    rw [← eW]
    exact (Below.refl _ _).alloc (by simp) _)
  rw [eW]
  have T0 := tal_zero (base := w.heap.size + 1) h2
  clear eW h1 h2
  go_loopw [9] (fun i wr => SumO w wr zs i) (fun i _ => zs.length - (intOf i).toNat)
  case atStart => exact ⟨0, Nat.zero_le _, rfl, T0, BA.out⟩
  case round =>
    obtain ⟨k, hk, rfl, hT, hbel⟩ := hrel
    by_cases hlt : k < zs.length
    · have HT := Lib.hid hT; have HB := Lib.hid hbel
      have hB0 : Below w.heap.size w wr := ((Below.refl w.heap.size w).alloc (Nat.le_refl _) _).trans (hbel.mono (Nat.le_succ _))
      obtain ⟨ao', cap', e0, hc1, hc2, _, _, h5⟩ := HS.out
      simp only [Value.slice.injEq, true_and] at e0
      obtain ⟨rfl, rfl⟩ := e0
      obtain ⟨b, off, rfl, hblt, hc⟩ := h5 (by omega)
      obtain ⟨n, a, kk, c, c0', c1', hi⟩ := hc k hlt
      obtain ⟨z, hz⟩ : ∃ z, zs.getD k 0 = z := ⟨_, rfl⟩
      have UPN := Lib.hid (upS_next hlt); have DNN := Lib.hid (dnS_next hlt)
      rw [hz] at hi UPN DNN
      clear hz
      obtain ⟨n', a', k', c', t, e1, N, R⟩ := hi.rd
      simp only [Value.agg.injEq, Array.mk.injEq, List.cons.injEq, Value.bool.injEq, Value.slice.injEq, and_true] at e1
      obtain ⟨rfl, rfl, rfl, rfl⟩ := e1
      have c0 := cell_to hB0 c0' hblt; have c1 := cell_to hB0 c1' hblt
      have NN := Lib.hid N; have RR := Lib.hid R
      have NH := Lib.hid hi.huge
      have OH : Hid (z ≠ 0 → ∀ u b k', Value.agg #[.slice a t c, .bool (sgn z)] = .agg #[u, b] → inBlock u = some k' → k' < w.heap.size + 1) := Lib.hid (fun hz u b k' e hk => Nat.lt_succ_of_lt (N.hold hz u b k' e hk))
      have BS := Lib.hid hB0
      have hwr := hbel.size
      have hw1 : IntKind.i64.wrap ((k : Int) + 1) = (k : Int) + 1 := by rw [IntKind.wrap_i64]; omega
      unfold maxLen at hc2
      clear h5 hc hT hbel hi N R hB0 c0' c1'
      go_wp2_with fail
      obtain ⟨V, eV, hV, belV, hszV⟩ := alloc1 wr (Obj.cells #[Value.bool n, Value.slice a kk c] 25)
      rw [eV]
      clear eV hV
      refine (RR.out V (below_of BS.out belV)).mono ?_
      rintro e w2 ⟨rfl, hb2, hs2⟩
      clear hs2
      have B2 := below_of belV hb2
      go_wp2_with fail
      refine (tally_add _ _ k _ _ _ z w2 (HT.out.below B2) (NN.out.below (below_of BS.out B2)) OH.out NH.out (by omega) (Nat.le_refl _) (by have := B2.size; simp at hwr; omega)).mono ?_
      rintro e w3 ⟨rfl, hT3, hb3⟩
      rw [← UPN.out, ← DNN.out] at hT3
      have HT3 := Lib.hid hT3; have HB3 := Lib.hid hb3
      clear hT3 hb3
      go_wp2
      go_roundw
      case rel => exact ⟨k + 1, by omega, by go_num, HT3.out, (HB.out.trans (B2.mono (by have := HB.out.size; simp at this; omega))).trans HB3.out⟩
      case measure => simp [intOf]; omega
    · obtain rfl : k = zs.length := by omega
      have HB := Lib.hid hbel
      have ES : Hid (((upS zs zs.length : Nat) : Int) - ((dnS zs zs.length : Nat) : Int) = zs.sum) := Lib.hid (by rw [up_dn zs _ (Nat.le_refl _), List.take_length])
      have hws := hbel.size
      have TT := Lib.hid (tally_total _ _ _ _ _ wr hT (by omega) (by simp at hws; omega))
      clear hT hbel
      go_wp2_with fail
      refine TT.out.mono ?_
      rintro e w2 ⟨v2, rfl, hn2, hb2⟩
      rw [ES.out] at hn2
      obtain ⟨a2, k2, c2, n2, rfl⟩ := hn2.shape
      have N2 := Lib.hid hn2
      have B2 := Lib.hid (HB.out.trans hb2)
      have hsz2 := hb2.size
      clear hn2 hb2
      go_wp2_with fail
      refine (answer_number _ _ _ w2 N2.out (by simp at hws; omega)).mono ?_
      rintro e w3 ⟨v3, rfl, hi, hb3⟩
      obtain ⟨n3, a3, k3, c3, rfl⟩ := hi.shape
      have I3 := Lib.hid hi.k
      have hR0 : (w.alloc (Obj.cells #[Value.bool false, Value.slice none 0 0] 25)).heap[w.heap.size]? = some (Obj.cells #[Value.bool false, Value.slice none 0 0] 25) := heap_alloc_new w _
      have hR := (hb3.block w.heap.size (by have := B2.out.size; simp at this; omega)).trans ((B2.out.block w.heap.size (by omega)).trans hR0)
      obtain ⟨k0, k1, g0, g1, hl⟩ := blk2 hR
      have HR := Lib.hid hR
      have B3 := Lib.hid (((Below.refl w.heap.size w).alloc (Nat.le_refl _) (Obj.cells #[Value.bool false, Value.slice none 0 0] 25)).trans ((B2.out.mono (Nat.le_succ _)).trans (hb3.mono (by have := B2.out.size; simp at this; omega))))
      clear hi hb3 hR hR0
      go_wp2
      refine bodyPost_ret (v := .tuple #[.agg #[.bool n3, .slice a3 k3 c3], .int .i64 (zE zs.sum)]) ?_ rfl ⟨_, rfl, I3.out.far HR.out, (B3.out.setCell (p := ⟨w.heap.size, 0, none⟩) (Nat.le_refl _) _).setCell (p := ⟨w.heap.size, 1, none⟩) (Nat.le_refl _) _⟩
      simp [results, Tryd.results16, go_sem, *]
end Go.Proofs.YtckmpnfadpnaeaaDoor
