/- tribunalref02: To, Out, Minus, Small1, Same. -/
import Derived.Test.YtckmpnfadpnaeaaDoorYA
import Derived.Laws.BitsAllLaws
set_option linter.unusedVariables false
set_option linter.unusedSimpArgs false
namespace Go.Proofs.YtckmpnfadpnaeaaDoor
open Go.RowKit Mth

/-- four digits, from the top, the first r of them -/
def hp (hs : List Nat) (i : Nat) : Nat → Nat
  | 0 => 0
  | r + 1 => hp hs i r * 65536 + hs.getD (i + (3 - r)) 0
/-- an Int, canonical, wherever it lies -/
def IntK (w : World) (v : Value) (z : Int) : Prop := ∃ u, v = .agg #[.bool (sgn z), u] ∧ Num w u z.natAbs
def gs (hs : List Nat) (m : Nat) : List Nat := (List.range m).map (fun j => hp hs (4 * j) 4)
theorem hp_lt {hs : List Nat} (hl : Lim B16 hs) (i : Nat) : ∀ r, hp hs i r < 65536 ^ r
  | 0 => by simp [hp]
  | r + 1 => by
    have h1 := hp_lt hl i r
    have h2 : hs.getD (i + (3 - r)) 0 < 65536 := hl _
    simp only [hp, Nat.pow_succ]
    omega
theorem gs_succ (hs : List Nat) (m : Nat) : gs hs (m + 1) = gs hs m ++ [hp hs (4 * m) 4] := by
  unfold gs; rw [List.range_succ, List.map_append]; rfl
theorem length_gs (hs : List Nat) (m : Nat) : (gs hs m).length = m := by simp [gs]
theorem getD_gs (hs : List Nat) (m j : Nat) : (gs hs m).getD j 0 = if j < m then hp hs (4 * j) 4 else 0 := by
  unfold gs
  by_cases h : j < m
  · rw [if_pos h, List.getD_eq_getElem?_getD, List.getElem?_map, List.getElem?_range h]; rfl
  · rw [if_neg h, getD_ge _ _ (by simp; omega)]
theorem lim_gs {hs : List Nat} (hl : Lim B16 hs) (m : Nat) : Lim B64 (gs hs m) := by
  intro j
  rw [getD_gs]
  split
  · exact hp_lt hl _ 4
  · have := B64_pos; omega
theorem val_take_succ' (xs : List Nat) (n : Nat) : val B16 (xs.take (n + 1)) = val B16 (xs.take n) + B16 ^ n * xs.getD n 0 := by
  by_cases h : n < xs.length
  · exact val_take_succ B16 xs n h
  · rw [List.take_of_length_le (by omega), List.take_of_length_le (by omega), getD_ge _ _ (by omega)]; simp
theorem val_gs (hs : List Nat) : ∀ m, val B64 (gs hs m) = val B16 (hs.take (4 * m))
  | 0 => by simp [gs, val]
  | m + 1 => by
    rw [gs_succ, val_append, val_gs hs m, length_gs, show 4 * (m + 1) = 4 * m + 1 + 1 + 1 + 1 by omega, val_take_succ', val_take_succ', val_take_succ', val_take_succ']
    have e1 : B64 ^ m = B16 ^ (4 * m) := by rw [Nat.pow_mul]; rfl
    rw [e1]
    simp only [hp, val, Nat.pow_succ, Nat.sub_zero, Nat.reduceSub, Nat.add_zero, Nat.mul_zero, Nat.zero_mul, Nat.zero_add]
    generalize B16 ^ (4 * m) = c
    unfold B16
    generalize hs.getD (4 * m) 0 = d0
    rw [show 4 * m + 1 + 1 = 4 * m + 2 by omega, show 4 * m + 2 + 1 = 4 * m + 3 by omega]
    generalize hs.getD (4 * m + 1) 0 = d1
    generalize hs.getD (4 * m + 2) 0 = d2
    generalize hs.getD (4 * m + 3) 0 = d3
    grind
theorem hp_zero {hs : List Nat} {i : Nat} (h : hp hs i 4 = 0) (j : Nat) (hj : j < 4) : hs.getD (i + j) 0 = 0 := by
  simp only [hp, Nat.sub_zero, Nat.reduceSub, Nat.add_zero] at h
  have : j = 0 ∨ j = 1 ∨ j = 2 ∨ j = 3 := by omega
  rcases this with rfl | rfl | rfl | rfl <;> (try simp only [Nat.add_zero]) <;> omega
theorem top_gs {hs : List Nat} {m : Nat} (ht : Top hs) (h1 : hs.length ≤ 4 * m) (h2 : m = 0 ∨ 4 * (m - 1) < hs.length) : Top (gs hs m) := by
  unfold Top
  rw [length_gs]
  refine tlen_eq (fun j hj => by rw [getD_gs, if_neg (by omega)]) ?_
  rcases h2 with h2 | h2
  · exact .inl h2
  · right
    rw [getD_gs, if_pos (by omega)]
    intro e
    have hz := hp_zero e (hs.length - 1 - 4 * (m - 1)) (by omega)
    rw [show 4 * (m - 1) + (hs.length - 1 - 4 * (m - 1)) = hs.length - 1 by omega] at hz
    have h3 := tlen_top hs (by rw [ht]; omega)
    rw [ht] at h3
    exact h3 hz

theorem or16 (x d : Nat) (hx : x < 65536 ^ 3) (hd : d < 65536) : bits BinOp.or IntKind.u64 ((x : Int) * 65536) ((d : Nat) : Int) = ((x * 65536 + d : Nat) : Int) := by
  rw [show (x : Int) * 65536 = ((x * 65536 : Nat) : Int) by omega, u64_or_nat _ _ (by omega) (by omega)]
  congr 1
  rw [Nat.mul_comm, show (65536 : Nat) = 2 ^ 16 from rfl, ← Nat.two_pow_add_eq_or_of_lt (by omega)]
theorem Num.far {w : World} {v y : Value} {n R j : Nat} (h : Num w v n) (hne : ∀ b off k c, v = .slice (some ⟨b, off, none⟩) k c → b ≠ R) : Num (w.setCell ⟨R, j, none⟩ y) v n := by
  obtain ⟨ys, h1, h2⟩ := h
  exact ⟨ys, h1.set_far (fun b off cap e _ => hne b off _ cap e), h2⟩
theorem own_ne {w : World} {base e n R : Nat} {v : Value} {xs : List Value} (h : w.ownsRow base e 1 v n xs) (hR : R < base) : ∀ b off k c, v = .slice (some ⟨b, off, none⟩) k c → b ≠ R := by
  rintro b off k c rfl
  have := (h.lt b rfl).1
  omega
theorem own_shape64 {w : World} {base n : Nat} {v : Value} {xs : List Value} (h : w.ownsRow base 65 1 v n xs) : ∃ ao c, v = .slice ao n c ∧ n ≤ c ∧ c ≤ maxLen := by
  rcases h.2 with ⟨rfl, rfl⟩ | ⟨g, cap, cur, rfl, _, _, h1, h2, _⟩
  · exact ⟨_, _, rfl, by omega, by unfold maxLen; omega⟩
  · exact ⟨_, _, rfl, h1, h2⟩
/-- what To's loops hold -/
def ToZ (W wr : World) (hs : List Nat) (v i : Value) : Prop := ∃ m : Nat, (m = 0 ∨ 4 * (m - 1) < hs.length) ∧ i = .int .i64 ((4 * m : Nat) : Int) ∧ wr.ownsRow W.heap.size 65 1 v (gs hs m).length (cellsOf .u64 (gs hs m)) ∧ Below W.heap.size W wr
def ToX (hs : List Nat) (i : Nat) (x k : Value) : Prop := ∃ r p : Nat, (r + p = 3 ∧ k = .int .i64 (p : Int) ∨ r = 4 ∧ k = .int .i64 (-1)) ∧ x = .int .u64 ((hp hs i r : Nat) : Int)
set_option maxHeartbeats 2000000 in
set_option maxRecDepth 100000 in
theorem to_any2 (v : Value) (z : Int) (w : World) (h : ZV w v z) : Calls Tryd.prog 66 #[v] w fun e w' => ∃ v', e = .returned v' ∧ IntK w' v' z ∧ Below w.heap.size w w' := by
  obtain ⟨u, rfl, hs, hsl, hl, ht, hv⟩ := h
  obtain ⟨ao, c, rfl⟩ := hsl.shape
  have HS := Lib.hid hsl; have HL := Lib.hid hl; have HT := Lib.hid ht; have HV := Lib.hid hv
  clear hsl hl ht hv
  go_enter Tryd.func66, Tryd.ntmps66
  go_wp2
  obtain ⟨W, eW, h1, h2, bel, hsz⟩ := alloc2 w (Obj.cells #[Value.bool (sgn z), Value.slice ao hs.length c] 62) (Obj.cells #[Value.bool false, Value.slice none 0 0] 25)
  rw [eW]
  obtain ⟨p0, p1, f0, f1, _⟩ := blk2 h1
  have H2 := Lib.hid h2
  have hlen := HS.out.len
  clear eW h1 h2
  go_loopw [3, 4] (fun v i wr => ToZ W wr hs v i) (fun _ i _ => hs.length + 4 - (intOf i).toNat)
  case atStart => exact ⟨0, .inl rfl, rfl, World.ownsRow_nil _ _ _ _, Below.refl _ _⟩
  case round =>
    obtain ⟨m, hm, rfl, hown, hbel⟩ := hrel
    have q1 := cell_to hbel p1 (by omega)
    have HO := Lib.hid hown; have HB := Lib.hid hbel
    by_cases hkl : 4 * m < hs.length
    · have hm2 : m ≤ 4194304 := by omega
      clear hown hbel hm
      generalize hi : 4 * m = i at *
      have HI := Lib.hid hi
      clear hi
      have hi2 : i ≤ 16777216 := by omega
      go_wp2
      go_loop [5, 6] (fun x k => ToX hs i x k) (fun _ k => (intOf k + 1).toNat)
      case atStart => exact ⟨0, 3, .inl ⟨rfl, rfl⟩, rfl⟩
      case round =>
        obtain ⟨r, p, hc, rfl⟩ := hrel
        rcases hc with ⟨hr, rfl⟩ | ⟨rfl, rfl⟩
        · have hx := hp_lt HL.out i r
          have hx3 : hp hs i r < 65536 ^ 3 := Nat.lt_of_lt_of_le hx (Nat.pow_le_pow_right (by omega) (by omega))
          have HE : Hid (hp hs i (r + 1) = hp hs i r * 65536 + hs.getD (i + p) 0) := Lib.hid (by rw [hp, show 3 - r = p by omega])
          have hd := HL.out (i + p)
          have HO16 := Lib.hid (or16 (hp hs i r) (hs.getD (i + p) 0) hx3 hd)
          generalize hp hs i r = x at *
          have hx4 : x < 281474976710656 := hx3
          have hsh : IntKind.u64.wrap ((x : Int) * 65536) = ((x * 65536 : Nat) : Int) := by rw [IntKind.wrap_u64]; omega
          clear hx hx3
          by_cases hip : i + p < hs.length
          · obtain ⟨b, off, cap, e, hc1, hc2, hblt, hc⟩ := HS.out.pos (by omega)
            simp only [Value.slice.injEq] at e
            obtain ⟨rfl, _, rfl⟩ := e
            have hck : wr.cell? ⟨b, off + (i + p), none⟩ = some (.int .u16 ((hs.getD (i + p) 0 : Nat) : Int)) := cell_to HB.out (cell_to bel (hc (i + p) hip) hblt) (by have := bel.size; omega)
            generalize hs.getD (i + p) 0 = d at *
            have hw : IntKind.u64.wrap (d : Int) = (d : Int) := wrap_u64 d (by unfold B16 at hd; unfold B64; omega)
            clear hc
            unfold maxLen at hc2
            go_wp2
            refine ⟨?_, by simp [intOf]⟩
            rw [HO16.out]
            refine ⟨r + 1, p - 1, ?_, by rw [HE.out]⟩
            by_cases hp0 : p = 0
            · exact .inr ⟨by omega, by congr 1; omega⟩
            · exact .inl ⟨by omega, by congr 1; omega⟩
          · have hd0 : hs.getD (i + p) 0 = 0 := getD_ge _ _ (by omega)
            rw [hd0] at HE
            clear HO16 hd hd0
            go_wp2
            refine ⟨?_, by simp [intOf]⟩
            refine ⟨r + 1, p - 1, ?_, by rw [HE.out]; simp⟩
            by_cases hp0 : p = 0
            · exact .inr ⟨by omega, by congr 1; omega⟩
            · exact .inl ⟨by omega, by congr 1; omega⟩
        · have HX : Hid (gs hs (m + 1) = gs hs m ++ [hp hs i 4]) := Lib.hid (by rw [gs_succ, HI.out])
          have HGL : Hid ((gs hs m).length ≤ 16777216) := Lib.hid (by rw [length_gs]; omega)
          generalize hp hs i 4 = x at *
          generalize gs hs m = ys at *
          go_wp2_with (refine append_nat (o := ⟨some 40, _, _, _, _, _⟩) rfl _ _ rfl W.heap.size _ ys x ⟨wr.heap.size, 0, none⟩ rfl rfl (HO.out.alloc _) (World.cell?_alloc_new _ _ _ _) HGL.out (by have := HB.out.size; simp; omega) ?_; intro v' w1 hown1 hg1)
          have HO3 := Lib.hid hown1
          have HB3 := Lib.hid (below_own (HB.out.alloc HB.out.size _) (HO.out.alloc _) hg1 (by have := HB.out.size; simp; omega))
          clear hown1 hg1
          refine ⟨⟨m + 1, .inr (by have := HI.out; omega), by congr 1; have := HI.out; omega, ?_, HB3.out⟩, by simp [intOf]; omega⟩
          rw [HX.out]
          exact HO3.out
    · have hvv : val B64 (gs hs m) = z.natAbs := by rw [val_gs, List.take_of_length_le (by omega), HV.out]
      have hlm : (gs hs m).length ≤ 16777216 := by rw [length_gs]; omega
      have HN : Hid (Num wr _ z.natAbs) := Lib.hid ⟨_, sl_own hown hlm, lim_gs HL.out m, top_gs HT.out (by omega) hm, hvv⟩
      have HNE := Lib.hid (own_ne hown hsz)
      obtain ⟨a3, c3, rfl, _, _⟩ := own_shape64 hown
      generalize (gs hs m).length = l3 at *
      have hR := (hbel.block _ hsz).trans H2.out
      have q0 := cell_to hbel p0 (by omega)
      obtain ⟨k0, k1, g0, g1, hlt⟩ := blk2 hR
      have B1 := below_of bel hbel
      have HK := Lib.hid (Num.far (j := 1) (y := .slice a3 l3 c3) (Num.far (j := 0) (y := .bool (sgn z)) HN.out HNE.out) HNE.out)
      clear hown hbel hm hvv hlm
      go_wp2
      refine bodyPost_ret (v := .agg #[.bool (sgn z), .slice a3 l3 c3]) ?_ rfl ⟨_, rfl, ⟨_, rfl, HK.out⟩, (B1.setCell (p := ⟨w.heap.size + 1, 0, none⟩) (Nat.le_add_right _ _) _).setCell (p := ⟨w.heap.size + 1, 1, none⟩) (Nat.le_add_right _ _) _⟩
      simp [results, Tryd.results66, go_sem, *]
end Go.Proofs.YtckmpnfadpnaeaaDoor
