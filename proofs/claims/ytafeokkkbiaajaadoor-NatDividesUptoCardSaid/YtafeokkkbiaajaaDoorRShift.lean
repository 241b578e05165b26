/- tribunalref01: Shl, Shr; NatShifts. -/
import Derived.Test.YtafeokkkbiaajaaDoorShl
namespace Go.Proofs.YtafeokkkbiaajaaDoor
open Go.RowKit Mth

theorem row_own {w : World} {base e : Nat} {k : IntKind} {g : Nat} {xs : List Nat} (h : Row w e k g xs) (hb : base ≤ g) (hl : xs.length ≤ 16777217) : w.ownsRow base e 1 (.slice (some ⟨g, 0, none⟩) xs.length xs.length) xs.length (cellsOf k xs) :=
  ⟨by rw [length_cellsOf, Nat.mul_one], .inr ⟨g, xs.length, (cellsOf k xs).toArray, rfl, hb, h, Nat.le_refl _, maxLen_24 hl, by simp [length_cellsOf], by rw [List.toList_toArray, Nat.mul_one]; exact List.take_of_length_le (by rw [length_cellsOf]; exact Nat.le_refl _)⟩⟩
/-- append of a list of halves to a row of the call's own -/
theorem append_halves {w : World} {ops : Array Oper} {rest : List Oper} {o : Oper} {a : Act} {Q : Exit → Act → World → Prop} (hgd : o.guard = none) (s x : Operand)
    (ho : o.op = .call { callee := .builtin .append, args := #[s, x], argTypes := #[62, 62] }) (base : Nat) (v u : Value) (xs ys : List Nat)
    (hs : a.eval s = v) (hx : a.eval x = u) (hown : w.ownsRow base 66 1 v xs.length (cellsOf .u32 xs)) (hu : Sl w .u32 u ys) (hp : 0 < ys.length) (hlen : xs.length ≤ 16777216) (hbase : base ≤ w.heap.size)
    (h : ∀ v' w', w'.ownsRow base 66 1 v' (xs ++ ys).length (cellsOf .u32 (xs ++ ys)) → w.grownBy w' v.ownBlock → wpList Tryd.prog ops Q rest (a.put o.dst v') w') : wpList Tryd.prog ops Q (o :: rest) a w := by
  obtain ⟨i0, hi, hz0, hz1, hz2⟩ := info_parts info_u32
  have hul := hu.len
  obtain ⟨b, off, cap, rfl, _, _, _, hc⟩ := hu.pos hp
  refine wpList_append_own w hgd s x 62 ho base 66 i0 _ 1 4 Tryd.underlying62 hi hz0 hz1 hz2 rfl (by decide) v _ _ hs hown ⟨b, off, none⟩ ys.length cap (cellsOf .u32 ys) hx (by rw [length_cellsOf, Nat.mul_one]) ?_ (cells_one _ _)
    (by unfold maxLen; omega) (by omega) hbase ?_
  · intro j u hj
    have hjl : j < ys.length := by have := (List.getElem?_eq_some_iff.1 hj).1; rwa [length_cellsOf] at this
    rw [cellsOf_get _ _ _ hjl] at hj
    rw [Addr.add_lit, hc j hjl, hj]
  · intro v' w' h2 h3 _
    refine h v' w' ?_ h3
    rw [cellsOf_append, List.length_append]
    exact h2
theorem top_append {zs ys : List Nat} (h : Top ys) (hp : 0 < ys.length) : Top (zs ++ ys) := by
  unfold Top
  refine tlen_eq (fun j hj => getD_ge _ j hj) (.inr ?_)
  have h1 := tlen_top ys (by rw [h]; exact hp)
  rw [h] at h1
  rw [List.length_append, List.getD_eq_getElem?_getD, List.getElem?_append_right (by omega), show zs.length + ys.length - 1 - zs.length = ys.length - 1 by omega, ← List.getD_eq_getElem?_getD]
  exact h1
theorem lim_append {B : Nat} {xs ys : List Nat} (h1 : Lim B xs) (h2 : Lim B ys) : Lim B (xs ++ ys) := by
  intro j
  rw [List.getD_eq_getElem?_getD]
  rcases Nat.lt_or_ge j xs.length with hj | hj
  · rw [List.getElem?_append_left hj, ← List.getD_eq_getElem?_getD]; exact h1 j
  · rw [List.getElem?_append_right hj, ← List.getD_eq_getElem?_getD]; exact h2 _
theorem natList_one {w : World} {v : Value} {xs : List Nat} (h : Sl w .u64 v xs) : NatList (w.alloc (Obj.cells #[v] 23)) (.slice (some ⟨w.heap.size, 0, none⟩) 1 1) [xs] := by
  have hb : Below w.heap.size w (w.alloc (Obj.cells #[v] 23)) := (Below.refl _ _).alloc (Nat.le_refl _) _
  refine ⟨some ⟨w.heap.size, 0, none⟩, 1, rfl, Nat.le_refl _, by unfold maxLen; omega, by simp, fun e => by simp at e, fun _ => ⟨w.heap.size, 0, rfl, by simp, fun j hj => ?_⟩⟩
  obtain rfl : j = 0 := by simpa using hj
  exact ⟨v, World.cell?_alloc_new _ _ _ _, by simpa using h.below hb⟩
theorem longB_one (xs : List Nat) : longB [xs] 1 = decide (Big ≤ val B64 xs) := by simp [longB]

/-- what Shl answers, behind a name -/
structure ShlIs (a : Nat) (n : Int) (N : Nat) (ER : Int) : Prop where
  rn : shlN a n = N
  re : shlE a n = ER
theorem ShlIs.neg {a N : Nat} {n ER : Int} (h : ShlIs a n N ER) (hn : n < 0) : N = 0 ∧ ER = 1 := by
  rw [← h.rn, ← h.re]; exact shl_neg hn
theorem ShlIs.long {a N : Nat} {n ER : Int} (h : ShlIs a n N ER) (hn : ¬ n < 0) (h2 : Big ≤ a) : N = 0 ∧ ER = 5 := by
  rw [← h.rn, ← h.re]; exact shl_long hn h2
theorem ShlIs.fine {a N n : Nat} {ER : Int} (h : ShlIs a (n : Int) N ER) (h2 : ¬ Big ≤ a) : N = cutN (a * 2 ^ n) ∧ ER = cutE (a * 2 ^ n) := by
  rw [← h.rn, ← h.re]; exact shl_fine h2
theorem ShlIs.zero {N n : Nat} {ER : Int} (h : ShlIs 0 (n : Int) N ER) : N = 0 ∧ ER = 0 := by
  rw [← h.rn, ← h.re]; exact shl_zero
set_option maxHeartbeats 2000000 in
set_option maxRecDepth 100000 in
theorem rshl_at (v : Value) (xs : List Nat) (n : Int) (w : World) (h : Sl w .u64 v xs) (hl : Lim B64 xs) (hx : xs.length ≤ 1048576) (hn : -9223372036854775808 ≤ n ∧ n ≤ 9223372036854775807) (a N : Nat) (ER : Int) (ha : val B64 xs = a) (HK : ShlIs a n N ER) :
    Calls Tryd.prog 38 #[v, .int .i64 n] w fun e w' => ∃ v', e = .returned (.tuple #[v', .int .i64 ER]) ∧ Num w' v' N ∧ Below w.heap.size w w' := by
  obtain ⟨hn1, hn2⟩ := hn
  obtain ⟨a0, c0, rfl⟩ := h.shape
  have H := Lib.hid h; have HL := Lib.hid hl; have HX := Lib.hid hx
  have NL := Lib.hid (natList_one h)
  have LG := Lib.hid (long_any _ [xs] _ NL.out (fun j => by
    match j with
    | 0 => exact hl
    | j + 1 => exact lim_nil (by have := B64_pos; omega)) (fun j => by
    match j with
    | 0 => show xs.length ≤ 4000000; omega
    | j + 1 => simp))
  have hlb := longB_one xs
  rw [ha] at hlb
  have LB := Lib.hid hlb; have HA := Lib.hid ha
  clear h hl hx ha hlb
  by_cases hneg : n < 0
  · have E := Lib.hid (HK.neg hneg)
    go_enter Tryd.func38, Tryd.ntmps38
    go_wp2
    go_ret2
    exact ⟨_, by rw [E.out.2]; rfl, by rw [E.out.1]; exact num_nil _, Below.refl _ _⟩
  · obtain ⟨n, rfl⟩ : ∃ m : Nat, n = (m : Int) := ⟨n.toNat, by omega⟩
    clear hneg hn1
    have hnn : n ≤ 9223372036854775807 := by omega
    have hnd : decide ((n : Int) < 0) = false := decide_eq_false (by omega)
    have hHK := HK
    clear HK
    have HK := Lib.hid hHK
    clear hHK
    go_enter Tryd.func38, Tryd.ntmps38
    go_wp2_with fail
    refine LG.out.mono ?_
    rintro e w1 ⟨rfl, hb1⟩
    have B1 : Hid (Below w.heap.size w w1) := Lib.hid (((Below.refl _ _).alloc (Nat.le_refl _) _).trans (hb1.mono (by simp)))
    clear hb1
    rw [show [xs].length = 1 from rfl, LB.out]
    by_cases hbig : Big ≤ a
    · have hd : decide (Big ≤ a) = true := decide_eq_true hbig
      have E := Lib.hid (HK.out.long (by omega) hbig)
      rw [hd]
      clear hd hbig
      go_wp2
      go_ret2
      exact ⟨_, by rw [E.out.2]; rfl, by rw [E.out.1]; exact num_nil _, B1.out⟩
    · have hd : decide (Big ≤ a) = false := decide_eq_false hbig
      have E := Lib.hid (HK.out.fine hbig)
      have NB := Lib.hid hbig
      have SB := Lib.hid (fun h => shl_big (a := a) (n := n) h)
      have E0 : Hid (a = 0 → N = 0 ∧ ER = 0) := Lib.hid (fun h => by have HK' := HK.out; rw [h] at HK'; exact HK'.zero)
      rw [hd]
      clear hd hbig
      have FR := Lib.hid (from_any _ xs w1 (H.out.below B1.out) HL.out (by have := HX.out; omega))
      rw [HA.out] at FR
      go_wp2_with fail
      refine FR.out.mono ?_
      rintro e w2 ⟨v2, rfl, hn2, hb2⟩
      obtain ⟨a2, len2, c2, rfl, hz2⟩ := hnum_len hn2
      have B2 := Lib.hid (below_step B1.out hb2); have N2 := Lib.hid hn2
      clear hn2 hb2
      by_cases h0 : a = 0
      · have hl2 : ((len2 : Int) == 0) = true := len_eq (hz2.2 h0)
        have E2 := Lib.hid (E0.out h0)
        clear hz2 h0
        go_wp2
        go_ret2
        exact ⟨_, by rw [E2.out.2]; rfl, by rw [E2.out.1]; exact num_nil _, B2.out⟩
      · have hl2 : ((len2 : Int) == 0) = false := len_ne (fun h => h0 (hz2.1 h))
        have hsb := SB.out h0
        have H0 := Lib.hid h0; have HSB := Lib.hid hsb
        clear hz2 h0 hsb
        by_cases hfar : 262144 < n
        · have E2 := Lib.hid (cut_big (HSB.out.2 (by omega)))
          go_wp2
          go_ret2
          exact ⟨_, by rw [E.out.2, E2.out.2]; rfl, by rw [E.out.1, E2.out.1]; exact num_nil _, B2.out⟩
        · obtain ⟨q, r, hqr, hr⟩ : ∃ q r, n = 16 * q + r ∧ r < 16 := ⟨n / 16, n % 16, by omega, by omega⟩
          have hdiv : (n : Int) / 16 = (q : Int) := by omega
          have hmod : (n : Int) % 16 = (r : Int) := by omega
          have HQR := Lib.hid hqr
          have hn3 : n ≤ 262144 := by omega
          have hq3 : q ≤ 16384 := by omega
          clear hqr hfar
          go_wp2_with (at_make; refine make_half rfl _ _ rfl _ _ q rfl rfl (by omega) (by omega) (by omega) ?_; intro w3 hrow hb3)
          have B3 := Lib.hid (below_step B2.out hb3); have N3 := Lib.hid (N2.out.below hb3); have HROW := Lib.hid hrow
          clear hb3 hrow
          have hpow : ((2 : Int) ^ r % 4294967296) = ((2 ^ r : Nat) : Int) := by
            have h1 : 2 ^ r < 65536 := Nat.pow_lt_pow_right (by omega) hr
            rw [pow2_int]
            generalize 2 ^ r = p at *
            omega
          have hrp : 2 ^ r ≠ 0 := by have : 0 < 2 ^ r := Nat.pow_pos (by omega); omega
          have hr16 : 2 ^ r < B16 := Nat.pow_lt_pow_right (by omega) hr
          have HONE := Lib.hid (hnum_one w3 (2 ^ r) hrp hr16)
          rw [← hpow] at HONE
          have HP16 := Lib.hid hr16; have HR0 := Lib.hid hrp
          clear hpow hrp hr16
          have N3a := Lib.hid (N3.out.below ((Below.refl _ _).alloc (Nat.le_refl _) (Obj.cells #[Value.int .u32 ((2 : Int) ^ r % 4294967296)] 66)))
          have HAB : Hid (a < B16 ^ (4 * maxL)) := Lib.hid (by rw [b16_big]; exact Nat.lt_of_not_le NB.out)
          go_wp2_with fail
          refine (mulH_any _ _ a (2 ^ r) (4 * maxL) 1 _ N3a.out HONE.out HAB.out (by rw [Nat.pow_one]; exact HP16.out) (by unfold maxL; omega)).mono ?_
          rintro e w4 ⟨v4, rfl, hn4, hb4⟩
          obtain ⟨ys, hs4, hl4, ht4, hv4⟩ := hn4
          have hp4 : 0 < ys.length := by
            rcases Nat.eq_zero_or_pos ys.length with h9 | h9
            · exfalso
              rw [List.eq_nil_of_length_eq_zero h9] at hv4
              have h10 : 0 < a * 2 ^ r := Nat.mul_pos (by have := H0.out; omega) (Nat.pow_pos (by omega))
              simp only [val] at hv4
              omega
            · exact h9
          have B4 : Hid (Below w.heap.size w w4) := Lib.hid (((B3.out.alloc B3.out.size _)).trans (hb4.mono (by have := B3.out.size; simp; omega)))
          have hrow4 : Row w4 66 .u32 w2.heap.size (List.replicate q 0) := (HROW.out.below ((Below.refl _ _).alloc (Nat.le_refl _) _)).below hb4
          have hown4 : w4.ownsRow w.heap.size 66 1 (.slice (some ⟨w2.heap.size, 0, none⟩) q q) (List.replicate q 0).length (cellsOf .u32 (List.replicate q 0)) := by
            have h9 := row_own hrow4 B2.out.size (by rw [List.length_replicate]; omega)
            rw [List.length_replicate] at h9
            rwa [List.length_replicate]
          have hylen := hs4.len
          have hyl : ys.length ≤ 16777216 - 16384 := by
            have h9 := length_of_val B16_pos ht4 (4 * maxL + 1) (by
              rw [hv4, Nat.pow_succ]
              exact Nat.mul_lt_mul'' HAB.out HP16.out)
            unfold maxL at h9
            omega
          obtain ⟨b4, o4, c4, rfl, _, _, _, _⟩ := hs4.pos hp4
          have HOWN := Lib.hid hown4; have HS4 := Lib.hid hs4; have HL4 := Lib.hid hl4; have HT4 := Lib.hid ht4; have HV4 := Lib.hid hv4
          clear hb4 hs4 hl4 ht4 hv4 hrow4 hown4
          go_wp2_with (refine append_halves (o := ⟨some 31, _, _, _, _, _⟩) rfl _ _ rfl w.heap.size _ _ (List.replicate q 0) ys rfl rfl HOWN.out HS4.out hp4 (by rw [List.length_replicate]; omega) B4.out.size ?_; intro v5 w5 hown5 hg5)
          have hl5 : (List.replicate q 0 ++ ys).length ≤ 16777216 := by rw [List.length_append, List.length_replicate]; omega
          have hv5 : val B16 (List.replicate q 0 ++ ys) = a * 2 ^ n := by
            rw [val_append, val_zero (fun j => getD_replicate _ _), List.length_replicate, HV4.out, HQR.out, Nat.zero_add, Nat.pow_add, Nat.pow_mul, Nat.mul_left_comm]
            rfl
          have HN5 : Hid (HNum w5 v5 (a * 2 ^ n)) := Lib.hid ⟨_, sl_own hown5 hl5, lim_append (fun j => by rw [getD_replicate]; unfold B16; omega) HL4.out, top_append HT4.out hp4, hv5⟩
          have B5 := Lib.hid (below_own B4.out HOWN.out hg5 B4.out.size)
          clear hown5 hg5 hl5 hv5
          go_wp2_with fail
          refine (result_any _ _ _ HN5.out).mono ?_
          rintro e w6 ⟨v6, rfl, hn6, hb6⟩
          have B6 := Lib.hid (below_step B5.out hb6); have N6 := Lib.hid hn6; clear hn6 hb6
          go_wp2
          go_ret2
          exact ⟨_, by rw [E.out.2]; rfl, by rw [E.out.1]; exact N6.out, B6.out⟩
theorem rshl_any (v : Value) (xs : List Nat) (n : Int) (w : World) (h : Sl w .u64 v xs) (hl : Lim B64 xs) (hx : xs.length ≤ 1048576) (hn : -9223372036854775808 ≤ n ∧ n ≤ 9223372036854775807) :
    Calls Tryd.prog 38 #[v, .int .i64 n] w fun e w' => ∃ v', e = .returned (.tuple #[v', .int .i64 (shlE (val B64 xs) n)]) ∧ Num w' v' (shlN (val B64 xs) n) ∧ Below w.heap.size w w' :=
  rshl_at v xs n w h hl hx hn _ _ _ rfl ⟨rfl, rfl⟩
end Go.Proofs.YtafeokkkbiaajaaDoor
