/- NatOwn: the law's own walk. -/
import Derived.Test.YtafeokkkbiaajabDoorOwnS
import Derived.Test.YtafeokkkbiaajabDoorGcdE
import Derived.Test.YtafeokkkbiaajabDoorApp
import Derived.Test.YtafeokkkbiaajabDoorAlive
namespace Go.Proofs.YtafeokkkbiaajabDoor
open Go.RowKit Mth

/-- the block of a slice lies between two bounds -/
def Bnd (lo hi : Nat) (v : Value) : Prop := ∀ b, inBlock v = some b → lo ≤ b ∧ b < hi
theorem bnd_lo {lo lo' hi : Nat} {v : Value} (h : Bnd lo hi v) (hl : lo' ≤ lo) : Bnd lo' hi v := fun b e => ⟨Nat.le_trans hl (h b e).1, (h b e).2⟩
theorem bnd_ne {lo hi lo' hi' : Nat} {u v : Value} (h : Bnd lo hi v) (h' : Bnd lo' hi' u) (hd : hi ≤ lo' ∨ hi' ≤ lo) : ∀ b, inBlock v = some b → inBlock u ≠ some b := fun b e e' => by
  have := h b e; have := h' b e'; omega
theorem bnd_own {w : World} {base n : Nat} {v : Value} (h : Own w base v n) : Bnd base w.heap.size v := fun b hb => ⟨by
  rcases h with ⟨rfl, _⟩ | ⟨g, len, cap, R, rfl, _, h2, _⟩
  · simp [inBlock] at hb
  · simp [inBlock] at hb; omega, (pen_own h).lt b hb⟩
theorem bnd_row {w : World} {base e n : Nat} {v : Value} {xs : List Value} (h : w.ownsRow base e 1 v n xs) (hn : n ≤ 16777216) : Bnd base w.heap.size v := fun b hb => ⟨lies_own h b hb, (pen_row h hn).lt b hb⟩
theorem ne_lies {lo lo' hi' : Nat} {u v : Value} (h : Lies lo v) (h' : Bnd lo' hi' u) (hd : hi' ≤ lo) : ∀ b, inBlock v = some b → inBlock u ≠ some b := fun b e e' => by
  have := h b e; have := h' b e'; omega
theorem sl_apart {w w' : World} {u v : Value} {xs : List Nat} (h : Sl w .u64 v xs) (hg : w.grownBy w' (inBlock u)) (hne : ∀ b, inBlock v = some b → inBlock u ≠ some b) : Sl w' .u64 v xs := by
  refine h.grown hg ?_
  by_cases hx : xs = []
  · exact .inr hx
  · left
    obtain ⟨b, off, cap, e, _⟩ := h.pos (List.length_pos_iff.2 hx)
    intro e2
    have : inBlock v = some b := by rw [e]; rfl
    exact hne b this (by rw [← e2, this])
theorem below_apart {w0 w w' : World} {lo hi : Nat} {u : Value} (h : Below w0.heap.size w0 w) (hg : w.grownBy w' (inBlock u)) (hb : Bnd lo hi u) (hlo : w0.heap.size ≤ lo) : Below w0.heap.size w0 w' :=
  h.grown hg h.size (fun k e => Nat.le_trans hlo (hb k e).1)
theorem pen_shape {w : World} {v : Value} (h : Pen w v) : ∃ ao n cap, v = .slice ao n cap := by
  obtain ⟨ao, n, cap, e, _⟩ := h.shape; exact ⟨ao, n, cap, e⟩
theorem num_shape {w : World} {v : Value} {n : Nat} (h : Num w v n) : ∃ ao k cap, v = .slice ao k cap := by
  obtain ⟨xs, s, _⟩ := h; obtain ⟨ao, cap, e⟩ := s.shape; exact ⟨ao, _, cap, e⟩
theorem pen_bounds {w : World} {ao : Option Addr} {n cap : Nat} (h : Pen w (.slice ao n cap)) : n ≤ cap ∧ cap ≤ maxLen ∧ n ≤ 16777216 := by
  obtain ⟨_, _, _, e, h1, h2, h3⟩ := h.shape
  simp only [Value.slice.injEq] at e
  obtain ⟨_, rfl, rfl⟩ := e
  exact ⟨h3, h2, h1⟩
theorem lim_pair {xs ys : List Nat} (h1 : Lim B64 xs) (h2 : Lim B64 ys) : ∀ j, Lim B64 ([xs, ys].getD j []) := fun j => by
  match j with
  | 0 => exact h1
  | 1 => exact h2
  | j + 2 => exact lim_nil (by have := B64_pos; omega)
theorem lim_single {xs : List Nat} (h1 : Lim B64 xs) : ∀ j, Lim B64 ([xs].getD j []) := fun j => by
  match j with
  | 0 => exact h1
  | j + 1 => exact lim_nil (by have := B64_pos; omega)
theorem len_pair {xs ys : List Nat} (h1 : xs.length ≤ 1048576) (h2 : ys.length ≤ 1048576) : ∀ j, ([xs, ys].getD j []).length ≤ 4000000 := fun j => by
  match j with
  | 0 => show xs.length ≤ _; omega
  | 1 => show ys.length ≤ _; omega
  | j + 2 => exact Nat.zero_le _
theorem len_single {xs : List Nat} (h1 : xs.length ≤ 1048576) : ∀ j, ([xs].getD j []).length ≤ 4000000 := fun j => by
  match j with
  | 0 => show xs.length ≤ _; omega
  | j + 1 => exact Nat.zero_le _
theorem quo_own {v1 v2 : Value} {xs : List Nat} {n : Nat} {w : World} (h1 : Sl w .u64 v1 xs) (l1 : Lim B64 xs) (h2 : Num w v2 n) :
    Calls Tryd.prog 12 #[v1, v2] w fun e w' => ∃ vq vr, e = .returned (.tuple #[vq, vr, .int .i64 (quoE (val B64 xs) n)]) ∧ Own w' w.heap.size vq (quoN (val B64 xs) n) ∧ Below w.heap.size w w' := by
  obtain ⟨ys, s2, l2, _, rfl⟩ := h2
  refine (quo_any v1 v2 xs ys w h1 s2 l1 l2).mono ?_
  rintro e w' ⟨vq, vr, h3, h4, _, h5⟩
  exact ⟨vq, vr, h3, h4, h5⟩
theorem same_sl (v1 v2 : Value) (xs : List Nat) (w : World) (h1 : Sl w .u64 v1 xs) (h2 : Sl w .u64 v2 xs) : Calls Tryd.prog 17 #[v1, v2] w fun e w' => e = .returned (.bool true) ∧ Below w.heap.size w w' := by
  by_cases hp : 0 < xs.length
  · exact same_pos v1 v2 xs w h1 h2 hp
  · obtain rfl : xs = [] := List.eq_nil_of_length_eq_zero (by omega)
    obtain ⟨a1, c1, rfl, _, h3, _⟩ := h1
    obtain ⟨a2, c2, rfl, _, h4, _⟩ := h2
    exact same_zero a1 a2 c1 c2 w h3 h4

set_option maxHeartbeats 4000000 in
set_option maxRecDepth 100000 in
theorem owns_walk (w : World) (v0 v1 : Value) (xs ys : List Nat) (hz : TZ w) (h0 : Sl w .u64 v0 xs) (h1 : Sl w .u64 v1 ys) (l0 : Lim B64 xs) (l1 : Lim B64 ys) (n0 : xs.length ≤ 1048576) (n1 : ys.length ≤ 1048576) :
    Calls Tryd.prog 4 #[v0, v1] w fun e w' => e = .returned (.bool true) ∧ Below w.heap.size w w' := by
  have HZ := Lib.hid hz; have HA := Lib.hid h0; have HB := Lib.hid h1; have LA := Lib.hid l0; have LB := Lib.hid l1; have N0 := Lib.hid n0; have N1 := Lib.hid n1
  obtain ⟨a0, c0, rfl⟩ := h0.shape
  obtain ⟨a1, c1, rfl⟩ := h1.shape
  clear hz h0 h1 l0 l1 n0 n1
  go_enter Tryd.func4, Tryd.ntmps4
  go_upto_region 3 with (refine append_sl (o := ⟨some 29, _, _, _, _, _⟩) rfl _ _ rfl w.heap.size _ _ [] xs rfl rfl (World.ownsRow_nil _ _ _ _) HA.out (by simp) (Nat.le_refl _) ?_; intro c w1 hown1 hg1)
  have hb1 : Below w.heap.size w w1 := (Below.refl w.heap.size w).grown hg1 (Nat.le_refl _) (fun k e => by
    have e' : (Value.slice none 0 0).ownBlock = some k := e
    simp [Value.ownBlock] at e')
  rw [List.nil_append] at hown1
  have B1 := Lib.hid hb1
  have PC1 := Lib.hid (pen_row hown1 (by have := N0.out; omega)); have BC := Lib.hid (bnd_row hown1 (by have := N0.out; omega)); have SC1 := Lib.hid (sl_own hown1 (by have := N0.out; omega))
  obtain ⟨ca, cc, rfl⟩ := SC1.out.shape
  clear hown1 hg1 hb1
  go_upto_region 4 with (refine append_sl (o := ⟨some 32, _, _, _, _, _⟩) rfl _ _ rfl w1.heap.size _ _ [] ys rfl rfl (World.ownsRow_nil _ _ _ _) (HB.out.below B1.out) (by simp) (Nat.le_refl _) ?_; intro d w2 hown2 hg2)
  have hb2 : Below w1.heap.size w1 w2 := (Below.refl w1.heap.size w1).grown hg2 (Nat.le_refl _) (fun k e => by
    have e' : (Value.slice none 0 0).ownBlock = some k := e
    simp [Value.ownBlock] at e')
  rw [List.nil_append] at hown2
  have B2 := Lib.hid (below_step B1.out hb2)
  have BD := Lib.hid (bnd_row hown2 (by have := N1.out; omega)); have SD2 := Lib.hid (sl_own hown2 (by have := N1.out; omega))
  have PC2 := Lib.hid (PC1.out.below hb2); have SC2 := Lib.hid (SC1.out.below hb2)
  have Z2 := Lib.hid (show w.heap.size ≤ w1.heap.size ∧ w1.heap.size ≤ w2.heap.size from ⟨B1.out.size, hb2.size⟩)
  obtain ⟨da, dc, rfl⟩ := SD2.out.shape
  clear hown2 hg2 hb2 PC1 SC1
  go_wp2_with fail
  refine (add_own _ [xs, ys] _ (natList_pair SC2.out SD2.out) (lim_pair LA.out LB.out)).mono ?_
  rintro e w3 ⟨s, rfl, hs, hr⟩
  have hb3 : Below w2.heap.size w2 w3 := ((Below.refl _ _).alloc (Nat.le_refl _) _).trans (hr.mono (by simp))
  have B3 := Lib.hid (below_step B2.out hb3)
  have PC3 := Lib.hid (PC2.out.below hb3)
  have SC3 := Lib.hid (SC2.out.below hb3)
  have SD3 := Lib.hid (SD2.out.below hb3)
  have BS := Lib.hid (bnd_lo (bnd_own hs) (show w2.heap.size ≤ _ by simp))
  have NS3 := Lib.hid hs.num
  obtain ⟨sa, sk, sc, rfl⟩ := pen_shape (pen_own hs)
  clear hs hr
  have Z3 := Lib.hid (And.intro Z2.out hb3.size)
  clear hb3 Z2 PC2 SC2 SD2
  go_wp2_with fail
  refine (mul_own _ _ [xs] (natList_one SC3.out) ⟨xs, rfl⟩ (lim_single LA.out)).mono ?_
  rintro e w4 ⟨p, rfl, hs, hr⟩
  have hb4 : Below w3.heap.size w3 w4 := ((Below.refl _ _).alloc (Nat.le_refl _) _).trans (hr.mono (by simp))
  have B4 := Lib.hid (below_step B3.out hb4)
  have PC4 := Lib.hid (PC3.out.below hb4)
  have SC4 := Lib.hid (SC3.out.below hb4)
  have SD4 := Lib.hid (SD3.out.below hb4)
  have NS4 := Lib.hid (NS3.out.below hb4)
  have BP := Lib.hid (bnd_lo (bnd_own hs) (show w3.heap.size ≤ _ by simp))
  have NP4 := Lib.hid hs.num
  have PP4 := Lib.hid (pen_own hs)
  obtain ⟨pa, pk, pc, rfl⟩ := pen_shape (pen_own hs)
  clear hs hr
  have Z4 := Lib.hid (And.intro Z3.out hb4.size)
  clear hb4 Z3 PC3 SC3 SD3 NS3
  go_wp2_with fail
  refine (shl_own _ xs 0 _ SC4.out LA.out (by omega)).mono ?_
  rintro e w5 ⟨t, rfl, hs, hr⟩
  have hb5 : Below w4.heap.size w4 w5 := hr
  have B5 := Lib.hid (below_step B4.out hb5)
  have PC5 := Lib.hid (PC4.out.below hb5)
  have SC5 := Lib.hid (SC4.out.below hb5)
  have SD5 := Lib.hid (SD4.out.below hb5)
  have NS5 := Lib.hid (NS4.out.below hb5)
  have NP5 := Lib.hid (NP4.out.below hb5)
  have PP5 := Lib.hid (PP4.out.below hb5)
  have BT := Lib.hid (bnd_own hs)
  have PT5 := Lib.hid (pen_own hs)
  obtain ⟨ta, tk, tc, rfl⟩ := pen_shape (pen_own hs)
  clear hs hr
  have Z5 := Lib.hid (And.intro Z4.out hb5.size)
  clear hb5 Z4 PC4 SC4 SD4 NS4 NP4 PP4
  go_wp2_with fail
  refine (of_own 1 (by unfold B64; omega) _).mono ?_
  rintro e w6 ⟨o, rfl, hs, hr⟩
  have hb6 : Below w5.heap.size w5 w6 := hr
  have B6 := Lib.hid (below_step B5.out hb6)
  have PC6 := Lib.hid (PC5.out.below hb6)
  have SC6 := Lib.hid (SC5.out.below hb6)
  have SD6 := Lib.hid (SD5.out.below hb6)
  have NS6 := Lib.hid (NS5.out.below hb6)
  have NP6 := Lib.hid (NP5.out.below hb6)
  have PP6 := Lib.hid (PP5.out.below hb6)
  have PT6 := Lib.hid (PT5.out.below hb6)
  have NO6 := Lib.hid hs.num
  clear hs hr
  have Z6 := Lib.hid (And.intro Z5.out hb6.size)
  clear hb6 Z5 PC5 SC5 SD5 NS5 NP5 PP5 PT5
  go_wp2_with fail
  refine (quo_own SC6.out LA.out NO6.out).mono ?_
  rintro e w7 ⟨u, u2, rfl, hs, hr⟩
  have hb7 : Below w6.heap.size w6 w7 := hr
  have B7 := Lib.hid (below_step B6.out hb7)
  have PC7 := Lib.hid (PC6.out.below hb7)
  have SC7 := Lib.hid (SC6.out.below hb7)
  have SD7 := Lib.hid (SD6.out.below hb7)
  have NS7 := Lib.hid (NS6.out.below hb7)
  have NP7 := Lib.hid (NP6.out.below hb7)
  have PP7 := Lib.hid (PP6.out.below hb7)
  have PT7 := Lib.hid (PT6.out.below hb7)
  have BU := Lib.hid (bnd_own hs)
  have PU7 := Lib.hid (pen_own hs)
  obtain ⟨ua, uk, uc, rfl⟩ := pen_shape (pen_own hs)
  clear hs hr
  have Z7 := Lib.hid (And.intro Z6.out hb7.size)
  clear hb7 Z6 PC6 SC6 SD6 NS6 NP6 PP6 PT6 NO6
  go_wp2_with fail
  refine (gcd_any _ _ xs [] _ SC7.out (sl_nil _ _) LA.out (lim_nil (by have := B64_pos; omega))).mono ?_
  rintro e w8 ⟨g, rfl, hs, hr⟩
  have hb8 : Below w7.heap.size w7 w8 := hr
  have B8 := Lib.hid (below_step B7.out hb8)
  have PC8 := Lib.hid (PC7.out.below hb8)
  have SC8 := Lib.hid (SC7.out.below hb8)
  have SD8 := Lib.hid (SD7.out.below hb8)
  have NS8 := Lib.hid (NS7.out.below hb8)
  have NP8 := Lib.hid (NP7.out.below hb8)
  have PP8 := Lib.hid (PP7.out.below hb8)
  have PT8 := Lib.hid (PT7.out.below hb8)
  have PU8 := Lib.hid (PU7.out.below hb8)
  have BG := Lib.hid (bnd_own hs)
  have PG8 := Lib.hid (pen_own hs)
  obtain ⟨ga, gk, gc, rfl⟩ := pen_shape (pen_own hs)
  clear hs hr
  have Z8 := Lib.hid (And.intro Z7.out hb8.size)
  clear hb8 Z7 PC7 SC7 SD7 NS7 NP7 PP7 PT7 PU7
  go_wp2_with fail
  refine (radd_lies _ [xs, ys] _ (natList_pair (HA.out.below B8.out) (HB.out.below B8.out)) (lim_pair LA.out LB.out) (len_pair N0.out N1.out)).mono ?_
  rintro e w9 ⟨x, rfl, hn, hl, hr⟩
  have hb9 : Below w8.heap.size w8 w9 := ((Below.refl _ _).alloc (Nat.le_refl _) _).trans (hr.mono (by simp))
  have B9 := Lib.hid (below_step B8.out hb9)
  have PC9 := Lib.hid (PC8.out.below hb9)
  have SC9 := Lib.hid (SC8.out.below hb9)
  have SD9 := Lib.hid (SD8.out.below hb9)
  have NS9 := Lib.hid (NS8.out.below hb9)
  have NP9 := Lib.hid (NP8.out.below hb9)
  have PP9 := Lib.hid (PP8.out.below hb9)
  have PT9 := Lib.hid (PT8.out.below hb9)
  have PU9 := Lib.hid (PU8.out.below hb9)
  have PG9 := Lib.hid (PG8.out.below hb9)
  have LX := Lib.hid (hl.mono (show w8.heap.size ≤ _ by simp))
  have NX9 := Lib.hid hn
  obtain ⟨xa, xk, xc, rfl⟩ := num_shape hn
  clear hn hl hr
  have Z9 := Lib.hid (And.intro Z8.out hb9.size)
  clear hb9 Z8 PC8 SC8 SD8 NS8 NP8 PP8 PT8 PU8 PG8
  go_wp2_with fail
  refine (rmul_any _ [xs] _ (natList_one (HA.out.below B9.out)) (lim_single LA.out) (len_single N0.out)).mono ?_
  rintro e w10 ⟨y, rfl, hn, hr⟩
  have hb10 : Below w9.heap.size w9 w10 := ((Below.refl _ _).alloc (Nat.le_refl _) _).trans (hr.mono (by simp))
  have B10 := Lib.hid (below_step B9.out hb10)
  have PC10 := Lib.hid (PC9.out.below hb10)
  have SC10 := Lib.hid (SC9.out.below hb10)
  have SD10 := Lib.hid (SD9.out.below hb10)
  have NS10 := Lib.hid (NS9.out.below hb10)
  have NP10 := Lib.hid (NP9.out.below hb10)
  have PP10 := Lib.hid (PP9.out.below hb10)
  have PT10 := Lib.hid (PT9.out.below hb10)
  have PU10 := Lib.hid (PU9.out.below hb10)
  have PG10 := Lib.hid (PG9.out.below hb10)
  have NX10 := Lib.hid (NX9.out.below hb10)
  have NY10 := Lib.hid hn
  obtain ⟨ya, yk, yc, rfl⟩ := num_shape hn
  clear hn hr
  have Z10 := Lib.hid (And.intro Z9.out hb10.size)
  clear hb10 Z9 PC9 SC9 SD9 NS9 NP9 PP9 PT9 PU9 PG9 NX9
  generalize addE [xs, ys] = ev
  generalize mulE [xs] = fv
  have hev : (ev != ev) = false := by simp
  have hfv : (fv != fv) = false := by simp
  go_wp2_with fail
  refine (same_sl _ _ xs _ SC10.out (HA.out.below B10.out)).mono ?_
  rintro e w11 ⟨rfl, hr⟩
  have hb11 : Below w10.heap.size w10 w11 := hr
  have B11 := Lib.hid (below_step B10.out hb11)
  have PC11 := Lib.hid (PC10.out.below hb11)
  have SC11 := Lib.hid (SC10.out.below hb11)
  have SD11 := Lib.hid (SD10.out.below hb11)
  have NS11 := Lib.hid (NS10.out.below hb11)
  have NP11 := Lib.hid (NP10.out.below hb11)
  have PP11 := Lib.hid (PP10.out.below hb11)
  have PT11 := Lib.hid (PT10.out.below hb11)
  have PU11 := Lib.hid (PU10.out.below hb11)
  have PG11 := Lib.hid (PG10.out.below hb11)
  have NX11 := Lib.hid (NX10.out.below hb11)
  have NY11 := Lib.hid (NY10.out.below hb11)
  clear hr
  have Z11 := Lib.hid (And.intro Z10.out hb11.size)
  clear hb11 Z10 PC10 SC10 SD10 NS10 NP10 PP10 PT10 PU10 PG10 NX10 NY10
  go_wp2_with fail
  refine (same_sl _ _ ys _ SD11.out (HB.out.below B11.out)).mono ?_
  rintro e w12 ⟨rfl, hr⟩
  have hb12 : Below w11.heap.size w11 w12 := hr
  have B12 := Lib.hid (below_step B11.out hb12)
  have PC12 := Lib.hid (PC11.out.below hb12)
  have SC12 := Lib.hid (SC11.out.below hb12)
  have SD12 := Lib.hid (SD11.out.below hb12)
  have NS12 := Lib.hid (NS11.out.below hb12)
  have NP12 := Lib.hid (NP11.out.below hb12)
  have PP12 := Lib.hid (PP11.out.below hb12)
  have PT12 := Lib.hid (PT11.out.below hb12)
  have PU12 := Lib.hid (PU11.out.below hb12)
  have PG12 := Lib.hid (PG11.out.below hb12)
  have NX12 := Lib.hid (NX11.out.below hb12)
  have NY12 := Lib.hid (NY11.out.below hb12)
  clear hr
  have Z12 := Lib.hid (And.intro Z11.out hb12.size)
  clear hb12 Z11 PC11 SC11 SD11 NS11 NP11 PP11 PT11 PU11 PG11 NX11 NY11
  go_wp2_with fail
  refine (same_any _ _ _ _ NS12.out NX12.out).mono ?_
  rintro e w13 ⟨rfl, hr⟩
  have hb13 : Below w12.heap.size w12 w13 := hr
  have B13 := Lib.hid (below_step B12.out hb13)
  have PC13 := Lib.hid (PC12.out.below hb13)
  have SC13 := Lib.hid (SC12.out.below hb13)
  have SD13 := Lib.hid (SD12.out.below hb13)
  have NS13 := Lib.hid (NS12.out.below hb13)
  have NP13 := Lib.hid (NP12.out.below hb13)
  have PP13 := Lib.hid (PP12.out.below hb13)
  have PT13 := Lib.hid (PT12.out.below hb13)
  have PU13 := Lib.hid (PU12.out.below hb13)
  have PG13 := Lib.hid (PG12.out.below hb13)
  have NX13 := Lib.hid (NX12.out.below hb13)
  have NY13 := Lib.hid (NY12.out.below hb13)
  clear hr
  have Z13 := Lib.hid (And.intro Z12.out hb13.size)
  clear hb13 Z12 PC12 SC12 SD12 NS12 NP12 PP12 PT12 PU12 PG12 NX12 NY12
  go_wp2_with fail
  refine (same_any _ _ _ _ NP13.out NY13.out).mono ?_
  rintro e w14 ⟨rfl, hr⟩
  have hb14 : Below w13.heap.size w13 w14 := hr
  have B14 := Lib.hid (below_step B13.out hb14)
  have PC14 := Lib.hid (PC13.out.below hb14)
  have SD14 := Lib.hid (SD13.out.below hb14)
  have NS14 := Lib.hid (NS13.out.below hb14)
  have PP14 := Lib.hid (PP13.out.below hb14)
  have PT14 := Lib.hid (PT13.out.below hb14)
  have PU14 := Lib.hid (PU13.out.below hb14)
  have PG14 := Lib.hid (PG13.out.below hb14)
  have NX14 := Lib.hid (NX13.out.below hb14)
  clear hr
  have Z14 := Lib.hid (And.intro Z13.out hb14.size)
  clear hb14 Z13 PC13 SC13 SD13 NS13 NP13 PP13 PT13 PU13 PG13 NX13 NY13
  have PNP := Lib.hid (pen_bounds PP14.out)
  go_wp2_with fail
  go_loopw [22] (fun i wr => PenO w14 wr (.slice pa pk pc) pk i) (fun i _ => pk - (intOf i).toNat)
  case atStart => exact ⟨0, Nat.zero_le _, rfl, PP14.out, World.grownBy.refl _ _⟩
  case round =>
    obtain ⟨k, hk, rfl, hp, hg⟩ := hrel
    rename World => w15
    by_cases hlt : k < pk
    · obtain ⟨g0, rfl, ⟨u0, hu⟩, hf, hset⟩ := hp.at hlt
      have hk1 : (k : Int) < (pk : Int) := by omega
      have hkb := PNP.out
      unfold maxLen at hkb
      have HSET := Lib.hid hset; have HG := Lib.hid hg
      clear hp hg hset
      go_wp2
      go_roundw
      case rel => exact ⟨k + 1, by omega, by go_num, (HSET.out _).1, grown_trans' HG.out (HSET.out _).2⟩
      case measure => simp [intOf]; omega
    · have hk2 : ¬ (k : Int) < (pk : Int) := by omega
      have hzz := Z14.out
      have B15 := Lib.hid (below_apart B14.out hg BP.out (by omega))
      have PC15 := Lib.hid (PC14.out.apart hg (bnd_ne BC.out BP.out (by omega)))
      have SD15 := Lib.hid (sl_apart SD14.out hg (bnd_ne BD.out BP.out (by omega)))
      have NS15 := Lib.hid (NS14.out.apart hg (bnd_ne BS.out BP.out (by omega)))
      have PT15 := Lib.hid (PT14.out.apart hg (bnd_ne BT.out BP.out (by omega)))
      have PU15 := Lib.hid (PU14.out.apart hg (bnd_ne BU.out BP.out (by omega)))
      have PG15 := Lib.hid (PG14.out.apart hg (bnd_ne BG.out BP.out (by omega)))
      have NX15 := Lib.hid (NX14.out.apart hg (ne_lies LX.out BP.out (by omega)))
      clear hp hg hk hlt hzz PNP PC14 SD14 NS14 PT14 PU14 PG14 NX14 PP14
      have PNT := Lib.hid (pen_bounds PT15.out)
      go_wp2_with fail
      go_loopw [23] (fun i wr => PenO w15 wr (.slice ta tk tc) tk i) (fun i _ => tk - (intOf i).toNat)
      case atStart => exact ⟨0, Nat.zero_le _, rfl, PT15.out, World.grownBy.refl _ _⟩
      case round =>
        obtain ⟨k, hk, rfl, hp, hg⟩ := hrel
        rename World => w16
        by_cases hlt : k < tk
        · obtain ⟨g0, rfl, ⟨u0, hu⟩, hf, hset⟩ := hp.at hlt
          have hk1 : (k : Int) < (tk : Int) := by omega
          have hkb := PNT.out
          unfold maxLen at hkb
          have HSET := Lib.hid hset; have HG := Lib.hid hg
          clear hp hg hset
          go_wp2
          go_roundw
          case rel => exact ⟨k + 1, by omega, by go_num, (HSET.out _).1, grown_trans' HG.out (HSET.out _).2⟩
          case measure => simp [intOf]; omega
        · have hk2 : ¬ (k : Int) < (tk : Int) := by omega
          have hzz := Z14.out
          have B16 := Lib.hid (below_apart B15.out hg BT.out (by omega))
          have PC16 := Lib.hid (PC15.out.apart hg (bnd_ne BC.out BT.out (by omega)))
          have SD16 := Lib.hid (sl_apart SD15.out hg (bnd_ne BD.out BT.out (by omega)))
          have NS16 := Lib.hid (NS15.out.apart hg (bnd_ne BS.out BT.out (by omega)))
          have PU16 := Lib.hid (PU15.out.apart hg (bnd_ne BU.out BT.out (by omega)))
          have PG16 := Lib.hid (PG15.out.apart hg (bnd_ne BG.out BT.out (by omega)))
          have NX16 := Lib.hid (NX15.out.apart hg (ne_lies LX.out BT.out (by omega)))
          clear hp hg hk hlt hzz PNT PC15 SD15 NS15 PU15 PG15 NX15 PT15
          have PNU := Lib.hid (pen_bounds PU16.out)
          go_wp2_with fail
          go_loopw [24] (fun i wr => PenO w16 wr (.slice ua uk uc) uk i) (fun i _ => uk - (intOf i).toNat)
          case atStart => exact ⟨0, Nat.zero_le _, rfl, PU16.out, World.grownBy.refl _ _⟩
          case round =>
            obtain ⟨k, hk, rfl, hp, hg⟩ := hrel
            rename World => w17
            by_cases hlt : k < uk
            · obtain ⟨g0, rfl, ⟨u0, hu⟩, hf, hset⟩ := hp.at hlt
              have hk1 : (k : Int) < (uk : Int) := by omega
              have hkb := PNU.out
              unfold maxLen at hkb
              have HSET := Lib.hid hset; have HG := Lib.hid hg
              clear hp hg hset
              go_wp2
              go_roundw
              case rel => exact ⟨k + 1, by omega, by go_num, (HSET.out _).1, grown_trans' HG.out (HSET.out _).2⟩
              case measure => simp [intOf]; omega
            · have hk2 : ¬ (k : Int) < (uk : Int) := by omega
              have hzz := Z14.out
              have B17 := Lib.hid (below_apart B16.out hg BU.out (by omega))
              have PC17 := Lib.hid (PC16.out.apart hg (bnd_ne BC.out BU.out (by omega)))
              have SD17 := Lib.hid (sl_apart SD16.out hg (bnd_ne BD.out BU.out (by omega)))
              have NS17 := Lib.hid (NS16.out.apart hg (bnd_ne BS.out BU.out (by omega)))
              have PG17 := Lib.hid (PG16.out.apart hg (bnd_ne BG.out BU.out (by omega)))
              have NX17 := Lib.hid (NX16.out.apart hg (ne_lies LX.out BU.out (by omega)))
              clear hp hg hk hlt hzz PNU PC16 SD16 NS16 PG16 NX16 PU16
              have PNG := Lib.hid (pen_bounds PG17.out)
              go_wp2_with fail
              go_loopw [25] (fun i wr => PenO w17 wr (.slice ga gk gc) gk i) (fun i _ => gk - (intOf i).toNat)
              case atStart => exact ⟨0, Nat.zero_le _, rfl, PG17.out, World.grownBy.refl _ _⟩
              case round =>
                obtain ⟨k, hk, rfl, hp, hg⟩ := hrel
                rename World => w18
                by_cases hlt : k < gk
                · obtain ⟨g0, rfl, ⟨u0, hu⟩, hf, hset⟩ := hp.at hlt
                  have hk1 : (k : Int) < (gk : Int) := by omega
                  have hkb := PNG.out
                  unfold maxLen at hkb
                  have HSET := Lib.hid hset; have HG := Lib.hid hg
                  clear hp hg hset
                  go_wp2
                  go_roundw
                  case rel => exact ⟨k + 1, by omega, by go_num, (HSET.out _).1, grown_trans' HG.out (HSET.out _).2⟩
                  case measure => simp [intOf]; omega
                · have hk2 : ¬ (k : Int) < (gk : Int) := by omega
                  have hzz := Z14.out
                  have B18 := Lib.hid (below_apart B17.out hg BG.out (by omega))
                  have PC18 := Lib.hid (PC17.out.apart hg (bnd_ne BC.out BG.out (by omega)))
                  have SD18 := Lib.hid (sl_apart SD17.out hg (bnd_ne BD.out BG.out (by omega)))
                  have NS18 := Lib.hid (NS17.out.apart hg (bnd_ne BS.out BG.out (by omega)))
                  have NX18 := Lib.hid (NX17.out.apart hg (ne_lies LX.out BG.out (by omega)))
                  clear hp hg hk hlt hzz PNG PC17 SD17 NS17 NX17 PG17
                  have PNC := Lib.hid (pen_bounds PC18.out)
                  go_wp2_with fail
                  go_loopw [26] (fun i wr => PenO w18 wr (.slice ca xs.length cc) xs.length i) (fun i _ => xs.length - (intOf i).toNat)
                  case atStart => exact ⟨0, Nat.zero_le _, rfl, PC18.out, World.grownBy.refl _ _⟩
                  case round =>
                    obtain ⟨k, hk, rfl, hp, hg⟩ := hrel
                    rename World => w19
                    by_cases hlt : k < xs.length
                    · obtain ⟨g0, rfl, ⟨u0, hu⟩, hf, hset⟩ := hp.at hlt
                      have hk1 : (k : Int) < (xs.length : Int) := by omega
                      have hkb := PNC.out
                      unfold maxLen at hkb
                      have HSET := Lib.hid hset; have HG := Lib.hid hg
                      clear hp hg hset
                      go_wp2
                      go_roundw
                      case rel => exact ⟨k + 1, by omega, by go_num, (HSET.out _).1, grown_trans' HG.out (HSET.out _).2⟩
                      case measure => simp [intOf]; omega
                    · have hk2 : ¬ (k : Int) < (xs.length : Int) := by omega
                      have hzz := Z14.out
                      have B19 := Lib.hid (below_apart B18.out hg BC.out (by omega))
                      have SD19 := Lib.hid (sl_apart SD18.out hg (bnd_ne BD.out BC.out (by omega)))
                      have NS19 := Lib.hid (NS18.out.apart hg (bnd_ne BS.out BC.out (by omega)))
                      have NX19 := Lib.hid (NX18.out.apart hg (ne_lies LX.out BC.out (by omega)))
                      clear hp hg hk hlt hzz PNC SD18 NS18 NX18 PC18
                      go_wp2_with fail
                      refine (same_any _ _ _ _ NS19.out NX19.out).mono ?_
                      rintro e w20 ⟨rfl, hr⟩
                      have B20 := Lib.hid (below_step B19.out hr)
                      have SD20 := Lib.hid (SD19.out.below hr)
                      clear hr
                      go_wp2_with fail
                      refine (same_sl _ _ ys _ SD20.out (HB.out.below B20.out)).mono ?_
                      rintro e w21 ⟨rfl, hr⟩
                      have B21 := Lib.hid (below_step B20.out hr)
                      clear hr
                      go_wp2_with fail
                      refine (alive_any _ (HZ.out.below B21.out)).mono ?_
                      rintro e w22 ⟨rfl, hr⟩
                      have B22 := Lib.hid (below_step B21.out hr)
                      clear hr
                      go_wp2
                      go_ret
                      exact ⟨rfl, B22.out⟩
end Go.Proofs.YtafeokkkbiaajabDoor
