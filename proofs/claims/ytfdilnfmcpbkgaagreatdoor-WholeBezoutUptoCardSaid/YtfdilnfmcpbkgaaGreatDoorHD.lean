/- Package whole: quoByHand; quo of any two amounts. -/
import Derived.Test.YtfdilnfmcpbkgaaGreatDoorHC
set_option linter.unusedVariables false
set_option linter.unusedSimpArgs false
namespace Go.Proofs.YtfdilnfmcpbkgaaGreatDoor
open Go.RowKit Mth

theorem make_am {w : World} {ops : Array Oper} {rest : List Oper} {o : Oper} {a : Act} {Q : Exit → Act → World → Prop}
    (hg : o.guard = none) (l c : Operand) (hop : o.op = Op.makeSlice 47 l c) (L C : Int) (n : Nat) (hl : a.eval l = .int .i64 L) (hc : a.eval c = .int .i64 C) (hL : L = (n : Int)) (hC : C = (n : Int))
    (hn : n ≤ 16777217)
    (hK : ∀ w', Row w' 44 .u64 w.heap.size (List.replicate n 0) → Below w.heap.size w w' → wpList Tryz.prog ops Q rest (a.put o.dst (.slice (some ⟨w.heap.size, 0, none⟩) n n)) w') :
    wpList Tryz.prog ops Q (o :: rest) a w := by
  obtain ⟨i0, hi, hz0, hz1, hz2⟩ := info_parts info_u64
  refine wpList_make_full w hg l c 47 hop w.heap.size 44 i0 _ 1 Tryz.underlying47 hi hz0 hz1 .i64 .i64 L C n hl hc hL hC (by rw [hz2]; omega) (by unfold maxLen; omega) (Nat.le_refl _) ?_
  intro w' hown hgrow
  rw [zeros_own] at hown
  exact hK w' (row_of_own hown).1 ((Below.refl _ _).grown hgrow (Nat.le_refl _) (fun k e => by simp at e))

/-- a stretch, seen from within a row -/
theorem mid_part {w : World} {g : Nat} {R : List Nat} {post : List Value} (h : Mid w g [] R post) {i m : Nat} (hi : i + m ≤ R.length) :
    Mid w g (cellsOf .u64 (R.take i)) ((R.drop i).take m) (cellsOf .u64 (R.drop (i + m)) ++ post) := by
  unfold Mid at *
  rw [h]
  congr 3
  rw [List.nil_append, ← List.append_assoc, ← cellsOf_append, ← cellsOf_append]
  congr 2
  rw [← List.drop_drop, List.append_assoc, List.take_append_drop, List.take_append_drop]
theorem part_mid {w : World} {g : Nat} {R zs : List Nat} {post : List Value} {i m : Nat} (h : Mid w g (cellsOf .u64 (R.take i)) zs (cellsOf .u64 (R.drop (i + m)) ++ post)) : Mid w g [] (R.take i ++ zs ++ R.drop (i + m)) post := by
  unfold Mid at *
  rw [h]
  congr 3
  rw [List.nil_append, ← List.append_assoc, ← cellsOf_append, ← cellsOf_append]
theorem Mid.sl {w : World} {g off cap : Nat} {pre post : List Value} {xs : List Nat} (h : Mid w g pre xs post) (hoff : pre.length = off) (hc : xs.length ≤ cap) (hm : cap ≤ maxLen) (hl : xs.length ≤ 16777216) : Sl w .u64 (.slice (some ⟨g, off, none⟩) xs.length cap) xs :=
  ⟨_, cap, rfl, hc, hm, hl, (fun e => by cases e), fun _ => ⟨g, off, rfl, h.lt, fun _ hj => by rw [← hoff]; exact h.cell hj⟩⟩
/-- one digit, put back into the row -/
theorem dig_put {R zs : List Nat} {i n D : Nat} (hi : i + (n + 1) ≤ R.length) (hz : zs.length = n + 1) (lz : Lim B64 zs) (lR : Lim B64 R) (hv : val B64 zs = val B64 ((R.drop i).take (n + 1)) % D) : DigT R (R.take i ++ zs ++ R.drop (i + (n + 1))) i n D := by
  have hl : (R.take i).length = i := by rw [List.length_take]; omega
  have key : ∀ j, (R.take i ++ zs ++ R.drop (i + (n + 1))).getD j 0 = if j < i then R.getD j 0 else if j < i + (n + 1) then zs.getD (j - i) 0 else R.getD j 0 := by
    intro j
    simp only [List.getD_eq_getElem?_getD]
    by_cases h1 : j < i
    · rw [if_pos h1, List.append_assoc, List.getElem?_append_left (by omega), List.getElem?_take_of_lt h1]
    · rw [if_neg h1, List.append_assoc, List.getElem?_append_right (by omega), hl]
      by_cases h2 : j < i + (n + 1)
      · rw [if_pos h2, List.getElem?_append_left (by omega)]
      · rw [if_neg h2, List.getElem?_append_right (by omega), List.getElem?_drop]
        congr 2
        omega
  refine ⟨by simp [hz]; omega, fun j hj => ?_, fun j => ?_, ?_⟩
  · rw [key]
    by_cases h1 : j < i
    · rw [if_pos h1]
    · rw [if_neg h1, if_neg (by omega)]
  · rw [key]
    split
    · exact lR j
    · split
      · exact lz _
      · exact lR j
  · unfold seg
    rw [← hv]
    congr 1
    rw [List.append_assoc, List.drop_append_of_le_length (by omega), List.drop_of_length_le (by omega), List.nil_append, List.take_append_of_le_length (by omega), List.take_of_length_le (by omega)]
/-- the beginning -/
theorem hand_zero {xs ys : List Nat} {p n : Nat} (lx : Lim B64 xs) (ty : Top ys) (hy : ys.length = n) (hn : 0 < n) (hx : xs.length = p + n) :
    LongT (xs ++ [0]) (List.replicate (p + 1) 0) (p + n + 1) (p + 1) n (val B64 xs) (val B64 ys) (p + 1) := by
  have e0 : val B64 (xs ++ [0]) = val B64 xs := by rw [val_append]; simp [val]
  refine ⟨by simp; omega, by simp, ?_, fun j => by rw [getD_replicate]; have := B64_pos; omega, ?_, ?_⟩
  · exact lim_snoc lx (by have := B64_pos; omega)
  · rw [e0]
    have h1 := val_lt lx
    have h2 := val_ge_top (B := B64) ty (by omega)
    have h3 : B64 ^ (p + 1) * B64 ^ (ys.length - 1) ≤ B64 ^ (p + 1) * val B64 ys := Nat.mul_le_mul_left _ h2
    rw [← Nat.pow_add, show p + 1 + (ys.length - 1) = xs.length by omega] at h3
    omega
  · rw [e0, List.drop_of_length_le (by simp)]
    simp [val]

/-- what quoByHand's loop holds -/
def HandQ (w wr : World) (gr gq p n N D : Nat) (post : List Value) (i : Value) : Prop := ∃ (k : Nat) (R Q : List Nat), k ≤ p + 1 ∧ i = .int .i64 ((k : Int) - 1) ∧ LongT R Q (p + n + 1) (p + 1) n N D k ∧ Mid wr gr [] R post ∧ Row wr 44 .u64 gq Q ∧ Below w.heap.size w wr

set_option maxHeartbeats 8000000 in
set_option maxRecDepth 100000 in
theorem byHand_any (u v : Value) (xs ys : List Nat) (p n : Nat) (w : World) (ha : Sl w .u64 u xs) (hb : Sl w .u64 v ys) (lx : Lim B64 xs) (ly : Lim B64 ys) (tx : Top xs) (ty : Top ys) (hn : 0 < n) (hyl : ys.length = n) (hxl : xs.length = p + n) (hal : xs.length ≤ 8000000) :
    Calls Tryz.prog 91 #[u, v] w fun e w' => ∃ q r, e = .returned (.tuple #[q, r]) ∧ Ow w' w.heap.size q (val B64 xs / val B64 ys) ∧ Ow w' w.heap.size r (val B64 xs % val B64 ys) ∧ Below w.heap.size w w' := by
  have ZZ := Lib.hid (hand_zero lx ty hyl hn hxl)
  have HA := Lib.hid ha; have LX := Lib.hid lx; have LY := Lib.hid ly; have TX := Lib.hid tx; have TY := Lib.hid ty
  obtain ⟨aa, ca, rfl⟩ := ha.shape
  obtain ⟨bb, boff, bcap, rfl, hb1, hb2, hblt, _⟩ := hb.pos (by omega)
  have HB := Lib.hid hb
  rw [hyl] at HB hb1 ⊢
  rw [hxl] at HA hal ⊢
  have HXL := Lib.hid hxl; have HYL := Lib.hid hyl
  have hw1 : IntKind.i64.wrap ((p : Int) + (n : Int) - (n : Int)) = (p : Int) := by rw [IntKind.wrap_i64]; omega
  have hw2 : IntKind.i64.wrap ((p : Int) + 1) = ((p + 1 : Nat) : Int) := by rw [IntKind.wrap_i64]; omega
  clear ha hb lx ly tx ty hyl hxl
  go_enter Tryz.func91, Tryz.ntmps91
  go_wp2_with (at_make; refine make_am rfl _ _ rfl _ _ (p + 1) rfl rfl (by omega) (by omega) (by omega) ?_; intro w1 hrow hb1')
  refine (wfresh_any _ xs w1 (HA.out.below hb1') LX.out TX.out).mono ?_
  rintro e w2 ⟨v2, rfl, _, ho2, hb2⟩
  obtain ⟨a2, c2, rfl, hd1, hd2⟩ := own_shape ho2
  have HO2 := Lib.hid ho2
  have B2 := Lib.hid (below_step (Lib.hid hb1').out hb2)
  have HRQ2 := Lib.hid (hrow.below hb2)
  have hq1 := hrow.lt
  have hs12 := hb2.size
  have hws := hb1'.size
  clear hrow hb1' hb2 ho2
  go_wp2_with (refine append_one (o := ⟨some 19, _, _, _, _, _⟩) rfl _ _ rfl w1.heap.size _ xs 0 ⟨w2.heap.size, 0, none⟩ rfl rfl (HO2.out.alloc _) (World.cell?_alloc_new _ _ _ _) (by have := HXL.out; omega) (by simp; omega) ?_; intro v5 w5 ho5 hg5 hat5)
  obtain ⟨gr, cap, post, rfl, hgb, hc5, hm5, hM5, hs5⟩ := mid_own ho5 (by simp)
  have hRl : (xs ++ [0]).length = p + n + 1 := by rw [List.length_append, HXL.out]; rfl
  have B5 := Lib.hid ((below_step B2.out ((Below.refl _ _).alloc (Nat.le_refl _) _)).grown hg5 (by simp; omega) (fun k e => by have := (HO2.out.lt k e).1; omega))
  have HQ5 := Lib.hid ((HRQ2.out.below ((Below.refl _ _).alloc (Nat.le_refl _) _)).grown hg5 (fun e => by have := (HO2.out.lt _ e.symm).1; omega))
  have HM5 := Lib.hid hM5
  have hgq : w.heap.size < gr := by omega
  have e5 : (xs ++ [0]).length + post.length = cap := hs5
  rw [hRl] at hc5 e5 ⊢
  unfold maxLen at hm5
  clear ho5 hg5 hM5 hs5 hat5 hRl
  go_loopw [8] (fun i wr => HandQ w wr gr w.heap.size p n (val B64 xs) (val B64 ys) post i) (fun i _ => (intOf i + 1).toNat)
  case atStart => exact ⟨p + 1, _, _, Nat.le_refl _, by congr 1; omega, ZZ.out, HM5.out, HQ5.out, B5.out⟩
  case round =>
    obtain ⟨k0, R, Q, hk, rfl, hT, hM, hroq, hbel⟩ := hrel
    have HT := Lib.hid hT; have HM := Lib.hid hM; have HROQ := Lib.hid hroq; have HBEL := Lib.hid hbel
    have hRlen := hT.len
    by_cases hlt : 0 < k0
    · obtain ⟨k, rfl⟩ : ∃ k, k0 = k + 1 := ⟨k0 - 1, by omega⟩
      have he : ((k + 1 : Nat) : Int) - 1 = (k : Int) := by omega
      rw [he]
      have hD0 : 0 < val B64 ys := Nat.pos_of_ne_zero (fun e => by have h1 := hT.lt; rw [e] at h1; omega)
      have hDle : val B64 ys ≤ B64 ^ n := by have := val_lt LY.out; rw [HYL.out] at this; omega
      have hP := (long_part hT hDle (by omega)).2.2
      have hpart := mid_part hM (i := k) (m := n + 1) (by omega)
      have hpl : ((R.drop k).take (n + 1)).length = n + 1 := by rw [List.length_take, List.length_drop]; omega
      have hprel : (cellsOf .u64 (R.take k)).length = k := by rw [length_cellsOf, List.length_take]; omega
      have lpart : Lim B64 ((R.drop k).take (n + 1)) := lim_take (by have := B64_pos; omega) (lim_drop hT.lim k) _
      have hS := hpart.sl (cap := cap - k) hprel (by rw [hpl]; omega) (by unfold maxLen; omega) (by rw [hpl]; omega)
      rw [hpl] at hS
      have TQ := wtakeQuotient_any gr k (cap - k) bb boff bcap n _ _ _ ys wr hprel hpart hS lpart (HB.out.below HBEL.out) LY.out TY.out hn (by omega) (by omega) hP
      have PUT := fun zs (hz : zs.length = n + 1) lz (hv : val B64 zs = val B64 ((R.drop k).take (n + 1)) % val B64 ys) => dig_put (R := R) (zs := zs) (i := k) (by omega) hz lz hT.lim hv
      have ST := Lib.hid (fun R' h => long_step (R' := R') hT hD0 hDle (by omega) (by omega) h)
      have hzz : seg R k (n + 1) = val B64 ((R.drop k).take (n + 1)) := rfl
      rw [hzz] at ST
      obtain ⟨z, hz⟩ : ∃ z, z = val B64 ((R.drop k).take (n + 1)) / val B64 ys := ⟨_, rfl⟩
      rw [← hz] at TQ ST
      have TQQ := Lib.hid TQ; have PUTT := Lib.hid PUT; have HQL := Lib.hid hT.qlen
      have hkp : k ≤ p := by omega
      have hw3 : IntKind.i64.wrap ((k : Int) + (n : Int)) = (k : Int) + (n : Int) := by rw [IntKind.wrap_i64]; omega
      have hw4 : IntKind.i64.wrap ((k : Int) + (n : Int) + 1) = (k : Int) + (n : Int) + 1 := by rw [IntKind.wrap_i64]; omega
      have k1 : (k : Int) ≤ (k : Int) + (n : Int) + 1 := by omega
      have k2 : (k : Int) + (n : Int) + 1 ≤ (cap : Int) := by omega
      have k3 : ((k : Int) + (n : Int) + 1).toNat = k + n + 1 := by omega
      have k4 : ¬ cap = k := by omega
      clear hT hM hroq hbel hP hpart hpl hprel lpart hS TQ PUT hzz hz hD0 hDle
      go_wp2_with fail
      rw [show k + n + 1 - k = n + 1 by omega]
      refine TQQ.out.mono ?_
      rintro e w6 ⟨zs, rfl, hM6, hz6, lz6, hv6, hg6⟩
      have hd6 := PUTT.out zs hz6 lz6 hv6
      have HN6 := Lib.hid (ST.out _ hd6)
      have HM6 := Lib.hid (part_mid hM6)
      have hq6 := HROQ.out.grown hg6 (by simp; omega)
      have hcq : w6.cell? ⟨w.heap.size, k, none⟩ = some (.int .u64 ((Q.getD k 0 : Nat) : Int)) := hq6.cell (by rw [HQL.out]; omega)
      have hfq : w6.frozen? ⟨w.heap.size, k, none⟩ = false := hq6.free _
      have HQ6 := Lib.hid hq6
      have HB6 := Lib.hid (below_of_grown HBEL.out hg6 (by omega) HBEL.out.size)
      generalize Q.getD k 0 = qo at hcq
      clear hM6 hz6 lz6 hv6 hg6 hd6 hq6 k1 k2 k3 k4
      go_wp2
      go_roundw
      case rel =>
        have hset := HQ6.out.set k z
        exact ⟨k, _, _, by omega, by go_num, HN6.out, (hset.2.block gr HM6.out.lt (by simp; omega)).trans HM6.out, hset.1, below_of_grown HB6.out hset.2 (Nat.le_refl _) HB6.out.size⟩
      case measure => simp [intOf]
    · obtain rfl : k0 = 0 := by omega
      have hE := long_end hT
      have hql := hT.qlen
      have hRt := mid_ow (base := w.heap.size) (cap := cap) hM (by omega) (tlen_le R) (Nat.le_trans (tlen_le R) (by omega)) (by unfold maxLen; omega) (Nat.le_trans (tlen_le R) (by omega)) hT.lim (top_trimL R)
      have e1 : val B64 (R.take (tlen R)) = val B64 xs % val B64 ys := by have := val_trimL B64 R; unfold trimL at this; rw [this]; exact hE.2
      rw [e1] at hRt
      have hQt := row_ow (base := w.heap.size) (cap := p + 1) (xs := trimL Q) hroq (Nat.le_refl _) (by rw [length_trimL]; rfl) (by rw [length_trimL]; exact tlen_le Q) (by rw [length_trimL, ← hql]; exact tlen_le Q) (by unfold maxLen; omega) (by rw [length_trimL]; exact Nat.le_trans (tlen_le Q) (by omega)) (lim_trimL hT.qlim) (top_trimL Q)
      rw [val_trimL, hE.1, length_trimL] at hQt
      have s1 := hroq.sl_all (by omega)
      rw [hql] at s1
      have s2 := hM.sl (off := 0) (cap := cap) rfl (by omega) (by unfold maxLen; omega) (by omega)
      rw [hRlen] at s2
      have T1 := Lib.hid (wtrim_eq s1); have T2 := Lib.hid (wtrim_eq s2)
      have O1 := Lib.hid hQt; have O2 := Lib.hid hRt
      clear hE hRt e1 hQt s1 s2 hT hM hroq hbel
      go_wp2_with fail
      refine T1.out.mono ?_
      rintro e w7 ⟨rfl, rfl⟩
      go_wp2_with fail
      refine T2.out.mono ?_
      rintro e w8 ⟨rfl, rfl⟩
      go_wp2
      go_ret2
      exact ⟨_, _, rfl, O1.out, O2.out, HBEL.out⟩
end Go.Proofs.YtfdilnfmcpbkgaaGreatDoor
