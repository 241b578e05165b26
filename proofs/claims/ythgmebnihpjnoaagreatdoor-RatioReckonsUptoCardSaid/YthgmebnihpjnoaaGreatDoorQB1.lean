/- RM RA RB RC RD RE RI. -/
import Derived.Test.YthgmebnihpjnoaaGreatDoorMA
import Derived.Test.YthgmebnihpjnoaaGreatDoorZB5
import Derived.Test.YthgmebnihpjnoaaGreatDoorMB
import Derived.StillTailTactics
import Derived.Test.YthgmebnihpjnoaaGreatDoorGA
import Derived.Test.YthgmebnihpjnoaaGreatDoorQA
import Derived.Deep.RegionHeld3
set_option linter.unusedVariables false
set_option linter.unusedSimpArgs false
/- Fractions in lowest terms, in plain mathematics. -/
namespace Go.Proofs.YthgmebnihpjnoaaGreatDoor.Mth

/-- a number by a denominator, in lowest terms: the numerator and the denominator -/
def lowN (n : Int) (d : Nat) : Int := sg (sgn n) (n.natAbs / Nat.gcd n.natAbs d)
def lowD (n : Int) (d : Nat) : Nat := d / Nat.gcd n.natAbs d
theorem gcd_posD {n d : Nat} (h : 0 < d) : 0 < Nat.gcd n d := Nat.pos_of_ne_zero (fun e => by rw [Nat.gcd_eq_zero_iff] at e; omega)
theorem low_abs (n : Int) (d : Nat) : (lowN n d).natAbs = n.natAbs / Nat.gcd n.natAbs d := natAbs_sg _ _
theorem lowD_pos {n : Int} {d : Nat} (h : 0 < d) : 0 < lowD n d := Nat.div_pos (Nat.gcd_le_right _ h) (gcd_posD h)
theorem low_le (n : Int) (d : Nat) : (lowN n d).natAbs ≤ n.natAbs ∧ lowD n d ≤ d := ⟨by rw [low_abs]; exact Nat.div_le_self _ _, Nat.div_le_self _ _⟩
theorem low_coprime {n : Int} {d : Nat} (h : 0 < d) : Nat.gcd (lowN n d).natAbs (lowD n d) = 1 := by
  rw [low_abs]
  exact Nat.gcd_div_gcd_div_gcd_of_pos_right h
theorem low_one {n : Int} {d : Nat} (h : Nat.gcd n.natAbs d = 1) : lowN n d = n ∧ lowD n d = d := by
  unfold lowN lowD
  rw [h, Nat.div_one, Nat.div_one, sg_sgn]
  exact ⟨rfl, rfl⟩
theorem low_again {n : Int} {d : Nat} (h : 0 < d) : lowN (lowN n d) (lowD n d) = lowN n d ∧ lowD (lowN n d) (lowD n d) = lowD n d := low_one (low_coprime h)
theorem low_sgn {n : Int} {d : Nat} : lowN n d = 0 ↔ n.natAbs / Nat.gcd n.natAbs d = 0 := by
  rw [← low_abs]; omega
/-- what lowest terms mean: n by d is lowN by lowD -/
theorem low_eq (n : Int) {d : Nat} (h : 0 < d) : n * (lowD n d : Int) = lowN n d * (d : Int) := by
  have g1 := Nat.gcd_dvd_left n.natAbs d
  have g2 := Nat.gcd_dvd_right n.natAbs d
  have e1 := Nat.div_mul_cancel g1
  have e2 := Nat.div_mul_cancel g2
  have hs : n = sg (sgn n) n.natAbs := (sg_sgn n).symm
  unfold lowN lowD
  generalize Nat.gcd n.natAbs d = g at *
  generalize n.natAbs / g = a at *
  generalize d / g = b at *
  rw [← e1] at hs
  rw [← e2]
  clear e1 e2 g1 g2
  generalize sgn n = t at *
  subst hs
  cases t
  · simp only [sg, Bool.false_eq_true, if_false, Int.natCast_mul]
    generalize (a : Int) = x; generalize (b : Int) = y; generalize (g : Int) = z
    grind
  · simp only [sg, if_true, Int.natCast_mul]
    generalize (a : Int) = x; generalize (b : Int) = y; generalize (g : Int) = z
    grind
end Go.Proofs.YthgmebnihpjnoaaGreatDoor.Mth

/- Package ratio: the small calls. -/
namespace Go.Proofs.YthgmebnihpjnoaaGreatDoor
open Go.RowKit Mth

set_option maxHeartbeats 400000 in
theorem rtrim_pos (b off cap : Nat) (xs : List Nat) (w : World) (hl : xs.length ≤ cap) (hm : cap ≤ maxLen)
    (hc : ∀ j, j < xs.length → w.cell? ⟨b, off + j, none⟩ = some (.int .u64 ((xs.getD j 0 : Nat) : Int))) :
    Calls Tryz.prog 44 #[.slice (some ⟨b, off, none⟩) xs.length cap] w fun e w' =>
      e = .returned (.slice (some ⟨b, off, none⟩) (tlen xs) cap) ∧ w = w' := by
  unfold maxLen at hm
  go_enter Tryz.func44, Tryz.ntmps44
  go_wp2
  go_loop [3] (fun n => ∃ k : Nat, k ≤ xs.length ∧ n = .int .i64 k ∧ (∀ j, k ≤ j → xs.getD j 0 = 0)) (fun n => (intOf n).toNat)
  case atStart => exact ⟨xs.length, Nat.le_refl _, rfl, fun j hj => getD_ge xs j hj⟩
  case round =>
    obtain ⟨k, hk, rfl, hz⟩ := hrel
    by_cases h0 : 0 < k
    · have hc1 := hc (k - 1) (by omega)
      have HZ := Lib.hid hz
      clear hz hc
      go_wp2
      · have h1 : ((xs[k - 1]?.getD 0 : Nat) : Int) == 0 := by assumption
        go_round
        case rel => exact ⟨k - 1, by omega, by congr 1; omega, fun j hj => by
          by_cases e : j = k - 1
          · subst e; simp at h1; simpa [List.getD_eq_getElem?_getD] using h1
          · exact HZ.out j (by omega)⟩
        case measure => simp [intOf]; omega
      · have h1 : (((xs[k - 1]?.getD 0 : Nat) : Int) == 0) = false := by assumption
        go_ret
        have e : tlen xs = k := tlen_eq HZ.out (.inr (by simp at h1; simpa [List.getD_eq_getElem?_getD] using h1))
        rw [e]
        exact ⟨rfl, rfl⟩
    · have HZ := Lib.hid hz
      clear hz hc
      go_wp2
      go_ret
      have e : tlen xs = k := tlen_eq HZ.out (.inl (by omega))
      rw [e]
      exact ⟨rfl, rfl⟩
theorem rtrim_zero (ao : Option Addr) (cap : Nat) (w : World) (hm : cap ≤ maxLen) (hn : ao = none → cap = 0) :
    Calls Tryz.prog 44 #[.slice ao 0 cap] w fun e w' => e = .returned (.slice ao 0 cap) ∧ w = w' := by
  unfold maxLen at hm
  cases ao with
  | none =>
    obtain rfl := hn rfl
    go_enter Tryz.func44, Tryz.ntmps44
    go_wp2
    refine wp_loop_rounds 1 ?_
    rw [rounds_succ]
    go_wp2
    go_ret
    exact ⟨rfl, rfl⟩
  | some a =>
    clear hn
    go_enter Tryz.func44, Tryz.ntmps44
    go_wp2
    refine wp_loop_rounds 1 ?_
    rw [rounds_succ]
    go_wp2
    go_ret
    exact ⟨rfl, rfl⟩
theorem rtrim_any {v : Value} {xs : List Nat} {w : World} (h : Sl w .u64 v xs) :
    Calls Tryz.prog 44 #[v] w fun e w' => ∃ v', e = .returned v' ∧ Sl w .u64 v' (trimL xs) ∧ w = w' := by
  have h' := h
  obtain ⟨ao, cap, rfl, h1, h2, h3, h4, h5⟩ := h
  have hs : Sl w .u64 (.slice ao (tlen xs) cap) (trimL xs) := h'.take (tlen_le xs)
  by_cases hp : 0 < xs.length
  · obtain ⟨b, off, rfl, hlt, hc⟩ := h5 hp
    exact (rtrim_pos b off cap xs w h1 h2 hc).mono fun e w' ⟨he, hw⟩ => ⟨_, he, hs, hw⟩
  · have : xs = [] := List.eq_nil_of_length_eq_zero (by omega)
    subst this
    exact (rtrim_zero ao cap w h2 h4).mono fun e w' ⟨he, hw⟩ => ⟨_, he, hs, hw⟩

/-- the same, where the value is written out -/
theorem rtrim_eq {ao : Option Addr} {n cap : Nat} {xs : List Nat} {w : World} (h : Sl w .u64 (.slice ao n cap) xs) :
    Calls Tryz.prog 44 #[.slice ao n cap] w fun e w' => e = .returned (.slice ao (tlen xs) cap) ∧ w' = w := by
  obtain ⟨ao', cap', e, h1, h2, h3, h4, h5⟩ := h
  simp only [Value.slice.injEq] at e
  obtain ⟨rfl, rfl, rfl⟩ := e
  by_cases hp : 0 < xs.length
  · obtain ⟨b, off, rfl, hlt, hc⟩ := h5 hp
    exact (rtrim_pos b off cap xs w h1 h2 hc).mono fun e w' ⟨he, hw⟩ => ⟨he, hw.symm⟩
  · have : xs = [] := List.eq_nil_of_length_eq_zero (by omega)
    subst this
    exact (rtrim_zero ao cap w h2 h4).mono fun e w' ⟨he, hw⟩ => ⟨he, hw.symm⟩

end Go.Proofs.YthgmebnihpjnoaaGreatDoor

/- Package ratio: zero, long, isOne, below, rat, times, add. -/
namespace Go.Proofs.YthgmebnihpjnoaaGreatDoor
open Go.RowKit Mth

/-- a block of three cells -/
theorem blk3 {w : World} {g : Nat} {a b c : Value} {T : TypeId} (h : w.heap[g]? = some (.cells #[a, b, c] T (0, 0))) :
    (w.cell? ⟨g, 0, none⟩ = some a ∧ w.cell? ⟨g, 1, none⟩ = some b ∧ w.cell? ⟨g, 2, none⟩ = some c) ∧ (w.frozen? ⟨g, 0, none⟩ = false ∧ w.frozen? ⟨g, 1, none⟩ = false ∧ w.frozen? ⟨g, 2, none⟩ = false) ∧ g < w.heap.size := by
  refine ⟨⟨?_, ?_, ?_⟩, ⟨frozen_of_row w g 0 _ _ h, frozen_of_row w g 1 _ _ h, frozen_of_row w g 2 _ _ h⟩, (Array.getElem?_eq_some_iff.1 h).1⟩ <;> (rw [cell_of_row w g _ _ _ (0, 0) h]; rfl)
set_option maxRecDepth 100000 in
theorem nzero_is (b : Bool) (ao : Option Addr) (k c : Nat) (w : World) : Calls Tryz.prog 59 #[.agg #[.bool b, .slice ao k c]] w fun e w' => e = .returned (.bool ((k : Int) == 0)) ∧ Below w.heap.size w w' := by
  go_enter Tryz.func59, Tryz.ntmps59
  go_wp2
  go_ret
  exact ⟨rfl, (Below.refl _ _).alloc (Nat.le_refl _) _⟩
set_option maxRecDepth 100000 in
theorem flong_is (b : Bool) (a1 : Option Addr) (k1 c1 : Nat) (a2 : Option Addr) (k2 c2 : Nat) (r : Bool) (w : World) (hr : decide (1024 < k1 ∨ 1024 < k2) = r) : Calls Tryz.prog 91 #[.agg #[.bool b, .slice a1 k1 c1, .slice a2 k2 c2]] w fun e w' => e = .returned (.bool r) ∧ Below w.heap.size w w' := by
  by_cases h1 : 1024 < k1
  · obtain rfl : r = true := by rw [← hr]; exact decide_eq_true (.inl h1)
    have hd : (1024 : Int) < (k1 : Int) := by omega
    clear hr h1
    go_enter Tryz.func91, Tryz.ntmps91
    go_wp2
    go_ret
    exact ⟨rfl, (Below.refl _ _).alloc (Nat.le_refl _) _⟩
  · have e : decide ((1024 : Int) < (k2 : Int)) = r := by
      rw [← hr]
      by_cases h2 : 1024 < k2
      · rw [decide_eq_true (by omega), decide_eq_true (.inr h2)]
      · rw [decide_eq_false (by omega), decide_eq_false (by omega)]
    have hd : ¬ (1024 : Int) < (k1 : Int) := by omega
    clear hr h1
    subst e
    go_enter Tryz.func91, Tryz.ntmps91
    go_wp2
    go_ret
    exact ⟨rfl, (Below.refl _ _).alloc (Nat.le_refl _) _⟩
set_option maxRecDepth 100000 in
theorem below_is (b : Bool) (a1 : Option Addr) (k1 c1 : Nat) (a2 : Option Addr) (k2 c2 : Nat) (w : World) : Calls Tryz.prog 52 #[.agg #[.bool b, .slice a1 k1 c1, .slice a2 k2 c2]] w fun e w' => e = .returned (.agg #[.bool false, .slice a2 k2 c2]) ∧ Below w.heap.size w w' := by
  go_enter Tryz.func52, Tryz.ntmps52
  go_wp2
  refine bodyPost_ret (v := .agg #[.bool false, .slice a2 k2 c2]) ?_ rfl ⟨rfl, ?_⟩
  · simp [results, Tryz.results52, go_sem, *]
  · exact ((Below.refl _ _).alloc (Nat.le_refl _) _).alloc (by simp) _
set_option maxRecDepth 100000 in
theorem rat_is (b : Bool) (a1 : Option Addr) (k1 c1 : Nat) (a2 : Option Addr) (k2 c2 : Nat) (w : World) : Calls Tryz.prog 84 #[.agg #[.bool b, .slice a1 k1 c1, .slice a2 k2 c2]] w fun e w' => e = .returned (.agg #[.bool b, .slice a1 k1 c1, .slice a2 k2 c2]) ∧ Below w.heap.size w w' := by
  go_enter Tryz.func84, Tryz.ntmps84
  go_wp2
  refine bodyPost_ret (v := .agg #[.bool b, .slice a1 k1 c1, .slice a2 k2 c2]) ?_ rfl ⟨rfl, ?_⟩
  · simp [results, Tryz.results84, go_sem, *]
  · exact ((Below.refl _ _).alloc (Nat.le_refl _) _).alloc (by simp) _
set_option maxRecDepth 100000 in
theorem isOne_is (v : Value) (n : Nat) (w : World) (h : Num w v n) : Calls Tryz.prog 73 #[v] w fun e w' => e = .returned (.bool (decide (n = 1))) ∧ w' = w := by
  obtain ⟨xs, hs, l, t, rfl⟩ := h
  by_cases h1 : xs.length = 1
  · obtain ⟨x, rfl⟩ : ∃ x, xs = [x] := ⟨_, list_one h1⟩
    obtain ⟨b, off, cap, rfl, _, _, hlt, hc⟩ := hs.pos (by simp)
    have c0 := hc 0 (by simp)
    simp only [List.getD_cons_zero, Nat.add_zero] at c0
    have hv : val B64 [x] = x := by simp [val]
    rw [hv]
    obtain ⟨r, hr⟩ : ∃ r, decide (x = 1) = r := ⟨_, rfl⟩
    have hb : ((x : Int) == 1) = r := by
      rw [← hr]
      by_cases e : x = 1
      · subst e; rfl
      · rw [decide_eq_false e, beq_eq_false_iff_ne]; omega
    rw [hr]
    clear hs l t hc h1 hr hv
    go_enter Tryz.func73, Tryz.ntmps73
    go_wp2
    go_ret
    exact ⟨rfl, rfl⟩
  · have hn : val B64 xs ≠ 1 := fun e => by
      have h2 : xs.length ≤ 1 := length_of_val B64_pos t 1 (by rw [Nat.pow_one, e]; exact B64_pos)
      have h3 : xs = [] := List.eq_nil_of_length_eq_zero (by omega)
      rw [h3] at e; simp [val] at e
    rw [decide_eq_false hn]
    obtain ⟨ao, c, rfl⟩ := hs.shape
    have hd : (((xs.length : Nat) : Int) == 1) = false := by rw [beq_eq_false_iff_ne]; omega
    clear hs l t h1 hn
    go_enter Tryz.func73, Tryz.ntmps73
    go_wp2
    go_ret
    exact ⟨rfl, rfl⟩
end Go.Proofs.YthgmebnihpjnoaaGreatDoor

/- Package ratio: fresh, read. -/
namespace Go.Proofs.YthgmebnihpjnoaaGreatDoor
open Go.RowKit Mth

set_option maxRecDepth 100000 in
theorem rfresh_any (v : Value) (n : Nat) (w : World) (h : Num w v n) : Calls Tryz.prog 100 #[v] w fun e w' => ∃ v', e = .returned v' ∧ Ow w' w.heap.size v' n ∧ Below w.heap.size w w' := by
  obtain ⟨xs, hs, hl, ht, rfl⟩ := h
  have HS := Lib.hid hs; have HL := Lib.hid hl; have HT := Lib.hid ht
  have hlen := hs.len
  obtain ⟨ao, cap, rfl⟩ := hs.shape
  clear hs hl ht
  go_enter Tryz.func100, Tryz.ntmps100
  go_wp2_with (refine append_sl rfl _ _ rfl w.heap.size _ _ [] xs rfl rfl (own_start w _) HS.out (by simp) (Nat.le_refl _) ?_; intro v' w1 ho hg)
  rw [List.nil_append] at ho
  go_wp2
  go_ret
  exact ⟨_, rfl, ow_row ho hlen HL.out HT.out, below_own (Below.refl _ _) (own_start w _) hg (Nat.le_refl _)⟩

/-- a Rat value in any form: its numerator and its denominator -/
def RatV (w : World) (v : Value) (x : Int) (d : Nat) : Prop := ∃ (n : Bool) (a : Option Addr) (k c : Nat) (a' : Option Addr) (k' c' : Nat) (xs ys : List Nat), v = .agg #[.bool n, .slice a k c, .slice a' k' c'] ∧ Sl w .u64 (.slice a k c) xs ∧ Lim B64 xs ∧ xs.length ≤ 4000000 ∧ x = sg n (val B64 xs) ∧ Sl w .u64 (.slice a' k' c') ys ∧ Lim B64 ys ∧ ys.length ≤ 4000000 ∧ d = val B64 ys
/-- package ratio's fraction: no zeros on top, no sign of 0 -/
def FrV (w : World) (v : Value) (x : Int) (d : Nat) : Prop := ∃ (a : Option Addr) (k c : Nat) (a' : Option Addr) (k' c' : Nat), v = .agg #[.bool (sgn x), .slice a k c, .slice a' k' c'] ∧ Num w (.slice a k c) x.natAbs ∧ Num w (.slice a' k' c') d
theorem RatV.below {w w' : World} {v : Value} {x : Int} {d : Nat} (h : RatV w v x d) (hb : Below w.heap.size w w') : RatV w' v x d := by
  obtain ⟨n, a, k, c, a', k', c', xs, ys, e, h1, h2, h3, h4, h5, h6⟩ := h
  exact ⟨n, a, k, c, a', k', c', xs, ys, e, h1.below hb, h2, h3, h4, h5.below hb, h6⟩
theorem Num.below' {w w' : World} {v : Value} {n : Nat} (h : Num w v n) (hb : Below w.heap.size w w') : Num w' v n := by
  obtain ⟨xs, h1, h2⟩ := h; exact ⟨xs, h1.below hb, h2⟩
theorem FrV.below {w w' : World} {v : Value} {x : Int} {d : Nat} (h : FrV w v x d) (hb : Below w.heap.size w w') : FrV w' v x d := by
  obtain ⟨a, k, c, a', k', c', e, h1, h2⟩ := h
  exact ⟨a, k, c, a', k', c', e, h1.below' hb, h2.below' hb⟩
theorem sl_eq_len {w : World} {kd : IntKind} {a : Option Addr} {k c : Nat} {xs : List Nat} (h : Sl w kd (.slice a k c) xs) : k = xs.length := by
  obtain ⟨_, _, e, _⟩ := h
  simp only [Value.slice.injEq] at e
  exact e.2.1

set_option maxHeartbeats 4000000 in
set_option maxRecDepth 100000 in
theorem rread_any (v : Value) (x : Int) (d : Nat) (w : World) (h : RatV w v x d) : Calls Tryz.prog 50 #[v] w fun e w' => ∃ v', e = .returned v' ∧ FrV w' v' x d ∧ Below w.heap.size w w' := by
  obtain ⟨n, a, k, c, a', k', c', xs, ys, rfl, hs, hl, _, rfl, hs', hl', _, rfl⟩ := h
  have TX : Hid (∀ w1, Below w.heap.size w w1 → Calls Tryz.prog 44 #[.slice a k c] w1 fun e w' => e = .returned (.slice a (tlen xs) c) ∧ w' = w1) := Lib.hid (fun w1 hb => rtrim_eq (hs.below hb))
  have TY : Hid (∀ w1, Below w.heap.size w w1 → Calls Tryz.prog 44 #[.slice a' k' c'] w1 fun e w' => e = .returned (.slice a' (tlen ys) c') ∧ w' = w1) := Lib.hid (fun w1 hb => rtrim_eq (hs'.below hb))
  have E := Lib.hid (sgn_top n xs)
  have NX : Hid (∀ w1, Below w.heap.size w w1 → Num w1 (.slice a (tlen xs) c) (sg n (val B64 xs)).natAbs) := Lib.hid (fun w1 hb => by
    rw [natAbs_sg]
    obtain rfl := sl_eq_len hs
    exact num_trim (hs.below hb).trim hl)
  have NY : Hid (∀ w1, Below w.heap.size w w1 → Num w1 (.slice a' (tlen ys) c') (val B64 ys)) := Lib.hid (fun w1 hb => by
    obtain rfl := sl_eq_len hs'
    exact num_trim (hs'.below hb).trim hl')
  clear hs hs' hl hl'
  go_enter Tryz.func50, Tryz.ntmps50
  obtain ⟨W, eW, h1, h2, bel, hsz⟩ := alloc2 w (Obj.cells #[Value.bool n, Value.slice a k c, Value.slice a' k' c'] 27) (Obj.cells #[Value.bool false, Value.slice none 0 0, Value.slice none 0 0] 84)
  obtain ⟨⟨p0, p1, p2⟩, _, l1⟩ := blk3 h1
  have HA := Lib.hid h1; have HR : Hid (W.heap[w.heap.size + 1]? = _) := Lib.hid h2; have BW := Lib.hid bel
  have T1 := Lib.hid (TX.out W bel)
  clear h1 h2 bel TX
  go_wp2_with fail
  try rw [eW]
  clear eW
  refine T1.out.mono ?_
  rintro e w1 ⟨rfl, rfl⟩
  cases n
  · have EV : Hid (false = sgn (sg false (val B64 xs))) := Lib.hid E.out
    clear E T1
    go_wp2_with fail
    obtain ⟨V, eV, hV, belV, hszV⟩ := alloc1 w1 (Obj.cells #[Value.bool false, Value.slice a (tlen xs) c] 82)
    rw [eV]
    have HNv := Lib.hid hV; have HAv := Lib.hid (blk_below' belV HA.out); have HRv := Lib.hid (blk_below' belV HR.out); have BVv := Lib.hid (below_of BW.out belV)
    clear eV hV belV p0 p1 p2
    obtain ⟨⟨p0, p1, p2⟩, _, _⟩ := blk3 HAv.out
    obtain ⟨n0, n1, _, _, _⟩ := blk2 HNv.out
    have T2 := Lib.hid (TY.out V.drew BVv.out.drew)
    have hle : w.heap.size ≤ w.heap.size + 1 := Nat.le_succ _
    have C3 := Lib.hid (blk3 HRv.out)
    go_still_tail 5, (by kernel_rfl)
    still_call T2.out
    repeat still_step
    refine wpStill_nil ?_
    obtain ⟨⟨r0, r1, r2⟩, ⟨f0, f1, f2⟩, _⟩ := C3.out
    go_wp2
    refine bodyPost_ret (v := .agg #[.bool false, .slice a (tlen xs) c, .slice a' (tlen ys) c']) ?_ rfl ⟨_, rfl, ⟨a, tlen xs, c, a', tlen ys, c', by rw [← EV.out], NX.out _ ?_, NY.out _ ?_⟩, ?_⟩
    · simp [results, Tryz.results50, go_sem, *]
    all_goals exact ((BVv.out.drew.setCell (p := ⟨w.heap.size + 1, 0, none⟩) hle _).setCell (p := ⟨w.heap.size + 1, 1, none⟩) hle _).setCell (p := ⟨w.heap.size + 1, 2, none⟩) hle _
  · obtain ⟨s, hs⟩ : ∃ s, (!(((tlen xs : Nat) : Int) == 0)) = s := ⟨_, rfl⟩
    have EV : Hid (s = sgn (sg true (val B64 xs))) := Lib.hid (by rw [← E.out, ← hs]; rfl)
    clear E T1
    go_wp2_with fail
    obtain ⟨V0, eV, hV, belV, hszV⟩ := alloc1 w1 (Obj.cells #[Value.bool false, Value.slice a (tlen xs) c] 82)
    rw [eV]
    have HN0 := Lib.hid hV; have HA0 := Lib.hid (blk_below' belV HA.out); have HR0 := Lib.hid (blk_below' belV HR.out); have B0 := Lib.hid (below_of BW.out belV)
    clear eV hV belV p0 p1 p2
    refine (nzero_is _ _ _ _ V0).mono ?_
    rintro e w2 ⟨rfl, b2⟩
    have HN2 := Lib.hid (blk_below' b2 HN0.out); have HA2 := Lib.hid (blk_below' b2 HA0.out); have HR2 := Lib.hid (blk_below' b2 HR0.out); have B2 := Lib.hid (below_of B0.out b2)
    obtain ⟨n0, n1, f0, f1, hl0⟩ := blk2 HN2.out
    have hl1 : w1.heap.size < w2.heap.size := hl0
    clear b2 HN0 HA0 HR0 B0
    go_wp2_with fail
    try rw [hs]
    obtain ⟨V, eV⟩ : ∃ V, w2.setCell ⟨w1.heap.size, 0, none⟩ (.bool s) = V := ⟨_, rfl⟩
    rw [eV]
    have HNv : Hid (V.heap[w1.heap.size]? = some (Obj.cells #[Value.bool s, Value.slice a (tlen xs) c] 82)) := Lib.hid (by rw [← eV]; exact heap_setCell_same w2 w1.heap.size 0 _ _ (.bool s) HN2.out)
    have HAv : Hid (V.heap[w.heap.size]? = some (Obj.cells #[Value.bool true, Value.slice a k c, Value.slice a' k' c'] 27)) := Lib.hid (by rw [← eV]; exact (heap_setCell_other w2 ⟨w1.heap.size, 0, none⟩ w.heap.size (.bool s) (by show w.heap.size ≠ w1.heap.size; omega)).trans HA2.out)
    have HRv : Hid (V.heap[w.heap.size + 1]? = some (Obj.cells #[Value.bool false, Value.slice none 0 0, Value.slice none 0 0] 84)) := Lib.hid (by rw [← eV]; exact (heap_setCell_other w2 ⟨w1.heap.size, 0, none⟩ (w.heap.size + 1) (.bool s) (by show w.heap.size + 1 ≠ w1.heap.size; omega)).trans HR2.out)
    have BVv : Hid (Below w.heap.size w V) := Lib.hid (by rw [← eV]; exact B2.out.setCell (p := ⟨w1.heap.size, 0, none⟩) (by show w.heap.size ≤ w1.heap.size; omega) _)
    clear eV HN2 HA2 HR2 B2 n0 n1 f0 f1 hs
    obtain ⟨⟨p0, p1, p2⟩, _, _⟩ := blk3 HAv.out
    obtain ⟨n0, n1, _, _, _⟩ := blk2 HNv.out
    have T2 := Lib.hid (TY.out V.drew BVv.out.drew)
    have hle : w.heap.size ≤ w.heap.size + 1 := Nat.le_succ _
    have C3 := Lib.hid (blk3 HRv.out)
    go_still_tail 5, (by kernel_rfl)
    still_call T2.out
    repeat still_step
    refine wpStill_nil ?_
    obtain ⟨⟨r0, r1, r2⟩, ⟨f0, f1, f2⟩, _⟩ := C3.out
    go_wp2
    refine bodyPost_ret (v := .agg #[.bool s, .slice a (tlen xs) c, .slice a' (tlen ys) c']) ?_ rfl ⟨_, rfl, ⟨a, tlen xs, c, a', tlen ys, c', by rw [← EV.out], NX.out _ ?_, NY.out _ ?_⟩, ?_⟩
    · simp [results, Tryz.results50, go_sem, *]
    all_goals exact ((BVv.out.drew.setCell (p := ⟨w.heap.size + 1, 0, none⟩) hle _).setCell (p := ⟨w.heap.size + 1, 1, none⟩) hle _).setCell (p := ⟨w.heap.size + 1, 2, none⟩) hle _
end Go.Proofs.YthgmebnihpjnoaaGreatDoor

/- Package ratio: times, add, cmp. -/
namespace Go.Proofs.YthgmebnihpjnoaaGreatDoor
open Go.RowKit Mth

set_option maxHeartbeats 2000000 in
set_option maxRecDepth 100000 in
theorem ntimes_is (va vb : Value) (x y : Int) (w : World) (ha : IntV w va x) (hb : IntV w vb y) (h : (x * y).natAbs < Big) : Calls Tryz.prog 51 #[va, vb] w fun e w' => Res0 w w' e (x * y) := by
  obtain ⟨n1, a1, k1, c1, rfl⟩ := ha.shape
  obtain ⟨n2, a2, k2, c2, rfl⟩ := hb.shape
  have ML : Hid (∀ w1, Below w.heap.size w w1 → Calls Tryz.prog 92 #[.agg #[.bool n1, .slice a1 k1 c1], .agg #[.bool n2, .slice a2 k2 c2]] w1 fun e w' => Res1 w1 w' e (x * y)) := Lib.hid (fun w1 hw => mulF _ _ x y w1 (ha.below hw) (hb.below hw) h)
  clear ha hb h
  go_enter Tryz.func51, Tryz.ntmps51
  obtain ⟨W, eW, h1, h2, h3, bel, hsz⟩ := alloc3 w (Obj.cells #[Value.bool n1, Value.slice a1 k1 c1] 82) (Obj.cells #[Value.bool n2, Value.slice a2 k2 c2] 82) (Obj.cells #[Value.bool false, Value.slice none 0 0] 82)
  obtain ⟨p0, p1, _, _, _⟩ := blk2 h1
  obtain ⟨q0, q1, _, _, _⟩ := blk2 h2
  have HR : Hid (W.heap[w.heap.size + 1 + 1]? = _) := Lib.hid h3
  have BW := Lib.hid bel
  have MW := Lib.hid (ML.out W bel)
  clear h1 h2 h3 bel ML
  go_wp2_with fail
  try rw [eW]
  clear eW
  refine MW.out.mono ?_
  rintro e w1 ⟨n3, a3, k3, c3, rfl, hi, hb1⟩
  have I1 := Lib.hid hi; have B1 := Lib.hid (below_of BW.out hb1)
  have R1 := Lib.hid (blk_below' hb1 HR.out)
  clear hi hb1 HR p0 p1 q0 q1
  obtain ⟨v0, v1, g0, g1, lv⟩ := blk2 R1.out
  have lv1 : w.heap.size + 1 + 1 < w1.heap.size + 1 := by omega
  go_wp2
  have hle : w.heap.size ≤ w.heap.size + 1 + 1 := by omega
  have F1 := Lib.hid ((I1.out.far (y0 := .bool n3) (y1 := .slice a3 k3 c3) R1.out).below (nuc_new _ (Obj.cells #[Value.bool n3, Value.slice a3 k3 c3] 25)))
  have B2 := Lib.hid (below_of ((B1.out.setCell (p := ⟨w.heap.size + 1 + 1, 0, none⟩) hle (.bool n3)).setCell (p := ⟨w.heap.size + 1 + 1, 1, none⟩) hle (.slice a3 k3 c3)) (nuc_new _ (Obj.cells #[Value.bool n3, Value.slice a3 k3 c3] 25)))
  refine bodyPost_ret (v := .agg #[.bool n3, .slice a3 k3 c3]) ?_ rfl ⟨n3, a3, k3, c3, rfl, F1.out, B2.out⟩
  simp [results, Tryz.results51, go_sem, *]
set_option maxHeartbeats 2000000 in
set_option maxRecDepth 100000 in
theorem nadd_is (va vb : Value) (x y : Int) (w : World) (ha : IntV w va x) (hb : IntV w vb y) (h : (x + y).natAbs < Big) : Calls Tryz.prog 120 #[va, vb] w fun e w' => Res0 w w' e (x + y) := by
  obtain ⟨n1, a1, k1, c1, rfl⟩ := ha.shape
  obtain ⟨n2, a2, k2, c2, rfl⟩ := hb.shape
  have ML : Hid (∀ w1, Below w.heap.size w w1 → Calls Tryz.prog 149 #[.agg #[.bool n1, .slice a1 k1 c1], .agg #[.bool n2, .slice a2 k2 c2]] w1 fun e w' => Res1 w1 w' e (x + y)) := Lib.hid (fun w1 hw => addF _ _ x y w1 (ha.below hw) (hb.below hw) h)
  clear ha hb h
  go_enter Tryz.func120, Tryz.ntmps120
  obtain ⟨W, eW, h1, h2, h3, bel, hsz⟩ := alloc3 w (Obj.cells #[Value.bool n1, Value.slice a1 k1 c1] 82) (Obj.cells #[Value.bool n2, Value.slice a2 k2 c2] 82) (Obj.cells #[Value.bool false, Value.slice none 0 0] 82)
  obtain ⟨p0, p1, _, _, _⟩ := blk2 h1
  obtain ⟨q0, q1, _, _, _⟩ := blk2 h2
  have HR : Hid (W.heap[w.heap.size + 1 + 1]? = _) := Lib.hid h3
  have BW := Lib.hid bel
  have MW := Lib.hid (ML.out W bel)
  clear h1 h2 h3 bel ML
  go_wp2_with fail
  try rw [eW]
  clear eW
  refine MW.out.mono ?_
  rintro e w1 ⟨n3, a3, k3, c3, rfl, hi, hb1⟩
  have I1 := Lib.hid hi; have B1 := Lib.hid (below_of BW.out hb1)
  have R1 := Lib.hid (blk_below' hb1 HR.out)
  clear hi hb1 HR p0 p1 q0 q1
  obtain ⟨v0, v1, g0, g1, lv⟩ := blk2 R1.out
  have lv1 : w.heap.size + 1 + 1 < w1.heap.size + 1 := by omega
  go_wp2
  have hle : w.heap.size ≤ w.heap.size + 1 + 1 := by omega
  have F1 := Lib.hid ((I1.out.far (y0 := .bool n3) (y1 := .slice a3 k3 c3) R1.out).below (nuc_new _ (Obj.cells #[Value.bool n3, Value.slice a3 k3 c3] 25)))
  have B2 := Lib.hid (below_of ((B1.out.setCell (p := ⟨w.heap.size + 1 + 1, 0, none⟩) hle (.bool n3)).setCell (p := ⟨w.heap.size + 1 + 1, 1, none⟩) hle (.slice a3 k3 c3)) (nuc_new _ (Obj.cells #[Value.bool n3, Value.slice a3 k3 c3] 25)))
  refine bodyPost_ret (v := .agg #[.bool n3, .slice a3 k3 c3]) ?_ rfl ⟨n3, a3, k3, c3, rfl, F1.out, B2.out⟩
  simp [results, Tryz.results120, go_sem, *]
end Go.Proofs.YthgmebnihpjnoaaGreatDoor

/- Package ratio: lowest. -/
namespace Go.Proofs.YthgmebnihpjnoaaGreatDoor
open Go.RowKit Mth

theorem low_sign {x : Int} {d : Nat} (h : 0 < d) : sgn (lowN x d) = sgn x := by
  unfold lowN
  by_cases h0 : x.natAbs = 0
  · rw [h0, Nat.zero_div, sgn_sg0]
    exact (sgn_pos (by omega)).symm
  · exact sgn_sg (Nat.div_pos (Nat.gcd_le_left _ (by omega)) (gcd_posD h))
/-- a fraction in memory of the call's own -/
def FrO (w : World) (base : Nat) (v : Value) (x : Int) (d : Nat) : Prop := ∃ (a : Option Addr) (k c : Nat) (a' : Option Addr) (k' c' : Nat), v = .agg #[.bool (sgn x), .slice a k c, .slice a' k' c'] ∧ Ow w base (.slice a k c) x.natAbs ∧ Ow w base (.slice a' k' c') d
theorem FrO.fr {w : World} {base : Nat} {v : Value} {x : Int} {d : Nat} (h : FrO w base v x d) : FrV w v x d := by
  obtain ⟨a, k, c, a', k', c', e, h1, h2⟩ := h
  exact ⟨a, k, c, a', k', c', e, h1.num, h2.num⟩
theorem FrO.below {w w' : World} {base : Nat} {v : Value} {x : Int} {d : Nat} (h : FrO w base v x d) (hb : Below w.heap.size w w') : FrO w' base v x d := by
  obtain ⟨a, k, c, a', k', c', e, h1, h2⟩ := h
  exact ⟨a, k, c, a', k', c', e, h1.below hb, h2.below hb⟩
theorem ow_far3 {w : World} {base n R : Nat} {v y0 y1 y2 : Value} (h : Ow w base v n) (hR : R < base) : Ow (((w.setCell ⟨R, 0, none⟩ y0).setCell ⟨R, 1, none⟩ y1).setCell ⟨R, 2, none⟩ y2) base v n := ((h.far hR).far hR).far hR

set_option maxHeartbeats 8000000 in
set_option maxRecDepth 100000 in
theorem lowest_any (v : Value) (x : Int) (d : Nat) (w : World) (h : FrV w v x d) (hx : x.natAbs < Big) (hd : d < Big) (h0 : 0 < d) : Calls Tryz.prog 72 #[v] w fun e w' => ∃ v', e = .returned v' ∧ FrO w' w.heap.size v' (lowN x d) (lowD x d) ∧ Below w.heap.size w w' := by
  obtain ⟨a, k, c, a', k', c', rfl, n1, n2⟩ := h
  have N1 := Lib.hid n1; have N2 := Lib.hid n2
  have HX := Lib.hid hx; have HD := Lib.hid hd; have H0 := Lib.hid h0
  clear n1 n2 hx hd h0
  go_enter Tryz.func72, Tryz.ntmps72
  obtain ⟨W, eW, h1, h2, bel, hsz⟩ := alloc2 w (Obj.cells #[Value.bool (sgn x), Value.slice a k c, Value.slice a' k' c'] 84) (Obj.cells #[Value.bool false, Value.slice none 0 0, Value.slice none 0 0] 84)
  obtain ⟨⟨p0, p1, p2⟩, _, _⟩ := blk3 h1
  have HA := Lib.hid h1; have HR : Hid (W.heap[w.heap.size + 1]? = _) := Lib.hid h2; have BW := Lib.hid bel
  have GC : Hid (Calls Tryz.prog 89 #[.slice a k c, .slice a' k' c'] W fun e w' => ∃ v', e = .returned (.tuple #[v', .int .i64 0]) ∧ Num w' v' (Nat.gcd x.natAbs d) ∧ Below W.heap.size W w') := Lib.hid (by
    obtain ⟨ys, s, l, _, ey⟩ := N2.out.below' bel
    have := gcd_num (N1.out.below' bel) s l HX.out (by rw [ey]; exact HD.out)
    rw [ey] at this; exact this)
  clear h1 h2 bel
  go_wp2_with fail
  try rw [eW]
  clear eW
  refine GC.out.mono ?_
  rintro e w1 ⟨vg, rfl, hg, b1⟩
  have A1 := Lib.hid (blk_below' b1 HA.out); have R1 := Lib.hid (blk_below' b1 HR.out); have B1 := Lib.hid (below_of BW.out b1)
  have GN := Lib.hid hg
  obtain ⟨ga, gk, gc, rfl⟩ := hg.nm.shape
  have IO := Lib.hid (isOne_is _ _ w1 hg)
  clear hg b1 HA HR BW GC p0 p1 p2
  go_wp2_with fail
  refine IO.out.mono ?_
  rintro e w1' ⟨rfl, rfl⟩
  clear IO
  obtain ⟨⟨p0, p1, p2⟩, _, lA⟩ := blk3 A1.out
  obtain ⟨⟨r0, r1, r2⟩, ⟨f0, f1, f2⟩, lR⟩ := blk3 R1.out
  have hle : w.heap.size ≤ w.heap.size + 1 := Nat.le_succ _
  by_cases hg : Nat.gcd x.natAbs d = 1
  · have E1 := Lib.hid (low_one hg)
    rw [decide_eq_true hg]
    clear hg r0 r1 r2 f0 f1 f2
    have hN1 : Below w.heap.size w w1' := B1.out
    obtain ⟨PP, hP⟩ : ∃ PP : World → Prop, PP = fun w' => w'.heap[w.heap.size]? = some (Obj.cells #[Value.bool (sgn x), Value.slice a k c, Value.slice a' k' c'] 84) ∧ (∃ y0 y1 y2, w'.heap[w.heap.size + 1]? = some (Obj.cells #[y0, y1, y2] 84)) ∧ Below w.heap.size w w' ∧ w1'.heap.size ≤ w'.heap.size := ⟨_, rfl⟩
    have hP0 : PP w1' := by rw [hP]; exact ⟨A1.out, ⟨_, _, _, R1.out⟩, B1.out, Nat.le_refl _⟩
    have PD : Hid (∀ u, PP u → PP u.drew) := Lib.hid (by rw [hP]; exact fun u h => ⟨h.1, h.2.1, h.2.2.1.drew, h.2.2.2⟩)
    have PC : Hid (∀ u v, PP u → Below u.heap.size u v → PP v) := Lib.hid (by rw [hP]; rintro u v ⟨h1, ⟨y0, y1, y2, h2⟩, h3, h4⟩ hb; exact ⟨blk_below' hb h1, ⟨y0, y1, y2, blk_below' hb h2⟩, below_of h3 hb, Nat.le_trans h4 hb.size⟩)
    have PS : Hid (∀ u z0 z1 z2, PP u → PP (((u.setCell ⟨w.heap.size + 1, 0, none⟩ z0).setCell ⟨w.heap.size + 1, 1, none⟩ z1).setCell ⟨w.heap.size + 1, 2, none⟩ z2)) := Lib.hid (by
      rw [hP]; rintro u z0 z1 z2 ⟨h1, ⟨y0, y1, y2, h2⟩, h3, h4⟩
      have ne : w.heap.size ≠ w.heap.size + 1 := by omega
      refine ⟨?_, ⟨z0, z1, z2, heap_setCell_same _ _ 2 _ _ z2 (heap_setCell_same _ _ 1 _ _ z1 (heap_setCell_same _ _ 0 _ _ z0 h2))⟩, (((h3.setCell (p := ⟨w.heap.size + 1, 0, none⟩) (Nat.le_succ _) _).setCell (p := ⟨w.heap.size + 1, 1, none⟩) (Nat.le_succ _) _).setCell (p := ⟨w.heap.size + 1, 2, none⟩) (Nat.le_succ _) _), by simpa using h4⟩
      rw [heap_setCell_other _ ⟨w.heap.size + 1, 2, none⟩ w.heap.size _ ne, heap_setCell_other _ ⟨w.heap.size + 1, 1, none⟩ w.heap.size _ ne, heap_setCell_other _ ⟨w.heap.size + 1, 0, none⟩ w.heap.size _ ne]
      exact h1)
    have STAY : Hid (∀ w', PP w' → w'.cell? ⟨w.heap.size, 0, none⟩ = some (.bool (sgn x)) ∧ w'.cell? ⟨w.heap.size, 1, none⟩ = some (.slice a k c) ∧ w'.cell? ⟨w.heap.size, 2, none⟩ = some (.slice a' k' c') ∧ PP w') := Lib.hid (by rw [hP]; exact fun w' h => ⟨(blk3 h.1).1.1, (blk3 h.1).1.2.1, (blk3 h.1).1.2.2, h⟩)
    have PR : Hid (∀ u, PP u → (∃ y0 y1 y2, u.heap[w.heap.size + 1]? = some (Obj.cells #[y0, y1, y2] 84)) ∧ Below w.heap.size w u ∧ w1'.heap.size ≤ u.heap.size) := Lib.hid (by rw [hP]; exact fun u h => h.2)
    have FA : Hid (∀ u, PP u → Calls Tryz.prog 100 #[.slice a k c] u fun e w' => ∃ v', e = .returned v' ∧ Ow w' w1'.heap.size v' x.natAbs ∧ Below u.heap.size u w') := Lib.hid (fun u h => (rfresh_any _ _ u (N1.out.below' (PR.out u h).2.1)).mono fun e w' ⟨v', he, ho, hb⟩ => ⟨v', he, ho.mono (PR.out u h).2.2, hb⟩)
    have FB : Hid (∀ u, PP u → Calls Tryz.prog 100 #[.slice a' k' c'] u fun e w' => ∃ v', e = .returned v' ∧ Ow w' w1'.heap.size v' d ∧ Below u.heap.size u w') := Lib.hid (fun u h => (rfresh_any _ _ u (N2.out.below' (PR.out u h).2.1)).mono fun e w' ⟨v', he, ho, hb⟩ => ⟨v', he, ho.mono (PR.out u h).2.2, hb⟩)
    have lR' : w.heap.size + 1 < w1'.heap.size := lR
    clear hP p0 p1 p2 lA lR hN1
    go_wp2_with fail
    go_region_held3 (fun w' => w'.cell? ⟨w.heap.size, 0, none⟩ = some (.bool (sgn x)) ∧ w'.cell? ⟨w.heap.size, 1, none⟩ = some (.slice a k c) ∧ w'.cell? ⟨w.heap.size, 2, none⟩ = some (.slice a' k' c') ∧ PP w')
      ((try go_split_ands; refine STAY.out _ ?_; repeat (first | (with_reducible assumption) | (with_reducible refine PD.out _ ?_) | (with_reducible refine PS.out _ _ _ _ ?_))))
      (first
      | (go_at_call 100; go_split_ands; first
        | (have hg := jj1; (with_reducible refine Calls.mono (FB.out _ (by with_reducible assumption)) ?_); rintro e wB ⟨vB, rfl, jj2, bB⟩; obtain ⟨aB, kB, cB, rfl⟩ := jj2.shape; have hpB := PC.out _ _ (by with_reducible assumption) bB; have jj1b := jj1.below bB; obtain ⟨⟨y0, y1, y2, hy⟩, BWB, szB⟩ := PR.out _ hpB; have HBB := Lib.hid BWB; obtain ⟨⟨u0, u1, u2⟩, ⟨g0, g1, g2⟩, lB⟩ := blk3 hy; clear hy BWB)
        | ((with_reducible refine Calls.mono (FA.out _ (by with_reducible assumption)) ?_); rintro e wA ⟨vA, rfl, jj1, bA⟩; obtain ⟨aA, kA, cA, rfl⟩ := jj1.shape; have hpA := PC.out _ _ (by with_reducible assumption) bA)))
    go_wp2
    refine bodyPost_ret (v := .agg #[.bool (sgn x), .slice aA kA cA, .slice aB kB cB]) ?_ rfl ⟨_, rfl, ⟨aA, kA, cA, aB, kB, cB, by rw [E1.out.1], by rw [E1.out.1]; exact (ow_far3 jj1b lR').mono (by omega), by rw [E1.out.2]; exact (ow_far3 jj2 lR').mono (by omega)⟩, ((HBB.out.setCell (p := ⟨w.heap.size + 1, 0, none⟩) hle _).setCell (p := ⟨w.heap.size + 1, 1, none⟩) hle _).setCell (p := ⟨w.heap.size + 1, 2, none⟩) hle _⟩
    simp [results, Tryz.results72, go_sem, *]
  · have hgp : 0 < Nat.gcd x.natAbs d := gcd_posD H0.out
    have hgl : Nat.gcd x.natAbs d < Big := Nat.lt_of_le_of_lt (Nat.gcd_le_right _ H0.out) HD.out
    have F1 := Lib.hid (quo_fine (show ¬ (Big ≤ x.natAbs ∨ Big ≤ Nat.gcd x.natAbs d) by have := HX.out; omega) (by omega))
    have F2 := Lib.hid (quo_fine (show ¬ (Big ≤ d ∨ Big ≤ Nat.gcd x.natAbs d) by have := HD.out; omega) (by omega))
    have Q1 := Lib.hid (quo_nm (N1.out.below' B1.out).nm GN.out.nm)
    have LA := Lib.hid (low_abs x d)
    have LS := Lib.hid (low_sign (x := x) H0.out)
    rw [decide_eq_false hg]
    clear hg hgp hgl r0 r1 r2 f0 f1 f2
    go_wp2_with fail
    refine Q1.out.mono ?_
    rintro e w2 ⟨vq, vr, rfl, hq, hr, b2⟩
    rw [F1.out.1] at hq
    rw [F1.out.2.2]
    have O1 := Lib.hid hq.ow
    obtain ⟨qa, qk, qc, rfl⟩ := hq.ow.shape
    have A2 := Lib.hid (blk_below' b2 A1.out); have R2 := Lib.hid (blk_below' b2 R1.out); have B2 := Lib.hid (below_of B1.out b2)
    have hz2 := b2.size
    have Q2 := Lib.hid (quo_nm (N2.out.below' B2.out).nm (GN.out.below' b2).nm)
    clear hq hr b2 A1 R1 B1 GN Q1 p0 p1 p2
    obtain ⟨⟨p0, p1, p2⟩, _, _⟩ := blk3 A2.out
    go_wp2_with fail
    refine Q2.out.mono ?_
    rintro e w3 ⟨vq', vr', rfl, hq, hr, b3⟩
    rw [F2.out.1] at hq
    rw [F2.out.2.2]
    have O2 := Lib.hid hq.ow
    obtain ⟨ta, tk, tc, rfl⟩ := hq.ow.shape
    have O1' := Lib.hid (O1.out.below b3)
    have hz3 := b3.size
    have B3 := Lib.hid (below_of B2.out b3)
    have HR3 := blk_below' b3 R2.out
    have HA3 := blk_below' b3 A2.out
    obtain ⟨⟨r0, r1, r2⟩, ⟨f0, f1, f2⟩, lR3⟩ := blk3 HR3
    clear hq hr b3 R2 O1 Q2 B2 HR3 p0 p1 p2
    obtain ⟨⟨p0, p1, p2⟩, _, _⟩ := blk3 HA3
    clear HA3 A2
    go_wp2
    refine bodyPost_ret (v := .agg #[.bool (sgn x), .slice qa qk qc, .slice ta tk tc]) ?_ rfl ⟨_, rfl, ⟨qa, qk, qc, ta, tk, tc, by rw [LS.out], by rw [LA.out]; exact (ow_far3 O1'.out (by omega)).mono (by omega), (ow_far3 O2.out (by omega)).mono (by omega)⟩, ((B3.out.setCell (p := ⟨w.heap.size + 1, 0, none⟩) hle _).setCell (p := ⟨w.heap.size + 1, 1, none⟩) hle _).setCell (p := ⟨w.heap.size + 1, 2, none⟩) hle _⟩
    simp [results, Tryz.results72, go_sem, *]
end Go.Proofs.YthgmebnihpjnoaaGreatDoor

/- What is long for package ratio: more than 1024 limbs. -/
namespace Go.Proofs.YthgmebnihpjnoaaGreatDoor
open Go.RowKit Mth

def maxR : Nat := 1024
def BigR : Nat := B64 ^ maxR
theorem bigR_pos : 0 < BigR := pow_pos' maxR
theorem bigR_eq : BigR = B64 ^ maxR := rfl
theorem bigR_big : BigR * BigR * 4 ≤ Big := by
  have := shn_of bigR_eq big_eq (by unfold maxR maxL; omega)
  omega
theorem bigR_lt {n : Nat} (h : n < BigR) : n < Big := by
  have h1 := bigR_big; have h2 := bigR_pos
  have h3 : BigR * 1 ≤ BigR * BigR := Nat.mul_le_mul_left _ h2
  omega
/-- what a sum's or a product's parts come to, where nothing was long -/
structure Fits (x1 x2 : Int) (d1 d2 : Nat) : Prop where
  a : (x1 * d2).natAbs < Big
  b : (x2 * d1).natAbs < Big
  s : (x1 * d2 + x2 * d1).natAbs < Big
  d : d1 * d2 < Big
  p : (x1 * x2).natAbs < Big
theorem fits_of {x1 x2 : Int} {d1 d2 : Nat} (h1 : x1.natAbs < BigR) (h2 : x2.natAbs < BigR) (h3 : d1 < BigR) (h4 : d2 < BigR) : Fits x1 x2 d1 d2 := by
  have hb := bigR_big; have hp := bigR_pos
  have hpp : 0 < BigR * BigR := Nat.mul_pos hp hp
  have m : ∀ a b : Nat, a < BigR → b < BigR → a * b ≤ BigR * BigR := fun a b ha hb => Nat.mul_le_mul (Nat.le_of_lt ha) (Nat.le_of_lt hb)
  have e1 : (x1 * d2).natAbs = x1.natAbs * d2 := by rw [Int.natAbs_mul, Int.natAbs_natCast]
  have e2 : (x2 * d1).natAbs = x2.natAbs * d1 := by rw [Int.natAbs_mul, Int.natAbs_natCast]
  have e3 : (x1 * x2).natAbs = x1.natAbs * x2.natAbs := Int.natAbs_mul _ _
  have m1 := m _ _ h1 h4; have m2 := m _ _ h2 h3; have m3 := m _ _ h3 h4; have m4 := m _ _ h1 h2
  exact ⟨by omega, by omega, by omega, by omega, by omega⟩
theorem num_longR {w : World} {n k c : Nat} {ao : Option Addr} (h : Num w (.slice ao k c) n) : 1024 < k ↔ BigR ≤ n := by
  obtain ⟨xs, h1, h2, h3, h4⟩ := h
  obtain ⟨ao', c', e, _⟩ := h1
  simp only [Value.slice.injEq] at e
  obtain ⟨_, rfl, _⟩ := e
  have := long_gen (m := maxR) h2
  rw [trimL_of_top h3, h4] at this
  exact this
set_option maxRecDepth 100000 in
theorem flong_any (v : Value) (x : Int) (d : Nat) (r : Bool) (w : World) (h : FrV w v x d) (hr : decide (BigR ≤ x.natAbs ∨ BigR ≤ d) = r) : Calls Tryz.prog 91 #[v] w fun e w' => e = .returned (.bool r) ∧ Below w.heap.size w w' := by
  obtain ⟨a, k, c, a', k', c', rfl, h1, h2⟩ := h
  refine flong_is _ _ _ _ _ _ _ r w ?_
  rw [← hr]
  have e1 := num_longR h1; have e2 := num_longR h2
  by_cases h : BigR ≤ x.natAbs ∨ BigR ≤ d
  · rw [decide_eq_true h]
    refine decide_eq_true ?_
    rcases h with h | h
    · exact .inl (e1.2 h)
    · exact .inr (e2.2 h)
  · rw [decide_eq_false h]
    exact decide_eq_false (fun h' => h (by
      rcases h' with h' | h'
      · exact .inl (e1.1 h')
      · exact .inr (e2.1 h')))
end Go.Proofs.YthgmebnihpjnoaaGreatDoor
