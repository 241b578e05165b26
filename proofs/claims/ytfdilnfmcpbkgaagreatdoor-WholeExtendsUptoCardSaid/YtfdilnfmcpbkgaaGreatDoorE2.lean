/- EJ EK. -/
import Derived.Test.YtfdilnfmcpbkgaaGreatDoorE1
import Derived.Test.YtfdilnfmcpbkgaaGreatDoorGR
import Derived.Test.YtfdilnfmcpbkgaaGreatDoorYP
import Derived.Test.YtfdilnfmcpbkgaaGreatDoorY3
import Derived.Test.YtfdilnfmcpbkgaaGreatDoorYJ
import Derived.Test.YtfdilnfmcpbkgaaGreatDoorMA
set_option linter.unusedVariables false
set_option linter.unusedSimpArgs false
/- tribunalref02's Extended: the beginning, and where a number is too long. -/
namespace Go.Proofs.YtfdilnfmcpbkgaaGreatDoor
open Go.RowKit Mth

theorem zv_callz {w w' : World} {v : Value} {z : Int} (hb : Below w.heap.size w w') (h : ZV w v z) : ZV w' v z := h.below hb
/-- two boxes of the reference's numbers -/
def FrZ (W wx : World) (x y : Int) (s t : Value) : Prop := ∃ (g h : Nat) (n1 : Bool) (a1 : Option Addr) (k1 c1 : Nat) (n2 : Bool) (a2 : Option Addr) (k2 c2 : Nat), s = .pointer (some ⟨g, 0, none⟩) ∧ t = .pointer (some ⟨h, 0, none⟩) ∧ W.heap.size ≤ g ∧ W.heap.size ≤ h ∧ g ≠ h ∧
  wx.heap[g]? = some (.cells #[.bool n1, .slice a1 k1 c1] 58 (0, 0)) ∧ wx.heap[h]? = some (.cells #[.bool n2, .slice a2 k2 c2] 58 (0, 0)) ∧ ZV wx (.agg #[.bool n1, .slice a1 k1 c1]) x ∧ ZV wx (.agg #[.bool n2, .slice a2 k2 c2]) y ∧ Below W.heap.size W wx
set_option maxHeartbeats 8000000 in
set_option maxRecDepth 100000 in
theorem rext_big (va vb : Value) (x y : Int) (w : World) (ha : IntV w va x) (hb : IntV w vb y) (hl : Big ≤ x.natAbs ∨ Big ≤ y.natAbs) :
    Calls Tryz.prog 7 #[va, vb] w fun e w' => e = .returned (.tuple #[.agg #[.bool false, .slice none 0 0], .agg #[.bool false, .slice none 0 0], .agg #[.bool false, .slice none 0 0], .int .i64 5]) ∧ Below w.heap.size w w' := by
  obtain ⟨n1, a1, k1, c1, rfl⟩ := ha.shape
  obtain ⟨n2, a2, k2, c2, rfl⟩ := hb.shape
  have HA := Lib.hid ha; have HB := Lib.hid hb
  obtain ⟨dx, hdx⟩ : ∃ d, decide (Big ≤ x.natAbs) = d := ⟨_, rfl⟩
  have HDX := Lib.hid hdx
  have HD : Hid (dx = true ∨ decide (Big ≤ y.natAbs) = true) := Lib.hid (by
    rcases hl with h | h
    · exact .inl (by rw [← hdx]; exact decide_eq_true h)
    · exact .inr (decide_eq_true h))
  clear hl hdx ha hb
  go_enter Tryz.func7, Tryz.ntmps7
  obtain ⟨W, eW, hA, hB, hR1, hR2, hR3, bel, hsz⟩ := alloc5 w (Obj.cells #[Value.bool n1, Value.slice a1 k1 c1] 25) (Obj.cells #[Value.bool n2, Value.slice a2 k2 c2] 25) (Obj.cells #[Value.bool false, Value.slice none 0 0] 25) (Obj.cells #[Value.bool false, Value.slice none 0 0] 25) (Obj.cells #[Value.bool false, Value.slice none 0 0] 25)
  obtain ⟨p0, p1, _, _, l0⟩ := blk2 hA
  obtain ⟨q0, q1, _, _, l1⟩ := blk2 hB
  have HR1 := Lib.hid hR1; have HR2 : Hid (W.heap[w.heap.size + 1 + 1 + 1]? = _) := Lib.hid hR2; have HR3 : Hid (W.heap[w.heap.size + 1 + 1 + 1 + 1]? = _) := Lib.hid hR3
  have BW := Lib.hid bel
  go_wp2_with fail
  try rw [eW]
  have FA : Hid (∀ w1, Below W.heap.size W w1 → Calls Tryz.prog 25 #[.agg #[.bool n1, .slice a1 k1 c1]] w1 fun e w' => ∃ v', e = .returned v' ∧ ZV w' v' x ∧ Below w1.heap.size w1 w') := Lib.hid (fun w1 h => from_any2 _ x w1 (HA.out.below (below_of bel h)))
  have FB : Hid (∀ w1, Below W.heap.size W w1 → Calls Tryz.prog 25 #[.agg #[.bool n2, .slice a2 k2 c2]] w1 fun e w' => ∃ v', e = .returned v' ∧ ZV w' v' y ∧ Below w1.heap.size w1 w') := Lib.hid (fun w1 h => from_any2 _ y w1 (HB.out.below (below_of bel h)))
  have STAY : Hid (∀ w', Below W.heap.size W w' → w'.cell? ⟨w.heap.size, 0, none⟩ = some (.bool n1) ∧ w'.cell? ⟨w.heap.size, 1, none⟩ = some (.slice a1 k1 c1) ∧ w'.cell? ⟨w.heap.size + 1, 0, none⟩ = some (.bool n2) ∧ w'.cell? ⟨w.heap.size + 1, 1, none⟩ = some (.slice a2 k2 c2) ∧ Below W.heap.size W w' ∧ W.heap.size ≤ w'.heap.size) :=
    Lib.hid (fun w' h => ⟨cell_to h p0 l0, cell_to h p1 l0, cell_to h q0 l1, cell_to h q1 l1, h, h.size⟩)
  have hB0 := (Below.refl W.heap.size W).drew
  clear eW hA hB hR1 hR2 hR3 bel p0 p1 q0 q1 HA HB
  go_cut [8, 9] (fun s t wx => FrZ W wx x y s t)
  case first =>
    go_region_held3 (fun w' => w'.cell? ⟨w.heap.size, 0, none⟩ = some (.bool n1) ∧ w'.cell? ⟨w.heap.size, 1, none⟩ = some (.slice a1 k1 c1) ∧ w'.cell? ⟨w.heap.size + 1, 0, none⟩ = some (.bool n2) ∧ w'.cell? ⟨w.heap.size + 1, 1, none⟩ = some (.slice a2 k2 c2) ∧ Below W.heap.size W w' ∧ W.heap.size ≤ w'.heap.size)
      (((try go_split_ands); refine STAY.out _ ?_; repeat (first | (with_reducible assumption) | (with_reducible exact Below.refl _ _) | (with_reducible refine Below.drew ?_) | (with_reducible exact below_to (by with_reducible assumption) (by with_reducible assumption)) | ((with_reducible refine Below.alloc ?_ ?_ _); rotate_left; (focus (first | omega | (simp; done) | (simp; omega)))) | ((with_reducible refine Below.setCell ?_ ?_ _); rotate_left; (focus (first | omega | (simp; done) | (simp; omega)))))))
      (first
      | (go_at_call 25; go_split_ands; first
        | (have hg := ii4; (with_reducible refine Calls.mono (FB.out _ (by with_reducible assumption)) ?_); rintro e w5 ⟨v5, rfl, ii5, hb5⟩; obtain ⟨m5, d5, l5, e5, rfl⟩ := ii5.shape; have hk5 := below_to hb5 (by with_reducible assumption); have hz5 := hk5.size; obtain ⟨hc5, hf5⟩ := bcell hb5; have hy5 := hb5.size; (try simp only [sz_alloc, sz_set, sz_drew] at hy5); (try (have hqW5 : W.heap.size < w5.heap.size := by omega)); (try (have hrW5 : W.heap.size + 1 < w5.heap.size := by omega)); (try (have hqw45 : w4.heap.size < w5.heap.size := by omega)); (try (have hrw45 : w4.heap.size + 1 < w5.heap.size := by omega)))
        | ((with_reducible refine Calls.mono (FA.out _ (by with_reducible assumption)) ?_); rintro e w4 ⟨v4, rfl, ii4, hb4⟩; obtain ⟨m4, d4, l4, e4, rfl⟩ := ii4.shape; have hk4 := below_to hb4 (by with_reducible assumption); have hz4 := hk4.size; obtain ⟨hc4, hf4⟩ := bcell hb4; have hy4 := hb4.size; (try simp only [sz_alloc, sz_set, sz_drew] at hy4); (try (have hqW4 : W.heap.size < w4.heap.size := by omega)); (try (have hrW4 : W.heap.size + 1 < w4.heap.size := by omega)))))
    all_goals
      (go_wp2_with fail
       go_meet
       clear hc4 hf4 hc5 hf5
       refine ⟨_, _, m4, d4, l4, e4, m5, d5, l5, e5, rfl, rfl, ?_, ?_, ?_, ?_, ?_, ?_, ?_, ?_⟩)
    all_goals
      repeat (first | (with_reducible assumption) | ((with_reducible refine blk_newz ?_); (first | omega | (simp only [sz_alloc, sz_set, sz_drew]; omega) | (focus (simp only [sz_alloc, sz_set, sz_drew]; done)))) | ((with_reducible refine blk_ltz ?_ ?_); (first | omega | (simp only [sz_alloc, sz_set, sz_drew]; omega) | (focus (simp only [sz_alloc, sz_set, sz_drew]; done)))) | (with_reducible refine blk_own2z ?_) | ((with_reducible refine blk_twoz ?_ ?_); (first | omega | (simp only [sz_alloc, sz_set, sz_drew]; omega) | (focus (simp only [sz_alloc, sz_set, sz_drew]; done)))) | (with_reducible refine blk_drew ?_) | ((with_reducible refine blk_below hb5 ?_ ?_); (first | omega | (simp only [sz_alloc, sz_set, sz_drew]; omega) | (focus (simp only [sz_alloc, sz_set, sz_drew]; done)))) | ((with_reducible refine blk_below hb4 ?_ ?_); (first | omega | (simp only [sz_alloc, sz_set, sz_drew]; omega) | (focus (simp only [sz_alloc, sz_set, sz_drew]; done)))) | (with_reducible refine zv_allocz ?_) | (with_reducible refine zv_set2z ?_ ?_) | (with_reducible refine zv_callz hb5 ?_) | (with_reducible refine zv_callz hb4 ?_) | (with_reducible exact Below.refl _ _) | (with_reducible refine Below.drew ?_) | ((with_reducible refine Below.alloc ?_ ?_ _); rotate_left; (focus (first | omega | (simp; done) | (simp; omega)))) | ((with_reducible refine Below.setCell ?_ ?_ _); rotate_left; (focus (first | omega | (simp; done) | (simp; omega)))) | (first | omega | (simp only [sz_alloc, sz_set, sz_drew]; omega) | (focus (simp only [sz_alloc, sz_set, sz_drew]; done))))
  case rest =>
    obtain ⟨g, h, m1, d1, l1', e1, m2, d2, l2', e2, rfl, rfl, hg, hh, hgh, hG, hH, zx, zy, hbc⟩ := hcut
    generalize wc = w1 at *
    have B1 := Lib.hid (below_of BW.out hbc)
    have P1 := Lib.hid (blk_below' hbc HR1.out); have P2 := Lib.hid (blk_below' hbc HR2.out); have P3 := Lib.hid (blk_below' hbc HR3.out)
    have HG := Lib.hid hG; have HH := Lib.hid hH; have ZX := Lib.hid zx; have ZY := Lib.hid zy
    have LX := Lib.hid (longZ_any _ x w1 zx)
    obtain ⟨x0, x1, _, _, lg⟩ := blk2 hG
    clear hG hH zx zy hbc FA FB STAY hB0 HR1 HR2 HR3
    go_wp2_with fail
    refine LX.out.mono ?_
    rintro e w2 ⟨rfl, b2⟩
    rw [HDX.out]
    have B2 := Lib.hid (below_of B1.out b2)
    have Q1 := Lib.hid (blk_below' b2 P1.out); have Q2 := Lib.hid (blk_below' b2 P2.out); have Q3 := Lib.hid (blk_below' b2 P3.out)
    have G2 := Lib.hid (blk_below' b2 HG.out); have H2 := Lib.hid (blk_below' b2 HH.out); have ZX2 := Lib.hid (ZX.out.below b2); have ZY2 := Lib.hid (ZY.out.below b2)
    have LY := Lib.hid (longZ_any _ y w2 ZY2.out)
    have lw : w.heap.size + 1 + 1 + 1 + 1 < W.heap.size := hsz
    clear b2 x0 x1 P1 P2 P3 HG HH ZX ZY LX
    obtain ⟨y0, y1, _, _, _⟩ := blk2 H2.out
    cases dx
    · have hdy := HD.out.resolve_left (by simp)
      have HDY := Lib.hid hdy
      clear HD hdy
      go_wp2_with fail
      refine LY.out.mono ?_
      rintro e w3 ⟨rfl, b3⟩
      rw [HDY.out]
      have B3 := Lib.hid (below_of B2.out b3)
      have R1 := Lib.hid (blk_below' b3 Q1.out); have R2 := Lib.hid (blk_below' b3 Q2.out); have R3 := Lib.hid (blk_below' b3 Q3.out)
      clear b3 Q1 Q2 Q3 y0 y1 HDY
      obtain ⟨x00, x01, x02, x03, x04⟩ := blk2 R1.out
      obtain ⟨x10, x11, x12, x13, x14⟩ := blk2 R2.out
      obtain ⟨x20, x21, x22, x23, x24⟩ := blk2 R3.out
      have o2 : w.heap.size ≤ w.heap.size + 1 + 1 := by omega
      have o3 : w.heap.size ≤ w.heap.size + 1 + 1 + 1 := by omega
      have o4 : w.heap.size ≤ w.heap.size + 1 + 1 + 1 + 1 := by omega
      go_wp2
      refine bodyPost_ret (v := .tuple #[.agg #[.bool false, .slice none 0 0], .agg #[.bool false, .slice none 0 0], .agg #[.bool false, .slice none 0 0], .int .i64 5]) ?_ rfl ⟨rfl, set_below (set_below (set_below (set_below (set_below (set_below B3.out o2) o2) o3) o3) o4) o4⟩
      simp [results, Tryz.results7, go_sem, *]
    · clear HD
      obtain ⟨x00, x01, x02, x03, x04⟩ := blk2 Q1.out
      obtain ⟨x10, x11, x12, x13, x14⟩ := blk2 Q2.out
      obtain ⟨x20, x21, x22, x23, x24⟩ := blk2 Q3.out
      have o2 : w.heap.size ≤ w.heap.size + 1 + 1 := by omega
      have o3 : w.heap.size ≤ w.heap.size + 1 + 1 + 1 := by omega
      have o4 : w.heap.size ≤ w.heap.size + 1 + 1 + 1 + 1 := by omega
      go_wp2
      refine bodyPost_ret (v := .tuple #[.agg #[.bool false, .slice none 0 0], .agg #[.bool false, .slice none 0 0], .agg #[.bool false, .slice none 0 0], .int .i64 5]) ?_ rfl ⟨rfl, set_below (set_below (set_below (set_below (set_below (set_below B2.out o2) o2) o3) o3) o4) o4⟩
      simp [results, Tryz.results7, go_sem, *]
end Go.Proofs.YtfdilnfmcpbkgaaGreatDoor

/- tribunalref02's Extended where neither is long. -/
namespace Go.Proofs.YtfdilnfmcpbkgaaGreatDoor
open Go.RowKit Mth

theorem r_startz (A B : Nat) : r1 (eStart A B) = 1 ∧ r2 (eStart A B) = 0 ∧ r3 (eStart A B) = 0 ∧ r4 (eStart A B) = 1 := ⟨rfl, by simp [r2, eStart, sg], by simp [r3, eStart, sg], rfl⟩
theorem zv_drewz {w : World} {v : Value} {z : Int} (h : ZV w v z) : ZV w.drew v z := h
theorem big_hugez {z : Int} (h : z.natAbs < Big) : z.natAbs < HugeD := Nat.lt_of_lt_of_le h (Nat.le_trans big_huge huge_d)
theorem big_b16 {n : Nat} (h : n < Big) : n < B16 ^ (4 * maxL) := by rw [← b64_b16]; exact h
theorem timesB (va vb : Value) (x y : Int) (w : World) (ha : ZV w va x) (hb : ZV w vb y) (hx : x.natAbs < Big) (hy : y.natAbs < Big) :
    Calls Tryz.prog 32 #[va, vb] w fun e w' => ∃ v', e = .returned v' ∧ ZV w' v' (x * y) ∧ Below w.heap.size w w' := times_any2 va vb x y w ha hb (4 * maxL) (4 * maxL) (big_b16 hx) (big_b16 hy) (by unfold maxL; omega)
theorem plusB (va vb : Value) (x y z : Int) (w : World) (ha : ZV w va x) (hb : ZV w vb y) (hx : x.natAbs < Big) (hy : y.natAbs < Big) (e : x + y = z) :
    Calls Tryz.prog 30 #[va, vb] w fun e w' => ∃ v', e = .returned v' ∧ ZV w' v' z ∧ Below w.heap.size w w' := by
  subst e; exact plus_any2 va vb x y w ha hb (big_hugez hx) (big_hugez hy)
/-- Euclid's rows of two numbers that are not long -/
structure OkS (A B : Nat) (s : ESt) : Prop where
  p : s.p < Big
  q : s.q < Big
  i : EInv A B s
theorem okr {A B : Nat} {s : ESt} (h : EInv A B s) (hm : max A 1 < Big ∧ max B 1 < Big) : (r1 s).natAbs < Big ∧ (r2 s).natAbs < Big ∧ (r3 s).natAbs < Big ∧ (r4 s).natAbs < Big := by
  obtain ⟨e1, e2, e3, e4⟩ := natAbs_r s
  obtain ⟨b1, b2⟩ := h.ab
  obtain ⟨b3, b4⟩ := h.cd
  obtain ⟨m1, m2⟩ := hm
  exact ⟨by omega, by omega, by omega, by omega⟩
theorem mxd {k f g z : Int} (h : Mx Big 1 (-k) f g z) : (-(k * g)).natAbs < Big := by have := h.dn; rw [Int.neg_mul] at this; exact this
theorem mxs {k f g z : Int} (h : Mx Big 1 (-k) f g z) : f + -(k * g) = z := by have := h.sm; rw [Int.neg_mul, Int.one_mul] at this; exact this
theorem IsB.intk {w : World} {R : Nat} {T : TypeId} {v y0 y1 : Value} {z : Int} (h : IsB w R T) (hi : IntK w v z) : IntK ((w.setCell ⟨R, 0, none⟩ y0).setCell ⟨R, 1, none⟩ y1) v z := by
  obtain ⟨x, ao, n, c, hR⟩ := h
  exact hi.far hR
/-- a new box of the reference's number -/
def UzO (W wx : World) (z : Int) (s : Value) : Prop := ∃ (g : Nat) (n : Bool) (a : Option Addr) (k c : Nat), s = .pointer (some ⟨g, 0, none⟩) ∧ W.heap.size ≤ g ∧ wx.heap[g]? = some (.cells #[.bool n, .slice a k c] 58 (0, 0)) ∧ ZV wx (.agg #[.bool n, .slice a k c]) z ∧ Below W.heap.size W wx
/-- what Extended's loop holds -/
def RlO (U wr : World) (A B P Q : Nat) : Prop := ∃ (s : ESt) (n0 n1 n2 n3 n4 n5 : Bool) (a0 a1 a2 a3 a4 a5 : Option Addr) (k0 c0 k1 c1 k2 c2 k3 c3 k4 c4 k5 c5 : Nat), wr.heap[P]? = some (.cells #[.bool n0, .slice a0 k0 c0] 58 (0, 0)) ∧ wr.heap[P + 1]? = some (.cells #[.bool n1, .slice a1 k1 c1] 58 (0, 0)) ∧ wr.heap[P + 1 + 1]? = some (.cells #[.bool n2, .slice a2 k2 c2] 58 (0, 0)) ∧ wr.heap[Q]? = some (.cells #[.bool n3, .slice a3 k3 c3] 58 (0, 0)) ∧ wr.heap[Q + 1]? = some (.cells #[.bool n4, .slice a4 k4 c4] 58 (0, 0)) ∧ wr.heap[Q + 1 + 1]? = some (.cells #[.bool n5, .slice a5 k5 c5] 58 (0, 0)) ∧
  ZV wr (.agg #[.bool n0, .slice a0 k0 c0]) (s.p : Int) ∧ ZV wr (.agg #[.bool n1, .slice a1 k1 c1]) (r1 s) ∧ ZV wr (.agg #[.bool n2, .slice a2 k2 c2]) (r2 s) ∧ ZV wr (.agg #[.bool n3, .slice a3 k3 c3]) (s.q : Int) ∧ ZV wr (.agg #[.bool n4, .slice a4 k4 c4]) (r3 s) ∧ ZV wr (.agg #[.bool n5, .slice a5 k5 c5]) (r4 s) ∧ OkS A B s ∧ eEnd s = eEnd (eStart A B) ∧ Below P U wr

set_option maxHeartbeats 32000000 in
set_option maxRecDepth 100000 in
theorem rext_fine (va vb : Value) (x y : Int) (w : World) (ha : IntV w va x) (hb : IntV w vb y) (hx : x.natAbs < Big) (hy : y.natAbs < Big) :
    Calls Tryz.prog 7 #[va, vb] w fun e w' => ∃ v1 v2 v3, e = .returned (.tuple #[v1, v2, v3, .int .i64 0]) ∧ IntK w' v1 (xG x y) ∧ IntK w' v2 (xX x y) ∧ IntK w' v3 (xY x y) ∧ Below w.heap.size w w' := by
  obtain ⟨n1, a1, k1, c1, rfl⟩ := ha.shape
  obtain ⟨n2, a2, k2, c2, rfl⟩ := hb.shape
  have HA := Lib.hid ha; have HB := Lib.hid hb
  have HX := Lib.hid hx; have HY := Lib.hid hy
  clear ha hb hx hy
  go_enter Tryz.func7, Tryz.ntmps7
  obtain ⟨W, eW, hA, hB, hR1, hR2, hR3, bel, hsz⟩ := alloc5 w (Obj.cells #[Value.bool n1, Value.slice a1 k1 c1] 25) (Obj.cells #[Value.bool n2, Value.slice a2 k2 c2] 25) (Obj.cells #[Value.bool false, Value.slice none 0 0] 25) (Obj.cells #[Value.bool false, Value.slice none 0 0] 25) (Obj.cells #[Value.bool false, Value.slice none 0 0] 25)
  obtain ⟨p0, p1, _, _, l0⟩ := blk2 hA
  obtain ⟨q0, q1, _, _, l1⟩ := blk2 hB
  have HR1 := Lib.hid hR1; have HR2 : Hid (W.heap[w.heap.size + 1 + 1 + 1]? = _) := Lib.hid hR2; have HR3 : Hid (W.heap[w.heap.size + 1 + 1 + 1 + 1]? = _) := Lib.hid hR3
  have BW := Lib.hid bel
  go_wp2_with fail
  try rw [eW]
  have FA : Hid (∀ w1, Below W.heap.size W w1 → Calls Tryz.prog 25 #[.agg #[.bool n1, .slice a1 k1 c1]] w1 fun e w' => ∃ v', e = .returned v' ∧ ZV w' v' x ∧ Below w1.heap.size w1 w') := Lib.hid (fun w1 h => from_any2 _ x w1 (HA.out.below (below_of bel h)))
  have FB : Hid (∀ w1, Below W.heap.size W w1 → Calls Tryz.prog 25 #[.agg #[.bool n2, .slice a2 k2 c2]] w1 fun e w' => ∃ v', e = .returned v' ∧ ZV w' v' y ∧ Below w1.heap.size w1 w') := Lib.hid (fun w1 h => from_any2 _ y w1 (HB.out.below (below_of bel h)))
  have STAY : Hid (∀ w', Below W.heap.size W w' → w'.cell? ⟨w.heap.size, 0, none⟩ = some (.bool n1) ∧ w'.cell? ⟨w.heap.size, 1, none⟩ = some (.slice a1 k1 c1) ∧ w'.cell? ⟨w.heap.size + 1, 0, none⟩ = some (.bool n2) ∧ w'.cell? ⟨w.heap.size + 1, 1, none⟩ = some (.slice a2 k2 c2) ∧ Below W.heap.size W w' ∧ W.heap.size ≤ w'.heap.size) :=
    Lib.hid (fun w' h => ⟨cell_to h p0 l0, cell_to h p1 l0, cell_to h q0 l1, cell_to h q1 l1, h, h.size⟩)
  have hB0 := (Below.refl W.heap.size W).drew
  clear eW hA hB hR1 hR2 hR3 bel p0 p1 q0 q1 HA HB
  go_cut [8, 9] (fun s t wx => FrZ W wx x y s t)
  case first =>
    go_region_held3 (fun w' => w'.cell? ⟨w.heap.size, 0, none⟩ = some (.bool n1) ∧ w'.cell? ⟨w.heap.size, 1, none⟩ = some (.slice a1 k1 c1) ∧ w'.cell? ⟨w.heap.size + 1, 0, none⟩ = some (.bool n2) ∧ w'.cell? ⟨w.heap.size + 1, 1, none⟩ = some (.slice a2 k2 c2) ∧ Below W.heap.size W w' ∧ W.heap.size ≤ w'.heap.size)
      (((try go_split_ands); refine STAY.out _ ?_; repeat (first | (with_reducible assumption) | (with_reducible exact Below.refl _ _) | (with_reducible refine Below.drew ?_) | (with_reducible exact below_to (by with_reducible assumption) (by with_reducible assumption)) | ((with_reducible refine Below.alloc ?_ ?_ _); rotate_left; (focus (first | omega | (simp; done) | (simp; omega)))) | ((with_reducible refine Below.setCell ?_ ?_ _); rotate_left; (focus (first | omega | (simp; done) | (simp; omega)))))))
      (first
      | (go_at_call 25; go_split_ands; first
        | (have hg := ii4; (with_reducible refine Calls.mono (FB.out _ (by with_reducible assumption)) ?_); rintro e w5 ⟨v5, rfl, ii5, hb5⟩; obtain ⟨m5, d5, l5, e5, rfl⟩ := ii5.shape; have hk5 := below_to hb5 (by with_reducible assumption); have hz5 := hk5.size; obtain ⟨hc5, hf5⟩ := bcell hb5; have hy5 := hb5.size; (try simp only [sz_alloc, sz_set, sz_drew] at hy5); (try (have hqW5 : W.heap.size < w5.heap.size := by omega)); (try (have hrW5 : W.heap.size + 1 < w5.heap.size := by omega)); (try (have hqw45 : w4.heap.size < w5.heap.size := by omega)); (try (have hrw45 : w4.heap.size + 1 < w5.heap.size := by omega)))
        | ((with_reducible refine Calls.mono (FA.out _ (by with_reducible assumption)) ?_); rintro e w4 ⟨v4, rfl, ii4, hb4⟩; obtain ⟨m4, d4, l4, e4, rfl⟩ := ii4.shape; have hk4 := below_to hb4 (by with_reducible assumption); have hz4 := hk4.size; obtain ⟨hc4, hf4⟩ := bcell hb4; have hy4 := hb4.size; (try simp only [sz_alloc, sz_set, sz_drew] at hy4); (try (have hqW4 : W.heap.size < w4.heap.size := by omega)); (try (have hrW4 : W.heap.size + 1 < w4.heap.size := by omega)))))
    all_goals
      (go_wp2_with fail
       go_meet
       clear hc4 hf4 hc5 hf5
       refine ⟨_, _, m4, d4, l4, e4, m5, d5, l5, e5, rfl, rfl, ?_, ?_, ?_, ?_, ?_, ?_, ?_, ?_⟩)
    all_goals
      repeat (first | (with_reducible assumption) | ((with_reducible refine blk_newz ?_); (first | omega | (simp only [sz_alloc, sz_set, sz_drew]; omega) | (focus (simp only [sz_alloc, sz_set, sz_drew]; done)))) | ((with_reducible refine blk_ltz ?_ ?_); (first | omega | (simp only [sz_alloc, sz_set, sz_drew]; omega) | (focus (simp only [sz_alloc, sz_set, sz_drew]; done)))) | (with_reducible refine blk_own2z ?_) | ((with_reducible refine blk_twoz ?_ ?_); (first | omega | (simp only [sz_alloc, sz_set, sz_drew]; omega) | (focus (simp only [sz_alloc, sz_set, sz_drew]; done)))) | (with_reducible refine blk_drew ?_) | ((with_reducible refine blk_below hb5 ?_ ?_); (first | omega | (simp only [sz_alloc, sz_set, sz_drew]; omega) | (focus (simp only [sz_alloc, sz_set, sz_drew]; done)))) | ((with_reducible refine blk_below hb4 ?_ ?_); (first | omega | (simp only [sz_alloc, sz_set, sz_drew]; omega) | (focus (simp only [sz_alloc, sz_set, sz_drew]; done)))) | (with_reducible refine zv_allocz ?_) | (with_reducible refine zv_set2z ?_ ?_) | (with_reducible refine zv_callz hb5 ?_) | (with_reducible refine zv_callz hb4 ?_) | (with_reducible exact Below.refl _ _) | (with_reducible refine Below.drew ?_) | ((with_reducible refine Below.alloc ?_ ?_ _); rotate_left; (focus (first | omega | (simp; done) | (simp; omega)))) | ((with_reducible refine Below.setCell ?_ ?_ _); rotate_left; (focus (first | omega | (simp; done) | (simp; omega)))) | (first | omega | (simp only [sz_alloc, sz_set, sz_drew]; omega) | (focus (simp only [sz_alloc, sz_set, sz_drew]; done))))
  case rest =>
    obtain ⟨g, h, m1, d1, l1', e1, m2, d2, l2', e2, rfl, rfl, hg, hh, hgh, hG, hH, zx, zy, hbc⟩ := hcut
    generalize wc = w1 at *
    have B1 := Lib.hid (below_of BW.out hbc)
    have P1 := Lib.hid (blk_below' hbc HR1.out); have P2 := Lib.hid (blk_below' hbc HR2.out); have P3 := Lib.hid (blk_below' hbc HR3.out)
    have HG := Lib.hid hG; have HH := Lib.hid hH; have ZX := Lib.hid zx; have ZY := Lib.hid zy
    have LX := Lib.hid (longZ_any _ x w1 zx)
    rw [decide_eq_false (show ¬ Big ≤ x.natAbs by have := HX.out; omega)] at LX
    obtain ⟨x0, x1, _, _, lg⟩ := blk2 hG
    clear hG hH zx zy hbc FA FB STAY hB0 HR1 HR2 HR3
    go_wp2_with fail
    refine LX.out.mono ?_
    rintro e w2 ⟨rfl, b2⟩
    have B2 := Lib.hid (below_of B1.out b2)
    have Q1 := Lib.hid (blk_below' b2 P1.out); have Q2 := Lib.hid (blk_below' b2 P2.out); have Q3 := Lib.hid (blk_below' b2 P3.out)
    have G2 := Lib.hid (blk_below' b2 HG.out); have H2 := Lib.hid (blk_below' b2 HH.out); have ZX2 := Lib.hid (ZX.out.below b2); have ZY2 := Lib.hid (ZY.out.below b2)
    have LY := Lib.hid (longZ_any _ y w2 ZY2.out)
    have lw : w.heap.size + 1 + 1 + 1 + 1 < W.heap.size := hsz
    clear b2 x0 x1 P1 P2 P3 HG HH ZX ZY LX
    obtain ⟨y0, y1, _, _, _⟩ := blk2 H2.out
    rw [decide_eq_false (show ¬ Big ≤ y.natAbs by have := HY.out; omega)] at LY
    go_wp2_with fail
    refine LY.out.mono ?_
    rintro e w3 ⟨rfl, b3⟩
    have B3 := Lib.hid (below_of B2.out b3)
    have R1 := Lib.hid (blk_below' b3 Q1.out); have R2 := Lib.hid (blk_below' b3 Q2.out); have R3 := Lib.hid (blk_below' b3 Q3.out)
    have G3 := Lib.hid (blk_below' b3 G2.out); have H3 := Lib.hid (blk_below' b3 H2.out)
    have QX : Hid (QNum w3 (.slice d1 l1' e1) x.natAbs) := Lib.hid (by obtain ⟨_, ys, s, l, t, e, _⟩ := (ZX2.out.below b3).parts; exact ⟨ys, s, l, t, e⟩)
    have QY : Hid (QNum w3 (.slice d2 l2' e2) y.natAbs) := Lib.hid (by obtain ⟨_, ys, s, l, t, e, _⟩ := (ZY2.out.below b3).parts; exact ⟨ys, s, l, t, e⟩)
    have SX : Hid (m1 = sgn x) := Lib.hid ZX2.out.parts.1; have SY : Hid (m2 = sgn y) := Lib.hid ZY2.out.parts.1
    clear b3 Q1 Q2 Q3 y0 y1 G2 H2 ZX2 ZY2 LY
    obtain ⟨x0, x1, _, _, _⟩ := blk2 G3.out
    go_wp2_with fail
    refine (qmake false _ x.natAbs w3 QX.out).mono ?_
    rintro e w4 ⟨v4, rfl, z4, b4⟩
    obtain ⟨d4, l4, e4, rfl, z4'⟩ := zv_false z4
    have Z4 := Lib.hid z4'
    have B4 := Lib.hid (below_of B3.out b4); have B34 := Lib.hid b4
    clear z4 z4' b4 x0 x1
    go_wp2_with fail
    refine (small1_any 1 w4 (by omega) (by omega)).mono ?_
    rintro e w5 ⟨v5, rfl, z5, b5⟩
    obtain ⟨m5, d5, l5, e5, rfl⟩ := z5.shape
    have HH5 := Lib.hid (blk_below' b5 (blk_below' B34.out H3.out))
    obtain ⟨y0, y1, _, _, ly⟩ := blk2 HH5.out
    have ly1 : h < w5.heap.size + 1 := by omega
    have ly2 : h < w5.heap.size + 1 + 1 := by omega
    go_wp2_with fail
    obtain ⟨V, eV, hp0, hp1, hp2, belV, hszV⟩ := alloc3 w5 (Obj.cells #[Value.bool false, Value.slice d4 l4 e4] 58) (Obj.cells #[Value.bool m5, Value.slice d5 l5 e5] 58) (Obj.cells #[Value.bool false, Value.slice none 0 0] 58)
    rw [eV]
    have BV := Lib.hid (below_of (below_of B4.out b5) belV); have B3V := Lib.hid (below_of (below_of B34.out b5) belV)
    have ZP0 := Lib.hid ((Z4.out.below b5).below belV); have ZP1 := Lib.hid (z5.below belV)
    have HP0 := Lib.hid hp0; have HP1 := Lib.hid hp1; have HP2 : Hid (V.heap[w5.heap.size + 1 + 1]? = _) := Lib.hid hp2
    have hlt5 : w5.heap.size + 1 + 1 < V.heap.size := hszV
    have lgw3 : w3.heap.size ≤ w5.heap.size := Nat.le_trans B34.out.size b5.size
    clear z5 b5 hp0 hp1 hp2 belV hszV Z4 B34 eV y0 y1 ly1 ly2 HH5
    refine (qmake false _ y.natAbs V (QY.out.below B3V.out)).mono ?_
    rintro e w6 ⟨v6, rfl, z6, b6⟩
    obtain ⟨d6, l6, e6, rfl, z6'⟩ := zv_false z6
    have Z6 := Lib.hid z6'; have BV6 := Lib.hid b6
    clear z6 z6' b6
    go_wp2_with fail
    refine (small1_any 1 w6 (by omega) (by omega)).mono ?_
    rintro e w7 ⟨v7, rfl, z7, b7⟩
    obtain ⟨m7, d7, l7, e7, rfl⟩ := z7.shape
    go_wp2_with fail
    obtain ⟨U, eU, hq0, hq1, hq2, belU, hszU⟩ := alloc3 w7 (Obj.cells #[Value.bool false, Value.slice d6 l6 e6] 58) (Obj.cells #[Value.bool false, Value.slice none 0 0] 58) (Obj.cells #[Value.bool m7, Value.slice d7 l7 e7] 58)
    rw [eU]
    have BVU := Lib.hid (below_of (below_of BV6.out b7) belU)
    have BU := Lib.hid (below_of BV.out BVU.out)
    have hlt57 : w5.heap.size + 1 + 1 < w7.heap.size := Nat.lt_of_lt_of_le hlt5 (Nat.le_trans BV6.out.size b7.size)
    have ST : Hid (RlO U U x.natAbs y.natAbs w5.heap.size w7.heap.size) := Lib.hid ⟨eStart x.natAbs y.natAbs, false, m5, false, false, false, m7, d4, d5, none, d6, none, d7, l4, e4, l5, e5, 0, 0, l6, e6, 0, 0, l7, e7, blk_below' BVU.out HP0.out, blk_below' BVU.out HP1.out, blk_below' BVU.out HP2.out, hq0, hq1, hq2, ZP0.out.below BVU.out, ZP1.out.below BVU.out, (by rw [(r_startz x.natAbs y.natAbs).2.1]; exact zv_nil _), (Z6.out.below b7).below belU, (by rw [(r_startz x.natAbs y.natAbs).2.2.1]; exact zv_nil _), (z7.below belU), ⟨HX.out, HY.out, eInv_start _ _⟩, rfl, Below.refl _ _⟩
    have B3U := Lib.hid (below_of B3V.out BVU.out)
    have GU := Lib.hid (blk_below' B3U.out G3.out); have HU := Lib.hid (blk_below' B3U.out H3.out); have P1 := Lib.hid (blk_below' B3U.out R1.out); have P2 := Lib.hid (blk_below' B3U.out R2.out); have P3 := Lib.hid (blk_below' B3U.out R3.out)
    have lg : g < w3.heap.size := (Array.getElem?_eq_some_iff.1 G3.out).1
    have lh : h < w3.heap.size := (Array.getElem?_eq_some_iff.1 H3.out).1
    have lr : w.heap.size + 1 + 1 + 1 + 1 < w3.heap.size := (Array.getElem?_eq_some_iff.1 R3.out).1
    have hMX : Hid (max x.natAbs 1 < Big ∧ max y.natAbs 1 < Big) := Lib.hid ⟨Nat.max_lt.2 ⟨HX.out, one_lt_big⟩, Nat.max_lt.2 ⟨HY.out, one_lt_big⟩⟩
    clear hq0 hq1 hq2 z7 b7 belU hszU BVU BV6 Z6 HP0 HP1 HP2 ZP0 ZP1 BV B3V B4 B3 B2 B1 G3 H3 R1 R2 R3 QX QY
    clear eU
    go_loopw [] (fun wr => RlO U wr x.natAbs y.natAbs w5.heap.size w7.heap.size) (fun wr => bIn wr w7.heap.size)
    case atStart => exact ST.out
    case round =>
      obtain ⟨s, sn0, sn1, sn2, sn3, sn4, sn5, sa0, sa1, sa2, sa3, sa4, sa5, sk0, sc0, sk1, sc1, sk2, sc2, sk3, sc3, sk4, sc4, sk5, sc5, h0, h1, h2, h3, h4, h5, z0, z1, z2, z3, z4, z5, hok, he, hbl⟩ := hrel
      have HM := Lib.hid (bIn_eq h3 z3); have HL := Lib.hid z3.len0
      have M0 := Lib.hid h0; have Z0 := Lib.hid z0
      have M1 := Lib.hid h1; have Z1 := Lib.hid z1
      have M2 := Lib.hid h2; have Z2 := Lib.hid z2
      have M3 := Lib.hid h3; have Z3 := Lib.hid z3
      have M4 := Lib.hid h4; have Z4 := Lib.hid z4
      have M5 := Lib.hid h5; have Z5 := Lib.hid z5
      have OK := Lib.hid hok; have HE := Lib.hid he; have BL := Lib.hid hbl
      have hszP : w5.heap.size + 1 + 1 < wr.heap.size := (Array.getElem?_eq_some_iff.1 h2).1; have hszQ : w7.heap.size + 1 + 1 < wr.heap.size := (Array.getElem?_eq_some_iff.1 h5).1
      obtain ⟨y0, y1, _, _, _⟩ := blk2 h3
      clear h0 z0 h1 z1 h2 z2 h3 z3 h4 z4 h5 z5 hok he hbl
      by_cases hq : s.q = 0
      · have hd : ¬ 0 < sk3 := by have := HL.out; omega
        have E0 := Lib.hid ((eEnd_zero hq).symm.trans HE.out)
        have EGs : Hid ((s.p : Int) = xG x y) := Lib.hid (by unfold xG; rw [← E0.out])
        have EX : Hid (xX x y = if x < 0 then -(r1 s) else r1 s) := Lib.hid (by unfold xX; rw [← E0.out]; rfl)
        have EY : Hid (xY x y = if y < 0 then -(r2 s) else r2 s) := Lib.hid (by unfold xY; rw [← E0.out]; rfl)
        have GA_0 := Lib.hid ((BL.out.block g (by omega)).trans GU.out); have GB_0 := Lib.hid ((BL.out.block h (by omega)).trans HU.out)
        have GR_0 := Lib.hid ((BL.out.block (w.heap.size + 1 + 1) (by omega)).trans P1.out); have GS_0 := Lib.hid ((BL.out.block (w.heap.size + 1 + 1 + 1) (by omega)).trans P2.out); have GT_0 := Lib.hid ((BL.out.block (w.heap.size + 1 + 1 + 1 + 1) (by omega)).trans P3.out)
        have GK_0 := M0; have GL_0 := M1; have GM_0 := M2
        have ZA_0 := Z0; have ZB_0 := Z1; have ZC_0 := Z2
        have BR : Hid (Below w.heap.size w wr) := Lib.hid (BU.out.trans (BL.out.mono (by omega)))
        have NAL : Hid (g ≠ w5.heap.size + 1) := Lib.hid (by omega)
        have NBL : Hid (h ≠ w5.heap.size + 1) := Lib.hid (by omega)
        have NRL : Hid (w.heap.size + 1 + 1 ≠ w5.heap.size + 1) := Lib.hid (by omega)
        have NSL : Hid (w.heap.size + 1 + 1 + 1 ≠ w5.heap.size + 1) := Lib.hid (by omega)
        have NTL : Hid (w.heap.size + 1 + 1 + 1 + 1 ≠ w5.heap.size + 1) := Lib.hid (by omega)
        have NKL : Hid (w5.heap.size ≠ w5.heap.size + 1) := Lib.hid (by omega)
        have NML : Hid (w5.heap.size + 1 + 1 ≠ w5.heap.size + 1) := Lib.hid (by omega)
        have NAM : Hid (g ≠ w5.heap.size + 1 + 1) := Lib.hid (by omega)
        have NBM : Hid (h ≠ w5.heap.size + 1 + 1) := Lib.hid (by omega)
        have NRM : Hid (w.heap.size + 1 + 1 ≠ w5.heap.size + 1 + 1) := Lib.hid (by omega)
        have NSM : Hid (w.heap.size + 1 + 1 + 1 ≠ w5.heap.size + 1 + 1) := Lib.hid (by omega)
        have NTM : Hid (w.heap.size + 1 + 1 + 1 + 1 ≠ w5.heap.size + 1 + 1) := Lib.hid (by omega)
        have NKM : Hid (w5.heap.size ≠ w5.heap.size + 1 + 1) := Lib.hid (by omega)
        have NLM : Hid (w5.heap.size + 1 ≠ w5.heap.size + 1 + 1) := Lib.hid (by omega)
        have LL : Hid (w.heap.size ≤ w5.heap.size + 1) := Lib.hid (by omega); have LM : Hid (w.heap.size ≤ w5.heap.size + 1 + 1) := Lib.hid (by omega)
        have nRK : w5.heap.size ≠ w.heap.size + 1 + 1 := by omega
        have nRL : w5.heap.size + 1 ≠ w.heap.size + 1 + 1 := by omega
        have nRM : w5.heap.size + 1 + 1 ≠ w.heap.size + 1 + 1 := by omega
        have nSK : w5.heap.size ≠ w.heap.size + 1 + 1 + 1 := by omega
        have nSL : w5.heap.size + 1 ≠ w.heap.size + 1 + 1 + 1 := by omega
        have nSM : w5.heap.size + 1 + 1 ≠ w.heap.size + 1 + 1 + 1 := by omega
        have nTK : w5.heap.size ≠ w.heap.size + 1 + 1 + 1 + 1 := by omega
        have nTL : w5.heap.size + 1 ≠ w.heap.size + 1 + 1 + 1 + 1 := by omega
        have nTM : w5.heap.size + 1 + 1 ≠ w.heap.size + 1 + 1 + 1 + 1 := by omega
        clear hq HL HM HE M0 M1 M2 M3 M4 M5 Z0 Z1 Z2 Z3 Z4 Z5 BL GU HU P1 P2 P3 OK hMX BU ST
        by_cases hx0 : x < 0
        · obtain rfl : m1 = true := by rw [SX.out]; exact sgn_neg hx0
          have HNx := Lib.hid hx0; clear hx0
          by_cases hy0 : y < 0
          · obtain rfl : m2 = true := by rw [SY.out]; exact sgn_neg hy0
            have HNy := Lib.hid hy0; clear hy0
            obtain ⟨cA0, cA1, dA0, dA1, eA⟩ := blk2 GA_0.out
            obtain ⟨cL0, cL1, dL0, dL1, eL⟩ := blk2 GL_0.out
            go_wp2_with fail
            refine (minus_any2 _ (r1 s) _ ZB_0.out).mono ?_
            rintro e w_1 ⟨vx, rfl, ix, hb⟩
            clear cA0 cA1 dA0 dA1 eA cL0 cL1 dL0 dL1 eL
            obtain ⟨mx, dx, lx, ex, rfl⟩ := ix.shape
            have GA_1 := Lib.hid (blk_below' hb GA_0.out)
            have GB_1 := Lib.hid (blk_below' hb GB_0.out)
            have GR_1 := Lib.hid (blk_below' hb GR_0.out)
            have GS_1 := Lib.hid (blk_below' hb GS_0.out)
            have GT_1 := Lib.hid (blk_below' hb GT_0.out)
            have GK_1 := Lib.hid (blk_below' hb GK_0.out)
            have GL_1 := Lib.hid (blk_below' hb GL_0.out)
            have GM_1 := Lib.hid (blk_below' hb GM_0.out)
            have ZA_1 := Lib.hid (ZA_0.out.below hb)
            have ZB_1 := Lib.hid (ZB_0.out.below hb)
            have ZC_1 := Lib.hid (ZC_0.out.below hb)
            have B_1 := Lib.hid (below_of BR.out hb)
            clear GA_0 GB_0 GR_0 GS_0 GT_0 GK_0 GL_0 GM_0 ZA_0 ZB_0 ZC_0 BR
            have WL_1 := Lib.hid ix
            clear hb ix
            obtain ⟨y0, y1, z0, z1, ye⟩ := blk2 GL_1.out
            obtain ⟨V_2, eV⟩ : ∃ V, (w_1.setCell ⟨w5.heap.size + 1, 0, none⟩ (.bool mx)).setCell ⟨w5.heap.size + 1, 1, none⟩ (.slice dx lx ex) = V := ⟨_, rfl⟩
            have GA_2 : Hid (V_2.heap[g]? = some (Obj.cells #[Value.bool true, Value.slice d1 l1' e1] 58)) := Lib.hid (by rw [← eV]; exact blk_two GA_1.out NAL.out)
            have GB_2 : Hid (V_2.heap[h]? = some (Obj.cells #[Value.bool true, Value.slice d2 l2' e2] 58)) := Lib.hid (by rw [← eV]; exact blk_two GB_1.out NBL.out)
            have GR_2 : Hid (V_2.heap[w.heap.size + 1 + 1]? = some (Obj.cells #[Value.bool false, Value.slice none 0 0] 25)) := Lib.hid (by rw [← eV]; exact blk_two GR_1.out NRL.out)
            have GS_2 : Hid (V_2.heap[w.heap.size + 1 + 1 + 1]? = some (Obj.cells #[Value.bool false, Value.slice none 0 0] 25)) := Lib.hid (by rw [← eV]; exact blk_two GS_1.out NSL.out)
            have GT_2 : Hid (V_2.heap[w.heap.size + 1 + 1 + 1 + 1]? = some (Obj.cells #[Value.bool false, Value.slice none 0 0] 25)) := Lib.hid (by rw [← eV]; exact blk_two GT_1.out NTL.out)
            have GK_2 : Hid (V_2.heap[w5.heap.size]? = some (Obj.cells #[Value.bool sn0, Value.slice sa0 sk0 sc0] 58)) := Lib.hid (by rw [← eV]; exact blk_two GK_1.out NKL.out)
            have GL_2 : Hid (V_2.heap[w5.heap.size + 1]? = some (Obj.cells #[Value.bool mx, Value.slice dx lx ex] 58)) := Lib.hid (by rw [← eV]; exact blk_own2 GL_1.out)
            have GM_2 : Hid (V_2.heap[w5.heap.size + 1 + 1]? = some (Obj.cells #[Value.bool sn2, Value.slice sa2 sk2 sc2] 58)) := Lib.hid (by rw [← eV]; exact blk_two GM_1.out NML.out)
            have ZA_2 := Lib.hid (eV ▸ (ZA_1.out.far (y0 := .bool mx) (y1 := .slice dx lx ex) GL_1.out))
            have ZB_2 := Lib.hid (eV ▸ (ZB_1.out.far (y0 := .bool mx) (y1 := .slice dx lx ex) GL_1.out))
            have ZC_2 := Lib.hid (eV ▸ (ZC_1.out.far (y0 := .bool mx) (y1 := .slice dx lx ex) GL_1.out))
            have WL_2 := Lib.hid (eV ▸ (WL_1.out.far (y0 := .bool mx) (y1 := .slice dx lx ex) GL_1.out))
            have B_2 : Hid (Below w.heap.size w V_2) := Lib.hid (by rw [← eV]; exact set_below (set_below B_1.out LL.out) LL.out)
            clear GA_1 GB_1 GR_1 GS_1 GT_1 GK_1 GL_1 GM_1 ZA_1 ZB_1 ZC_1 WL_1 B_1
            obtain ⟨cB0, cB1, dB0, dB1, eB⟩ := blk2 GB_2.out
            obtain ⟨cM0, cM1, dM0, dM1, eM⟩ := blk2 GM_2.out
            go_wp2_with fail
            clear eV y0 y1 z0 z1 ye
            refine (minus_any2 _ (r2 s) _ ZC_2.out).mono ?_
            rintro e w_3 ⟨vy, rfl, iy, hb⟩
            clear cB0 cB1 dB0 dB1 eB cM0 cM1 dM0 dM1 eM
            obtain ⟨my, dy, ly, ey, rfl⟩ := iy.shape
            have GA_3 := Lib.hid (blk_below' hb GA_2.out)
            have GB_3 := Lib.hid (blk_below' hb GB_2.out)
            have GR_3 := Lib.hid (blk_below' hb GR_2.out)
            have GS_3 := Lib.hid (blk_below' hb GS_2.out)
            have GT_3 := Lib.hid (blk_below' hb GT_2.out)
            have GK_3 := Lib.hid (blk_below' hb GK_2.out)
            have GL_3 := Lib.hid (blk_below' hb GL_2.out)
            have GM_3 := Lib.hid (blk_below' hb GM_2.out)
            have ZA_3 := Lib.hid (ZA_2.out.below hb)
            have ZB_3 := Lib.hid (ZB_2.out.below hb)
            have ZC_3 := Lib.hid (ZC_2.out.below hb)
            have WL_3 := Lib.hid (WL_2.out.below hb)
            have B_3 := Lib.hid (below_of B_2.out hb)
            clear GA_2 GB_2 GR_2 GS_2 GT_2 GK_2 GL_2 GM_2 ZA_2 ZB_2 ZC_2 WL_2 B_2
            have WM_3 := Lib.hid iy
            clear hb iy
            obtain ⟨y0, y1, z0, z1, ye⟩ := blk2 GM_3.out
            obtain ⟨V_4, eV⟩ : ∃ V, (w_3.setCell ⟨w5.heap.size + 1 + 1, 0, none⟩ (.bool my)).setCell ⟨w5.heap.size + 1 + 1, 1, none⟩ (.slice dy ly ey) = V := ⟨_, rfl⟩
            have GA_4 : Hid (V_4.heap[g]? = some (Obj.cells #[Value.bool true, Value.slice d1 l1' e1] 58)) := Lib.hid (by rw [← eV]; exact blk_two GA_3.out NAM.out)
            have GB_4 : Hid (V_4.heap[h]? = some (Obj.cells #[Value.bool true, Value.slice d2 l2' e2] 58)) := Lib.hid (by rw [← eV]; exact blk_two GB_3.out NBM.out)
            have GR_4 : Hid (V_4.heap[w.heap.size + 1 + 1]? = some (Obj.cells #[Value.bool false, Value.slice none 0 0] 25)) := Lib.hid (by rw [← eV]; exact blk_two GR_3.out NRM.out)
            have GS_4 : Hid (V_4.heap[w.heap.size + 1 + 1 + 1]? = some (Obj.cells #[Value.bool false, Value.slice none 0 0] 25)) := Lib.hid (by rw [← eV]; exact blk_two GS_3.out NSM.out)
            have GT_4 : Hid (V_4.heap[w.heap.size + 1 + 1 + 1 + 1]? = some (Obj.cells #[Value.bool false, Value.slice none 0 0] 25)) := Lib.hid (by rw [← eV]; exact blk_two GT_3.out NTM.out)
            have GK_4 : Hid (V_4.heap[w5.heap.size]? = some (Obj.cells #[Value.bool sn0, Value.slice sa0 sk0 sc0] 58)) := Lib.hid (by rw [← eV]; exact blk_two GK_3.out NKM.out)
            have GL_4 : Hid (V_4.heap[w5.heap.size + 1]? = some (Obj.cells #[Value.bool mx, Value.slice dx lx ex] 58)) := Lib.hid (by rw [← eV]; exact blk_two GL_3.out NLM.out)
            have GM_4 : Hid (V_4.heap[w5.heap.size + 1 + 1]? = some (Obj.cells #[Value.bool my, Value.slice dy ly ey] 58)) := Lib.hid (by rw [← eV]; exact blk_own2 GM_3.out)
            have ZA_4 := Lib.hid (eV ▸ (ZA_3.out.far (y0 := .bool my) (y1 := .slice dy ly ey) GM_3.out))
            have ZB_4 := Lib.hid (eV ▸ (ZB_3.out.far (y0 := .bool my) (y1 := .slice dy ly ey) GM_3.out))
            have ZC_4 := Lib.hid (eV ▸ (ZC_3.out.far (y0 := .bool my) (y1 := .slice dy ly ey) GM_3.out))
            have WL_4 := Lib.hid (eV ▸ (WL_3.out.far (y0 := .bool my) (y1 := .slice dy ly ey) GM_3.out))
            have WM_4 := Lib.hid (eV ▸ (WM_3.out.far (y0 := .bool my) (y1 := .slice dy ly ey) GM_3.out))
            have B_4 : Hid (Below w.heap.size w V_4) := Lib.hid (by rw [← eV]; exact set_below (set_below B_3.out LM.out) LM.out)
            clear GA_3 GB_3 GR_3 GS_3 GT_3 GK_3 GL_3 GM_3 ZA_3 ZB_3 ZC_3 WL_3 WM_3 B_3
            obtain ⟨PP, hP⟩ : ∃ PP : World → Prop, PP = fun w' => (w'.heap[w5.heap.size]? = some (Obj.cells #[Value.bool sn0, Value.slice sa0 sk0 sc0] 58) ∧ w'.heap[w5.heap.size + 1]? = some (Obj.cells #[Value.bool mx, Value.slice dx lx ex] 58) ∧ w'.heap[w5.heap.size + 1 + 1]? = some (Obj.cells #[Value.bool my, Value.slice dy ly ey] 58)) ∧ (IsB w' (w.heap.size + 1 + 1) 25 ∧ IsB w' (w.heap.size + 1 + 1 + 1) 25 ∧ IsB w' (w.heap.size + 1 + 1 + 1 + 1) 25) ∧ (ZV w' (.agg #[.bool sn0, .slice sa0 sk0 sc0]) ((s.p : Int)) ∧ ZV w' (.agg #[.bool mx, .slice dx lx ex]) (-(r1 s)) ∧ ZV w' (.agg #[.bool my, .slice dy ly ey]) (-(r2 s))) ∧ Below w.heap.size w w' := ⟨_, rfl⟩
            have hP0 : PP V_4 := by rw [hP]; exact ⟨⟨GK_4.out, GL_4.out, GM_4.out⟩, ⟨⟨_, _, _, _, GR_4.out⟩, ⟨_, _, _, _, GS_4.out⟩, ⟨_, _, _, _, GT_4.out⟩⟩, ⟨ZA_4.out, WL_4.out, WM_4.out⟩, B_4.out⟩
            have PD : Hid (∀ u, PP u → PP u.drew) := Lib.hid (by rw [hP]; exact fun u h => ⟨h.1, h.2.1, h.2.2.1, h.2.2.2.drew⟩)
            have PC : Hid (∀ u v, PP u → Below u.heap.size u v → PP v) := Lib.hid (by rw [hP]; exact fun u v h hb => ⟨⟨blk_below' hb h.1.1, blk_below' hb h.1.2.1, blk_below' hb h.1.2.2⟩, ⟨h.2.1.1.call hb, h.2.1.2.1.call hb, h.2.1.2.2.call hb⟩, ⟨h.2.2.1.1.below hb, h.2.2.1.2.1.below hb, h.2.2.1.2.2.below hb⟩, below_of h.2.2.2 hb⟩)
            have PS0 : Hid (∀ (u : World) (x : Bool) (ao : Option Addr) (n c : Nat), PP u → PP ((u.setCell ⟨w.heap.size + 1 + 1, 0, none⟩ (.bool x)).setCell ⟨w.heap.size + 1 + 1, 1, none⟩ (.slice ao n c))) := Lib.hid (by rw [hP]; exact fun u x ao n c ⟨⟨h0, h1, h2⟩, ⟨b0, b1, b2⟩, ⟨k0, k1, k2⟩, hb⟩ => ⟨⟨blk_two h0 nRK, blk_two h1 nRL, blk_two h2 nRM⟩, ⟨b0.set _ _ _ _, b1.far (by omega), b2.far (by omega)⟩, ⟨zv_two k0 b0, zv_two k1 b0, zv_two k2 b0⟩, (hb.setCell (p := ⟨w.heap.size + 1 + 1, 0, none⟩) (by simp; try omega) _).setCell (p := ⟨w.heap.size + 1 + 1, 1, none⟩) (by simp; try omega) _⟩)
            have PS1 : Hid (∀ (u : World) (x : Bool) (ao : Option Addr) (n c : Nat), PP u → PP ((u.setCell ⟨w.heap.size + 1 + 1 + 1, 0, none⟩ (.bool x)).setCell ⟨w.heap.size + 1 + 1 + 1, 1, none⟩ (.slice ao n c))) := Lib.hid (by rw [hP]; exact fun u x ao n c ⟨⟨h0, h1, h2⟩, ⟨b0, b1, b2⟩, ⟨k0, k1, k2⟩, hb⟩ => ⟨⟨blk_two h0 nSK, blk_two h1 nSL, blk_two h2 nSM⟩, ⟨b0.far (by omega), b1.set _ _ _ _, b2.far (by omega)⟩, ⟨zv_two k0 b1, zv_two k1 b1, zv_two k2 b1⟩, (hb.setCell (p := ⟨w.heap.size + 1 + 1 + 1, 0, none⟩) (by simp; try omega) _).setCell (p := ⟨w.heap.size + 1 + 1 + 1, 1, none⟩) (by simp; try omega) _⟩)
            have PS2 : Hid (∀ (u : World) (x : Bool) (ao : Option Addr) (n c : Nat), PP u → PP ((u.setCell ⟨w.heap.size + 1 + 1 + 1 + 1, 0, none⟩ (.bool x)).setCell ⟨w.heap.size + 1 + 1 + 1 + 1, 1, none⟩ (.slice ao n c))) := Lib.hid (by rw [hP]; exact fun u x ao n c ⟨⟨h0, h1, h2⟩, ⟨b0, b1, b2⟩, ⟨k0, k1, k2⟩, hb⟩ => ⟨⟨blk_two h0 nTK, blk_two h1 nTL, blk_two h2 nTM⟩, ⟨b0.far (by omega), b1.far (by omega), b2.set _ _ _ _⟩, ⟨zv_two k0 b2, zv_two k1 b2, zv_two k2 b2⟩, (hb.setCell (p := ⟨w.heap.size + 1 + 1 + 1 + 1, 0, none⟩) (by simp; try omega) _).setCell (p := ⟨w.heap.size + 1 + 1 + 1 + 1, 1, none⟩) (by simp; try omega) _⟩)
            have STAY : Hid (∀ w', PP w' → w'.cell? ⟨w5.heap.size, 0, none⟩ = some (.bool sn0) ∧ w'.cell? ⟨w5.heap.size, 1, none⟩ = some (.slice sa0 sk0 sc0) ∧ w'.cell? ⟨w5.heap.size + 1, 0, none⟩ = some (.bool mx) ∧ w'.cell? ⟨w5.heap.size + 1, 1, none⟩ = some (.slice dx lx ex) ∧ w'.cell? ⟨w5.heap.size + 1 + 1, 0, none⟩ = some (.bool my) ∧ w'.cell? ⟨w5.heap.size + 1 + 1, 1, none⟩ = some (.slice dy ly ey) ∧ PP w') := Lib.hid (by rw [hP]; exact fun w' h => ⟨(blk2 h.1.1).1, (blk2 h.1.1).2.1, (blk2 h.1.2.1).1, (blk2 h.1.2.1).2.1, (blk2 h.1.2.2).1, (blk2 h.1.2.2).2.1, by exact h⟩)
            have T0 : Hid (∀ u, PP u → Calls Tryz.prog 33 #[.agg #[.bool sn0, .slice sa0 sk0 sc0]] u fun e w' => ∃ v', e = .returned v' ∧ IntK w' v' ((s.p : Int)) ∧ Below u.heap.size u w') := Lib.hid (by rw [hP]; exact fun u h => to_any2 _ _ u h.2.2.1.1)
            have T1 : Hid (∀ u, PP u → Calls Tryz.prog 33 #[.agg #[.bool mx, .slice dx lx ex]] u fun e w' => ∃ v', e = .returned v' ∧ IntK w' v' (-(r1 s)) ∧ Below u.heap.size u w') := Lib.hid (by rw [hP]; exact fun u h => to_any2 _ _ u h.2.2.1.2.1)
            have T2 : Hid (∀ u, PP u → Calls Tryz.prog 33 #[.agg #[.bool my, .slice dy ly ey]] u fun e w' => ∃ v', e = .returned v' ∧ IntK w' v' (-(r2 s)) ∧ Below u.heap.size u w') := Lib.hid (by rw [hP]; exact fun u h => to_any2 _ _ u h.2.2.1.2.2)
            have PR : Hid (∀ u, PP u → (IsB u (w.heap.size + 1 + 1) 25 ∧ IsB u (w.heap.size + 1 + 1 + 1) 25 ∧ IsB u (w.heap.size + 1 + 1 + 1 + 1) 25 ∧ Below w.heap.size w u)) := Lib.hid (by rw [hP]; exact fun u h => ⟨h.2.1.1, h.2.1.2.1, h.2.1.2.2, h.2.2.2⟩)
            clear hP
            go_wp2_with fail
            clear eV y0 y1 z0 z1 ye
            go_region_held3 (fun w' => w'.cell? ⟨w5.heap.size, 0, none⟩ = some (.bool sn0) ∧ w'.cell? ⟨w5.heap.size, 1, none⟩ = some (.slice sa0 sk0 sc0) ∧ w'.cell? ⟨w5.heap.size + 1, 0, none⟩ = some (.bool mx) ∧ w'.cell? ⟨w5.heap.size + 1, 1, none⟩ = some (.slice dx lx ex) ∧ w'.cell? ⟨w5.heap.size + 1 + 1, 0, none⟩ = some (.bool my) ∧ w'.cell? ⟨w5.heap.size + 1 + 1, 1, none⟩ = some (.slice dy ly ey) ∧ PP w')
              ((try go_split_ands; refine STAY.out _ ?_; repeat (first | (with_reducible assumption) | (with_reducible refine PD.out _ ?_) | (with_reducible refine PS0.out _ _ _ _ _ ?_) | (with_reducible refine PS1.out _ _ _ _ _ ?_) | (with_reducible refine PS2.out _ _ _ _ _ ?_))))
              (first
              | (go_at_call 33; go_split_ands; first
                | (have hg := jj2; (with_reducible refine Calls.mono (T2.out _ (by with_reducible assumption)) ?_); rintro e wC ⟨vC, rfl, jj3, bC⟩; obtain ⟨nC, aC, kC, cC, rfl⟩ := jj3.shape; have hpC := PC.out _ _ (by with_reducible assumption) bC; have jj1c := jj1b.below bC; have jj2c := jj2.below bC; obtain ⟨q1, q2, q3, BWC⟩ := PR.out _ hpC; have HQ1 := Lib.hid q1; have HQ2 := Lib.hid q2; have HQ3 := Lib.hid q3; have HBC := Lib.hid BWC; obtain ⟨_, _, _, _, r1'⟩ := q1; obtain ⟨_, _, _, _, r2'⟩ := q2; obtain ⟨_, _, _, _, r3'⟩ := q3; obtain ⟨u0, u1, f0, f1, _⟩ := blk2 r1'; obtain ⟨u2, u3, f2, f3, _⟩ := blk2 r2'; obtain ⟨u4, u5, f4, f5, _⟩ := blk2 r3'; clear r1' r2' r3' BWC)
                | (have hg := jj1; (with_reducible refine Calls.mono (T1.out _ (by with_reducible assumption)) ?_); rintro e wB ⟨vB, rfl, jj2, bB⟩; obtain ⟨nB, aB, kB, cB, rfl⟩ := jj2.shape; have hpB := PC.out _ _ (by with_reducible assumption) bB; have jj1b := jj1.below bB)
                | ((with_reducible refine Calls.mono (T0.out _ (by with_reducible assumption)) ?_); rintro e wA ⟨vA, rfl, jj1, bA⟩; obtain ⟨nA, aA, kA, cA, rfl⟩ := jj1.shape; have hpA := PC.out _ _ (by with_reducible assumption) bA)))
            have o2 : w.heap.size ≤ w.heap.size + 1 + 1 := by omega
            have o3 : w.heap.size ≤ w.heap.size + 1 + 1 + 1 := by omega
            have o4 : w.heap.size ≤ w.heap.size + 1 + 1 + 1 + 1 := by omega
            have F1 := Lib.hid (IsB.intk (y0 := .bool nC) (y1 := .slice aC kC cC) ((HQ3.out.far (by omega)).far (by omega)) (IsB.intk (y0 := .bool nB) (y1 := .slice aB kB cB) (HQ2.out.far (by omega)) (IsB.intk (y0 := .bool nA) (y1 := .slice aA kA cA) HQ1.out jj1c))); have F2 := Lib.hid (IsB.intk (y0 := .bool nC) (y1 := .slice aC kC cC) ((HQ3.out.far (by omega)).far (by omega)) (IsB.intk (y0 := .bool nB) (y1 := .slice aB kB cB) (HQ2.out.far (by omega)) (IsB.intk (y0 := .bool nA) (y1 := .slice aA kA cA) HQ1.out jj2c))); have F3 := Lib.hid (IsB.intk (y0 := .bool nC) (y1 := .slice aC kC cC) ((HQ3.out.far (by omega)).far (by omega)) (IsB.intk (y0 := .bool nB) (y1 := .slice aB kB cB) (HQ2.out.far (by omega)) (IsB.intk (y0 := .bool nA) (y1 := .slice aA kA cA) HQ1.out jj3)))
            go_wp2
            refine bodyPost_ret (v := .tuple #[.agg #[.bool nA, .slice aA kA cA], .agg #[.bool nB, .slice aB kB cB], .agg #[.bool nC, .slice aC kC cC], .int .i64 0]) ?_ rfl ⟨_, _, _, rfl, by rw [← EGs.out]; exact F1.out, by rw [EX.out, if_pos HNx.out]; exact F2.out, by rw [EY.out, if_pos HNy.out]; exact F3.out, set_below (set_below (set_below (set_below (set_below (set_below HBC.out o2) o2) o3) o3) o4) o4⟩
            simp [results, Tryz.results7, go_sem, *]
          · obtain rfl : m2 = false := by rw [SY.out]; exact sgn_pos (by omega)
            have HNy := Lib.hid hy0; clear hy0
            obtain ⟨cA0, cA1, dA0, dA1, eA⟩ := blk2 GA_0.out
            obtain ⟨cL0, cL1, dL0, dL1, eL⟩ := blk2 GL_0.out
            go_wp2_with fail
            refine (minus_any2 _ (r1 s) _ ZB_0.out).mono ?_
            rintro e w_1 ⟨vx, rfl, ix, hb⟩
            clear cA0 cA1 dA0 dA1 eA cL0 cL1 dL0 dL1 eL
            obtain ⟨mx, dx, lx, ex, rfl⟩ := ix.shape
            have GA_1 := Lib.hid (blk_below' hb GA_0.out)
            have GB_1 := Lib.hid (blk_below' hb GB_0.out)
            have GR_1 := Lib.hid (blk_below' hb GR_0.out)
            have GS_1 := Lib.hid (blk_below' hb GS_0.out)
            have GT_1 := Lib.hid (blk_below' hb GT_0.out)
            have GK_1 := Lib.hid (blk_below' hb GK_0.out)
            have GL_1 := Lib.hid (blk_below' hb GL_0.out)
            have GM_1 := Lib.hid (blk_below' hb GM_0.out)
            have ZA_1 := Lib.hid (ZA_0.out.below hb)
            have ZB_1 := Lib.hid (ZB_0.out.below hb)
            have ZC_1 := Lib.hid (ZC_0.out.below hb)
            have B_1 := Lib.hid (below_of BR.out hb)
            clear GA_0 GB_0 GR_0 GS_0 GT_0 GK_0 GL_0 GM_0 ZA_0 ZB_0 ZC_0 BR
            have WL_1 := Lib.hid ix
            clear hb ix
            obtain ⟨y0, y1, z0, z1, ye⟩ := blk2 GL_1.out
            obtain ⟨V_2, eV⟩ : ∃ V, (w_1.setCell ⟨w5.heap.size + 1, 0, none⟩ (.bool mx)).setCell ⟨w5.heap.size + 1, 1, none⟩ (.slice dx lx ex) = V := ⟨_, rfl⟩
            have GA_2 : Hid (V_2.heap[g]? = some (Obj.cells #[Value.bool true, Value.slice d1 l1' e1] 58)) := Lib.hid (by rw [← eV]; exact blk_two GA_1.out NAL.out)
            have GB_2 : Hid (V_2.heap[h]? = some (Obj.cells #[Value.bool false, Value.slice d2 l2' e2] 58)) := Lib.hid (by rw [← eV]; exact blk_two GB_1.out NBL.out)
            have GR_2 : Hid (V_2.heap[w.heap.size + 1 + 1]? = some (Obj.cells #[Value.bool false, Value.slice none 0 0] 25)) := Lib.hid (by rw [← eV]; exact blk_two GR_1.out NRL.out)
            have GS_2 : Hid (V_2.heap[w.heap.size + 1 + 1 + 1]? = some (Obj.cells #[Value.bool false, Value.slice none 0 0] 25)) := Lib.hid (by rw [← eV]; exact blk_two GS_1.out NSL.out)
            have GT_2 : Hid (V_2.heap[w.heap.size + 1 + 1 + 1 + 1]? = some (Obj.cells #[Value.bool false, Value.slice none 0 0] 25)) := Lib.hid (by rw [← eV]; exact blk_two GT_1.out NTL.out)
            have GK_2 : Hid (V_2.heap[w5.heap.size]? = some (Obj.cells #[Value.bool sn0, Value.slice sa0 sk0 sc0] 58)) := Lib.hid (by rw [← eV]; exact blk_two GK_1.out NKL.out)
            have GL_2 : Hid (V_2.heap[w5.heap.size + 1]? = some (Obj.cells #[Value.bool mx, Value.slice dx lx ex] 58)) := Lib.hid (by rw [← eV]; exact blk_own2 GL_1.out)
            have GM_2 : Hid (V_2.heap[w5.heap.size + 1 + 1]? = some (Obj.cells #[Value.bool sn2, Value.slice sa2 sk2 sc2] 58)) := Lib.hid (by rw [← eV]; exact blk_two GM_1.out NML.out)
            have ZA_2 := Lib.hid (eV ▸ (ZA_1.out.far (y0 := .bool mx) (y1 := .slice dx lx ex) GL_1.out))
            have ZB_2 := Lib.hid (eV ▸ (ZB_1.out.far (y0 := .bool mx) (y1 := .slice dx lx ex) GL_1.out))
            have ZC_2 := Lib.hid (eV ▸ (ZC_1.out.far (y0 := .bool mx) (y1 := .slice dx lx ex) GL_1.out))
            have WL_2 := Lib.hid (eV ▸ (WL_1.out.far (y0 := .bool mx) (y1 := .slice dx lx ex) GL_1.out))
            have B_2 : Hid (Below w.heap.size w V_2) := Lib.hid (by rw [← eV]; exact set_below (set_below B_1.out LL.out) LL.out)
            clear GA_1 GB_1 GR_1 GS_1 GT_1 GK_1 GL_1 GM_1 ZA_1 ZB_1 ZC_1 WL_1 B_1
            obtain ⟨cB0, cB1, dB0, dB1, eB⟩ := blk2 GB_2.out
            obtain ⟨PP, hP⟩ : ∃ PP : World → Prop, PP = fun w' => (w'.heap[w5.heap.size]? = some (Obj.cells #[Value.bool sn0, Value.slice sa0 sk0 sc0] 58) ∧ w'.heap[w5.heap.size + 1]? = some (Obj.cells #[Value.bool mx, Value.slice dx lx ex] 58) ∧ w'.heap[w5.heap.size + 1 + 1]? = some (Obj.cells #[Value.bool sn2, Value.slice sa2 sk2 sc2] 58)) ∧ (IsB w' (w.heap.size + 1 + 1) 25 ∧ IsB w' (w.heap.size + 1 + 1 + 1) 25 ∧ IsB w' (w.heap.size + 1 + 1 + 1 + 1) 25) ∧ (ZV w' (.agg #[.bool sn0, .slice sa0 sk0 sc0]) ((s.p : Int)) ∧ ZV w' (.agg #[.bool mx, .slice dx lx ex]) (-(r1 s)) ∧ ZV w' (.agg #[.bool sn2, .slice sa2 sk2 sc2]) (r2 s)) ∧ Below w.heap.size w w' := ⟨_, rfl⟩
            have hP0 : PP V_2 := by rw [hP]; exact ⟨⟨GK_2.out, GL_2.out, GM_2.out⟩, ⟨⟨_, _, _, _, GR_2.out⟩, ⟨_, _, _, _, GS_2.out⟩, ⟨_, _, _, _, GT_2.out⟩⟩, ⟨ZA_2.out, WL_2.out, ZC_2.out⟩, B_2.out⟩
            have PD : Hid (∀ u, PP u → PP u.drew) := Lib.hid (by rw [hP]; exact fun u h => ⟨h.1, h.2.1, h.2.2.1, h.2.2.2.drew⟩)
            have PC : Hid (∀ u v, PP u → Below u.heap.size u v → PP v) := Lib.hid (by rw [hP]; exact fun u v h hb => ⟨⟨blk_below' hb h.1.1, blk_below' hb h.1.2.1, blk_below' hb h.1.2.2⟩, ⟨h.2.1.1.call hb, h.2.1.2.1.call hb, h.2.1.2.2.call hb⟩, ⟨h.2.2.1.1.below hb, h.2.2.1.2.1.below hb, h.2.2.1.2.2.below hb⟩, below_of h.2.2.2 hb⟩)
            have PS0 : Hid (∀ (u : World) (x : Bool) (ao : Option Addr) (n c : Nat), PP u → PP ((u.setCell ⟨w.heap.size + 1 + 1, 0, none⟩ (.bool x)).setCell ⟨w.heap.size + 1 + 1, 1, none⟩ (.slice ao n c))) := Lib.hid (by rw [hP]; exact fun u x ao n c ⟨⟨h0, h1, h2⟩, ⟨b0, b1, b2⟩, ⟨k0, k1, k2⟩, hb⟩ => ⟨⟨blk_two h0 nRK, blk_two h1 nRL, blk_two h2 nRM⟩, ⟨b0.set _ _ _ _, b1.far (by omega), b2.far (by omega)⟩, ⟨zv_two k0 b0, zv_two k1 b0, zv_two k2 b0⟩, (hb.setCell (p := ⟨w.heap.size + 1 + 1, 0, none⟩) (by simp; try omega) _).setCell (p := ⟨w.heap.size + 1 + 1, 1, none⟩) (by simp; try omega) _⟩)
            have PS1 : Hid (∀ (u : World) (x : Bool) (ao : Option Addr) (n c : Nat), PP u → PP ((u.setCell ⟨w.heap.size + 1 + 1 + 1, 0, none⟩ (.bool x)).setCell ⟨w.heap.size + 1 + 1 + 1, 1, none⟩ (.slice ao n c))) := Lib.hid (by rw [hP]; exact fun u x ao n c ⟨⟨h0, h1, h2⟩, ⟨b0, b1, b2⟩, ⟨k0, k1, k2⟩, hb⟩ => ⟨⟨blk_two h0 nSK, blk_two h1 nSL, blk_two h2 nSM⟩, ⟨b0.far (by omega), b1.set _ _ _ _, b2.far (by omega)⟩, ⟨zv_two k0 b1, zv_two k1 b1, zv_two k2 b1⟩, (hb.setCell (p := ⟨w.heap.size + 1 + 1 + 1, 0, none⟩) (by simp; try omega) _).setCell (p := ⟨w.heap.size + 1 + 1 + 1, 1, none⟩) (by simp; try omega) _⟩)
            have PS2 : Hid (∀ (u : World) (x : Bool) (ao : Option Addr) (n c : Nat), PP u → PP ((u.setCell ⟨w.heap.size + 1 + 1 + 1 + 1, 0, none⟩ (.bool x)).setCell ⟨w.heap.size + 1 + 1 + 1 + 1, 1, none⟩ (.slice ao n c))) := Lib.hid (by rw [hP]; exact fun u x ao n c ⟨⟨h0, h1, h2⟩, ⟨b0, b1, b2⟩, ⟨k0, k1, k2⟩, hb⟩ => ⟨⟨blk_two h0 nTK, blk_two h1 nTL, blk_two h2 nTM⟩, ⟨b0.far (by omega), b1.far (by omega), b2.set _ _ _ _⟩, ⟨zv_two k0 b2, zv_two k1 b2, zv_two k2 b2⟩, (hb.setCell (p := ⟨w.heap.size + 1 + 1 + 1 + 1, 0, none⟩) (by simp; try omega) _).setCell (p := ⟨w.heap.size + 1 + 1 + 1 + 1, 1, none⟩) (by simp; try omega) _⟩)
            have STAY : Hid (∀ w', PP w' → w'.cell? ⟨w5.heap.size, 0, none⟩ = some (.bool sn0) ∧ w'.cell? ⟨w5.heap.size, 1, none⟩ = some (.slice sa0 sk0 sc0) ∧ w'.cell? ⟨w5.heap.size + 1, 0, none⟩ = some (.bool mx) ∧ w'.cell? ⟨w5.heap.size + 1, 1, none⟩ = some (.slice dx lx ex) ∧ w'.cell? ⟨w5.heap.size + 1 + 1, 0, none⟩ = some (.bool sn2) ∧ w'.cell? ⟨w5.heap.size + 1 + 1, 1, none⟩ = some (.slice sa2 sk2 sc2) ∧ PP w') := Lib.hid (by rw [hP]; exact fun w' h => ⟨(blk2 h.1.1).1, (blk2 h.1.1).2.1, (blk2 h.1.2.1).1, (blk2 h.1.2.1).2.1, (blk2 h.1.2.2).1, (blk2 h.1.2.2).2.1, by exact h⟩)
            have T0 : Hid (∀ u, PP u → Calls Tryz.prog 33 #[.agg #[.bool sn0, .slice sa0 sk0 sc0]] u fun e w' => ∃ v', e = .returned v' ∧ IntK w' v' ((s.p : Int)) ∧ Below u.heap.size u w') := Lib.hid (by rw [hP]; exact fun u h => to_any2 _ _ u h.2.2.1.1)
            have T1 : Hid (∀ u, PP u → Calls Tryz.prog 33 #[.agg #[.bool mx, .slice dx lx ex]] u fun e w' => ∃ v', e = .returned v' ∧ IntK w' v' (-(r1 s)) ∧ Below u.heap.size u w') := Lib.hid (by rw [hP]; exact fun u h => to_any2 _ _ u h.2.2.1.2.1)
            have T2 : Hid (∀ u, PP u → Calls Tryz.prog 33 #[.agg #[.bool sn2, .slice sa2 sk2 sc2]] u fun e w' => ∃ v', e = .returned v' ∧ IntK w' v' (r2 s) ∧ Below u.heap.size u w') := Lib.hid (by rw [hP]; exact fun u h => to_any2 _ _ u h.2.2.1.2.2)
            have PR : Hid (∀ u, PP u → (IsB u (w.heap.size + 1 + 1) 25 ∧ IsB u (w.heap.size + 1 + 1 + 1) 25 ∧ IsB u (w.heap.size + 1 + 1 + 1 + 1) 25 ∧ Below w.heap.size w u)) := Lib.hid (by rw [hP]; exact fun u h => ⟨h.2.1.1, h.2.1.2.1, h.2.1.2.2, h.2.2.2⟩)
            clear hP
            go_wp2_with fail
            clear eV y0 y1 z0 z1 ye
            clear cB0 cB1 dB0 dB1 eB
            go_region_held3 (fun w' => w'.cell? ⟨w5.heap.size, 0, none⟩ = some (.bool sn0) ∧ w'.cell? ⟨w5.heap.size, 1, none⟩ = some (.slice sa0 sk0 sc0) ∧ w'.cell? ⟨w5.heap.size + 1, 0, none⟩ = some (.bool mx) ∧ w'.cell? ⟨w5.heap.size + 1, 1, none⟩ = some (.slice dx lx ex) ∧ w'.cell? ⟨w5.heap.size + 1 + 1, 0, none⟩ = some (.bool sn2) ∧ w'.cell? ⟨w5.heap.size + 1 + 1, 1, none⟩ = some (.slice sa2 sk2 sc2) ∧ PP w')
              ((try go_split_ands; refine STAY.out _ ?_; repeat (first | (with_reducible assumption) | (with_reducible refine PD.out _ ?_) | (with_reducible refine PS0.out _ _ _ _ _ ?_) | (with_reducible refine PS1.out _ _ _ _ _ ?_) | (with_reducible refine PS2.out _ _ _ _ _ ?_))))
              (first
              | (go_at_call 33; go_split_ands; first
                | (have hg := jj2; (with_reducible refine Calls.mono (T2.out _ (by with_reducible assumption)) ?_); rintro e wC ⟨vC, rfl, jj3, bC⟩; obtain ⟨nC, aC, kC, cC, rfl⟩ := jj3.shape; have hpC := PC.out _ _ (by with_reducible assumption) bC; have jj1c := jj1b.below bC; have jj2c := jj2.below bC; obtain ⟨q1, q2, q3, BWC⟩ := PR.out _ hpC; have HQ1 := Lib.hid q1; have HQ2 := Lib.hid q2; have HQ3 := Lib.hid q3; have HBC := Lib.hid BWC; obtain ⟨_, _, _, _, r1'⟩ := q1; obtain ⟨_, _, _, _, r2'⟩ := q2; obtain ⟨_, _, _, _, r3'⟩ := q3; obtain ⟨u0, u1, f0, f1, _⟩ := blk2 r1'; obtain ⟨u2, u3, f2, f3, _⟩ := blk2 r2'; obtain ⟨u4, u5, f4, f5, _⟩ := blk2 r3'; clear r1' r2' r3' BWC)
                | (have hg := jj1; (with_reducible refine Calls.mono (T1.out _ (by with_reducible assumption)) ?_); rintro e wB ⟨vB, rfl, jj2, bB⟩; obtain ⟨nB, aB, kB, cB, rfl⟩ := jj2.shape; have hpB := PC.out _ _ (by with_reducible assumption) bB; have jj1b := jj1.below bB)
                | ((with_reducible refine Calls.mono (T0.out _ (by with_reducible assumption)) ?_); rintro e wA ⟨vA, rfl, jj1, bA⟩; obtain ⟨nA, aA, kA, cA, rfl⟩ := jj1.shape; have hpA := PC.out _ _ (by with_reducible assumption) bA)))
            have o2 : w.heap.size ≤ w.heap.size + 1 + 1 := by omega
            have o3 : w.heap.size ≤ w.heap.size + 1 + 1 + 1 := by omega
            have o4 : w.heap.size ≤ w.heap.size + 1 + 1 + 1 + 1 := by omega
            have F1 := Lib.hid (IsB.intk (y0 := .bool nC) (y1 := .slice aC kC cC) ((HQ3.out.far (by omega)).far (by omega)) (IsB.intk (y0 := .bool nB) (y1 := .slice aB kB cB) (HQ2.out.far (by omega)) (IsB.intk (y0 := .bool nA) (y1 := .slice aA kA cA) HQ1.out jj1c))); have F2 := Lib.hid (IsB.intk (y0 := .bool nC) (y1 := .slice aC kC cC) ((HQ3.out.far (by omega)).far (by omega)) (IsB.intk (y0 := .bool nB) (y1 := .slice aB kB cB) (HQ2.out.far (by omega)) (IsB.intk (y0 := .bool nA) (y1 := .slice aA kA cA) HQ1.out jj2c))); have F3 := Lib.hid (IsB.intk (y0 := .bool nC) (y1 := .slice aC kC cC) ((HQ3.out.far (by omega)).far (by omega)) (IsB.intk (y0 := .bool nB) (y1 := .slice aB kB cB) (HQ2.out.far (by omega)) (IsB.intk (y0 := .bool nA) (y1 := .slice aA kA cA) HQ1.out jj3)))
            go_wp2
            refine bodyPost_ret (v := .tuple #[.agg #[.bool nA, .slice aA kA cA], .agg #[.bool nB, .slice aB kB cB], .agg #[.bool nC, .slice aC kC cC], .int .i64 0]) ?_ rfl ⟨_, _, _, rfl, by rw [← EGs.out]; exact F1.out, by rw [EX.out, if_pos HNx.out]; exact F2.out, by rw [EY.out, if_neg (show ¬ (y < 0) by have := HNy.out; omega)]; exact F3.out, set_below (set_below (set_below (set_below (set_below (set_below HBC.out o2) o2) o3) o3) o4) o4⟩
            simp [results, Tryz.results7, go_sem, *]
        · obtain rfl : m1 = false := by rw [SX.out]; exact sgn_pos (by omega)
          have HNx := Lib.hid hx0; clear hx0
          by_cases hy0 : y < 0
          · obtain rfl : m2 = true := by rw [SY.out]; exact sgn_neg hy0
            have HNy := Lib.hid hy0; clear hy0
            obtain ⟨cA0, cA1, dA0, dA1, eA⟩ := blk2 GA_0.out
            obtain ⟨cB0, cB1, dB0, dB1, eB⟩ := blk2 GB_0.out
            obtain ⟨cM0, cM1, dM0, dM1, eM⟩ := blk2 GM_0.out
            go_wp2_with fail
            refine (minus_any2 _ (r2 s) _ ZC_0.out).mono ?_
            rintro e w_1 ⟨vy, rfl, iy, hb⟩
            clear cA0 cA1 dA0 dA1 eA cB0 cB1 dB0 dB1 eB cM0 cM1 dM0 dM1 eM
            obtain ⟨my, dy, ly, ey, rfl⟩ := iy.shape
            have GA_1 := Lib.hid (blk_below' hb GA_0.out)
            have GB_1 := Lib.hid (blk_below' hb GB_0.out)
            have GR_1 := Lib.hid (blk_below' hb GR_0.out)
            have GS_1 := Lib.hid (blk_below' hb GS_0.out)
            have GT_1 := Lib.hid (blk_below' hb GT_0.out)
            have GK_1 := Lib.hid (blk_below' hb GK_0.out)
            have GL_1 := Lib.hid (blk_below' hb GL_0.out)
            have GM_1 := Lib.hid (blk_below' hb GM_0.out)
            have ZA_1 := Lib.hid (ZA_0.out.below hb)
            have ZB_1 := Lib.hid (ZB_0.out.below hb)
            have ZC_1 := Lib.hid (ZC_0.out.below hb)
            have B_1 := Lib.hid (below_of BR.out hb)
            clear GA_0 GB_0 GR_0 GS_0 GT_0 GK_0 GL_0 GM_0 ZA_0 ZB_0 ZC_0 BR
            have WM_1 := Lib.hid iy
            clear hb iy
            obtain ⟨y0, y1, z0, z1, ye⟩ := blk2 GM_1.out
            obtain ⟨V_2, eV⟩ : ∃ V, (w_1.setCell ⟨w5.heap.size + 1 + 1, 0, none⟩ (.bool my)).setCell ⟨w5.heap.size + 1 + 1, 1, none⟩ (.slice dy ly ey) = V := ⟨_, rfl⟩
            have GA_2 : Hid (V_2.heap[g]? = some (Obj.cells #[Value.bool false, Value.slice d1 l1' e1] 58)) := Lib.hid (by rw [← eV]; exact blk_two GA_1.out NAM.out)
            have GB_2 : Hid (V_2.heap[h]? = some (Obj.cells #[Value.bool true, Value.slice d2 l2' e2] 58)) := Lib.hid (by rw [← eV]; exact blk_two GB_1.out NBM.out)
            have GR_2 : Hid (V_2.heap[w.heap.size + 1 + 1]? = some (Obj.cells #[Value.bool false, Value.slice none 0 0] 25)) := Lib.hid (by rw [← eV]; exact blk_two GR_1.out NRM.out)
            have GS_2 : Hid (V_2.heap[w.heap.size + 1 + 1 + 1]? = some (Obj.cells #[Value.bool false, Value.slice none 0 0] 25)) := Lib.hid (by rw [← eV]; exact blk_two GS_1.out NSM.out)
            have GT_2 : Hid (V_2.heap[w.heap.size + 1 + 1 + 1 + 1]? = some (Obj.cells #[Value.bool false, Value.slice none 0 0] 25)) := Lib.hid (by rw [← eV]; exact blk_two GT_1.out NTM.out)
            have GK_2 : Hid (V_2.heap[w5.heap.size]? = some (Obj.cells #[Value.bool sn0, Value.slice sa0 sk0 sc0] 58)) := Lib.hid (by rw [← eV]; exact blk_two GK_1.out NKM.out)
            have GL_2 : Hid (V_2.heap[w5.heap.size + 1]? = some (Obj.cells #[Value.bool sn1, Value.slice sa1 sk1 sc1] 58)) := Lib.hid (by rw [← eV]; exact blk_two GL_1.out NLM.out)
            have GM_2 : Hid (V_2.heap[w5.heap.size + 1 + 1]? = some (Obj.cells #[Value.bool my, Value.slice dy ly ey] 58)) := Lib.hid (by rw [← eV]; exact blk_own2 GM_1.out)
            have ZA_2 := Lib.hid (eV ▸ (ZA_1.out.far (y0 := .bool my) (y1 := .slice dy ly ey) GM_1.out))
            have ZB_2 := Lib.hid (eV ▸ (ZB_1.out.far (y0 := .bool my) (y1 := .slice dy ly ey) GM_1.out))
            have ZC_2 := Lib.hid (eV ▸ (ZC_1.out.far (y0 := .bool my) (y1 := .slice dy ly ey) GM_1.out))
            have WM_2 := Lib.hid (eV ▸ (WM_1.out.far (y0 := .bool my) (y1 := .slice dy ly ey) GM_1.out))
            have B_2 : Hid (Below w.heap.size w V_2) := Lib.hid (by rw [← eV]; exact set_below (set_below B_1.out LM.out) LM.out)
            clear GA_1 GB_1 GR_1 GS_1 GT_1 GK_1 GL_1 GM_1 ZA_1 ZB_1 ZC_1 WM_1 B_1
            obtain ⟨PP, hP⟩ : ∃ PP : World → Prop, PP = fun w' => (w'.heap[w5.heap.size]? = some (Obj.cells #[Value.bool sn0, Value.slice sa0 sk0 sc0] 58) ∧ w'.heap[w5.heap.size + 1]? = some (Obj.cells #[Value.bool sn1, Value.slice sa1 sk1 sc1] 58) ∧ w'.heap[w5.heap.size + 1 + 1]? = some (Obj.cells #[Value.bool my, Value.slice dy ly ey] 58)) ∧ (IsB w' (w.heap.size + 1 + 1) 25 ∧ IsB w' (w.heap.size + 1 + 1 + 1) 25 ∧ IsB w' (w.heap.size + 1 + 1 + 1 + 1) 25) ∧ (ZV w' (.agg #[.bool sn0, .slice sa0 sk0 sc0]) ((s.p : Int)) ∧ ZV w' (.agg #[.bool sn1, .slice sa1 sk1 sc1]) (r1 s) ∧ ZV w' (.agg #[.bool my, .slice dy ly ey]) (-(r2 s))) ∧ Below w.heap.size w w' := ⟨_, rfl⟩
            have hP0 : PP V_2 := by rw [hP]; exact ⟨⟨GK_2.out, GL_2.out, GM_2.out⟩, ⟨⟨_, _, _, _, GR_2.out⟩, ⟨_, _, _, _, GS_2.out⟩, ⟨_, _, _, _, GT_2.out⟩⟩, ⟨ZA_2.out, ZB_2.out, WM_2.out⟩, B_2.out⟩
            have PD : Hid (∀ u, PP u → PP u.drew) := Lib.hid (by rw [hP]; exact fun u h => ⟨h.1, h.2.1, h.2.2.1, h.2.2.2.drew⟩)
            have PC : Hid (∀ u v, PP u → Below u.heap.size u v → PP v) := Lib.hid (by rw [hP]; exact fun u v h hb => ⟨⟨blk_below' hb h.1.1, blk_below' hb h.1.2.1, blk_below' hb h.1.2.2⟩, ⟨h.2.1.1.call hb, h.2.1.2.1.call hb, h.2.1.2.2.call hb⟩, ⟨h.2.2.1.1.below hb, h.2.2.1.2.1.below hb, h.2.2.1.2.2.below hb⟩, below_of h.2.2.2 hb⟩)
            have PS0 : Hid (∀ (u : World) (x : Bool) (ao : Option Addr) (n c : Nat), PP u → PP ((u.setCell ⟨w.heap.size + 1 + 1, 0, none⟩ (.bool x)).setCell ⟨w.heap.size + 1 + 1, 1, none⟩ (.slice ao n c))) := Lib.hid (by rw [hP]; exact fun u x ao n c ⟨⟨h0, h1, h2⟩, ⟨b0, b1, b2⟩, ⟨k0, k1, k2⟩, hb⟩ => ⟨⟨blk_two h0 nRK, blk_two h1 nRL, blk_two h2 nRM⟩, ⟨b0.set _ _ _ _, b1.far (by omega), b2.far (by omega)⟩, ⟨zv_two k0 b0, zv_two k1 b0, zv_two k2 b0⟩, (hb.setCell (p := ⟨w.heap.size + 1 + 1, 0, none⟩) (by simp; try omega) _).setCell (p := ⟨w.heap.size + 1 + 1, 1, none⟩) (by simp; try omega) _⟩)
            have PS1 : Hid (∀ (u : World) (x : Bool) (ao : Option Addr) (n c : Nat), PP u → PP ((u.setCell ⟨w.heap.size + 1 + 1 + 1, 0, none⟩ (.bool x)).setCell ⟨w.heap.size + 1 + 1 + 1, 1, none⟩ (.slice ao n c))) := Lib.hid (by rw [hP]; exact fun u x ao n c ⟨⟨h0, h1, h2⟩, ⟨b0, b1, b2⟩, ⟨k0, k1, k2⟩, hb⟩ => ⟨⟨blk_two h0 nSK, blk_two h1 nSL, blk_two h2 nSM⟩, ⟨b0.far (by omega), b1.set _ _ _ _, b2.far (by omega)⟩, ⟨zv_two k0 b1, zv_two k1 b1, zv_two k2 b1⟩, (hb.setCell (p := ⟨w.heap.size + 1 + 1 + 1, 0, none⟩) (by simp; try omega) _).setCell (p := ⟨w.heap.size + 1 + 1 + 1, 1, none⟩) (by simp; try omega) _⟩)
            have PS2 : Hid (∀ (u : World) (x : Bool) (ao : Option Addr) (n c : Nat), PP u → PP ((u.setCell ⟨w.heap.size + 1 + 1 + 1 + 1, 0, none⟩ (.bool x)).setCell ⟨w.heap.size + 1 + 1 + 1 + 1, 1, none⟩ (.slice ao n c))) := Lib.hid (by rw [hP]; exact fun u x ao n c ⟨⟨h0, h1, h2⟩, ⟨b0, b1, b2⟩, ⟨k0, k1, k2⟩, hb⟩ => ⟨⟨blk_two h0 nTK, blk_two h1 nTL, blk_two h2 nTM⟩, ⟨b0.far (by omega), b1.far (by omega), b2.set _ _ _ _⟩, ⟨zv_two k0 b2, zv_two k1 b2, zv_two k2 b2⟩, (hb.setCell (p := ⟨w.heap.size + 1 + 1 + 1 + 1, 0, none⟩) (by simp; try omega) _).setCell (p := ⟨w.heap.size + 1 + 1 + 1 + 1, 1, none⟩) (by simp; try omega) _⟩)
            have STAY : Hid (∀ w', PP w' → w'.cell? ⟨w5.heap.size, 0, none⟩ = some (.bool sn0) ∧ w'.cell? ⟨w5.heap.size, 1, none⟩ = some (.slice sa0 sk0 sc0) ∧ w'.cell? ⟨w5.heap.size + 1, 0, none⟩ = some (.bool sn1) ∧ w'.cell? ⟨w5.heap.size + 1, 1, none⟩ = some (.slice sa1 sk1 sc1) ∧ w'.cell? ⟨w5.heap.size + 1 + 1, 0, none⟩ = some (.bool my) ∧ w'.cell? ⟨w5.heap.size + 1 + 1, 1, none⟩ = some (.slice dy ly ey) ∧ PP w') := Lib.hid (by rw [hP]; exact fun w' h => ⟨(blk2 h.1.1).1, (blk2 h.1.1).2.1, (blk2 h.1.2.1).1, (blk2 h.1.2.1).2.1, (blk2 h.1.2.2).1, (blk2 h.1.2.2).2.1, by exact h⟩)
            have T0 : Hid (∀ u, PP u → Calls Tryz.prog 33 #[.agg #[.bool sn0, .slice sa0 sk0 sc0]] u fun e w' => ∃ v', e = .returned v' ∧ IntK w' v' ((s.p : Int)) ∧ Below u.heap.size u w') := Lib.hid (by rw [hP]; exact fun u h => to_any2 _ _ u h.2.2.1.1)
            have T1 : Hid (∀ u, PP u → Calls Tryz.prog 33 #[.agg #[.bool sn1, .slice sa1 sk1 sc1]] u fun e w' => ∃ v', e = .returned v' ∧ IntK w' v' (r1 s) ∧ Below u.heap.size u w') := Lib.hid (by rw [hP]; exact fun u h => to_any2 _ _ u h.2.2.1.2.1)
            have T2 : Hid (∀ u, PP u → Calls Tryz.prog 33 #[.agg #[.bool my, .slice dy ly ey]] u fun e w' => ∃ v', e = .returned v' ∧ IntK w' v' (-(r2 s)) ∧ Below u.heap.size u w') := Lib.hid (by rw [hP]; exact fun u h => to_any2 _ _ u h.2.2.1.2.2)
            have PR : Hid (∀ u, PP u → (IsB u (w.heap.size + 1 + 1) 25 ∧ IsB u (w.heap.size + 1 + 1 + 1) 25 ∧ IsB u (w.heap.size + 1 + 1 + 1 + 1) 25 ∧ Below w.heap.size w u)) := Lib.hid (by rw [hP]; exact fun u h => ⟨h.2.1.1, h.2.1.2.1, h.2.1.2.2, h.2.2.2⟩)
            clear hP
            go_wp2_with fail
            clear eV y0 y1 z0 z1 ye
            go_region_held3 (fun w' => w'.cell? ⟨w5.heap.size, 0, none⟩ = some (.bool sn0) ∧ w'.cell? ⟨w5.heap.size, 1, none⟩ = some (.slice sa0 sk0 sc0) ∧ w'.cell? ⟨w5.heap.size + 1, 0, none⟩ = some (.bool sn1) ∧ w'.cell? ⟨w5.heap.size + 1, 1, none⟩ = some (.slice sa1 sk1 sc1) ∧ w'.cell? ⟨w5.heap.size + 1 + 1, 0, none⟩ = some (.bool my) ∧ w'.cell? ⟨w5.heap.size + 1 + 1, 1, none⟩ = some (.slice dy ly ey) ∧ PP w')
              ((try go_split_ands; refine STAY.out _ ?_; repeat (first | (with_reducible assumption) | (with_reducible refine PD.out _ ?_) | (with_reducible refine PS0.out _ _ _ _ _ ?_) | (with_reducible refine PS1.out _ _ _ _ _ ?_) | (with_reducible refine PS2.out _ _ _ _ _ ?_))))
              (first
              | (go_at_call 33; go_split_ands; first
                | (have hg := jj2; (with_reducible refine Calls.mono (T2.out _ (by with_reducible assumption)) ?_); rintro e wC ⟨vC, rfl, jj3, bC⟩; obtain ⟨nC, aC, kC, cC, rfl⟩ := jj3.shape; have hpC := PC.out _ _ (by with_reducible assumption) bC; have jj1c := jj1b.below bC; have jj2c := jj2.below bC; obtain ⟨q1, q2, q3, BWC⟩ := PR.out _ hpC; have HQ1 := Lib.hid q1; have HQ2 := Lib.hid q2; have HQ3 := Lib.hid q3; have HBC := Lib.hid BWC; obtain ⟨_, _, _, _, r1'⟩ := q1; obtain ⟨_, _, _, _, r2'⟩ := q2; obtain ⟨_, _, _, _, r3'⟩ := q3; obtain ⟨u0, u1, f0, f1, _⟩ := blk2 r1'; obtain ⟨u2, u3, f2, f3, _⟩ := blk2 r2'; obtain ⟨u4, u5, f4, f5, _⟩ := blk2 r3'; clear r1' r2' r3' BWC)
                | (have hg := jj1; (with_reducible refine Calls.mono (T1.out _ (by with_reducible assumption)) ?_); rintro e wB ⟨vB, rfl, jj2, bB⟩; obtain ⟨nB, aB, kB, cB, rfl⟩ := jj2.shape; have hpB := PC.out _ _ (by with_reducible assumption) bB; have jj1b := jj1.below bB)
                | ((with_reducible refine Calls.mono (T0.out _ (by with_reducible assumption)) ?_); rintro e wA ⟨vA, rfl, jj1, bA⟩; obtain ⟨nA, aA, kA, cA, rfl⟩ := jj1.shape; have hpA := PC.out _ _ (by with_reducible assumption) bA)))
            have o2 : w.heap.size ≤ w.heap.size + 1 + 1 := by omega
            have o3 : w.heap.size ≤ w.heap.size + 1 + 1 + 1 := by omega
            have o4 : w.heap.size ≤ w.heap.size + 1 + 1 + 1 + 1 := by omega
            have F1 := Lib.hid (IsB.intk (y0 := .bool nC) (y1 := .slice aC kC cC) ((HQ3.out.far (by omega)).far (by omega)) (IsB.intk (y0 := .bool nB) (y1 := .slice aB kB cB) (HQ2.out.far (by omega)) (IsB.intk (y0 := .bool nA) (y1 := .slice aA kA cA) HQ1.out jj1c))); have F2 := Lib.hid (IsB.intk (y0 := .bool nC) (y1 := .slice aC kC cC) ((HQ3.out.far (by omega)).far (by omega)) (IsB.intk (y0 := .bool nB) (y1 := .slice aB kB cB) (HQ2.out.far (by omega)) (IsB.intk (y0 := .bool nA) (y1 := .slice aA kA cA) HQ1.out jj2c))); have F3 := Lib.hid (IsB.intk (y0 := .bool nC) (y1 := .slice aC kC cC) ((HQ3.out.far (by omega)).far (by omega)) (IsB.intk (y0 := .bool nB) (y1 := .slice aB kB cB) (HQ2.out.far (by omega)) (IsB.intk (y0 := .bool nA) (y1 := .slice aA kA cA) HQ1.out jj3)))
            go_wp2
            refine bodyPost_ret (v := .tuple #[.agg #[.bool nA, .slice aA kA cA], .agg #[.bool nB, .slice aB kB cB], .agg #[.bool nC, .slice aC kC cC], .int .i64 0]) ?_ rfl ⟨_, _, _, rfl, by rw [← EGs.out]; exact F1.out, by rw [EX.out, if_neg (show ¬ (x < 0) by have := HNx.out; omega)]; exact F2.out, by rw [EY.out, if_pos HNy.out]; exact F3.out, set_below (set_below (set_below (set_below (set_below (set_below HBC.out o2) o2) o3) o3) o4) o4⟩
            simp [results, Tryz.results7, go_sem, *]
          · obtain rfl : m2 = false := by rw [SY.out]; exact sgn_pos (by omega)
            have HNy := Lib.hid hy0; clear hy0
            obtain ⟨cA0, cA1, dA0, dA1, eA⟩ := blk2 GA_0.out
            obtain ⟨cB0, cB1, dB0, dB1, eB⟩ := blk2 GB_0.out
            obtain ⟨PP, hP⟩ : ∃ PP : World → Prop, PP = fun w' => (w'.heap[w5.heap.size]? = some (Obj.cells #[Value.bool sn0, Value.slice sa0 sk0 sc0] 58) ∧ w'.heap[w5.heap.size + 1]? = some (Obj.cells #[Value.bool sn1, Value.slice sa1 sk1 sc1] 58) ∧ w'.heap[w5.heap.size + 1 + 1]? = some (Obj.cells #[Value.bool sn2, Value.slice sa2 sk2 sc2] 58)) ∧ (IsB w' (w.heap.size + 1 + 1) 25 ∧ IsB w' (w.heap.size + 1 + 1 + 1) 25 ∧ IsB w' (w.heap.size + 1 + 1 + 1 + 1) 25) ∧ (ZV w' (.agg #[.bool sn0, .slice sa0 sk0 sc0]) ((s.p : Int)) ∧ ZV w' (.agg #[.bool sn1, .slice sa1 sk1 sc1]) (r1 s) ∧ ZV w' (.agg #[.bool sn2, .slice sa2 sk2 sc2]) (r2 s)) ∧ Below w.heap.size w w' := ⟨_, rfl⟩
            have hP0 : PP wr := by rw [hP]; exact ⟨⟨GK_0.out, GL_0.out, GM_0.out⟩, ⟨⟨_, _, _, _, GR_0.out⟩, ⟨_, _, _, _, GS_0.out⟩, ⟨_, _, _, _, GT_0.out⟩⟩, ⟨ZA_0.out, ZB_0.out, ZC_0.out⟩, BR.out⟩
            have PD : Hid (∀ u, PP u → PP u.drew) := Lib.hid (by rw [hP]; exact fun u h => ⟨h.1, h.2.1, h.2.2.1, h.2.2.2.drew⟩)
            have PC : Hid (∀ u v, PP u → Below u.heap.size u v → PP v) := Lib.hid (by rw [hP]; exact fun u v h hb => ⟨⟨blk_below' hb h.1.1, blk_below' hb h.1.2.1, blk_below' hb h.1.2.2⟩, ⟨h.2.1.1.call hb, h.2.1.2.1.call hb, h.2.1.2.2.call hb⟩, ⟨h.2.2.1.1.below hb, h.2.2.1.2.1.below hb, h.2.2.1.2.2.below hb⟩, below_of h.2.2.2 hb⟩)
            have PS0 : Hid (∀ (u : World) (x : Bool) (ao : Option Addr) (n c : Nat), PP u → PP ((u.setCell ⟨w.heap.size + 1 + 1, 0, none⟩ (.bool x)).setCell ⟨w.heap.size + 1 + 1, 1, none⟩ (.slice ao n c))) := Lib.hid (by rw [hP]; exact fun u x ao n c ⟨⟨h0, h1, h2⟩, ⟨b0, b1, b2⟩, ⟨k0, k1, k2⟩, hb⟩ => ⟨⟨blk_two h0 nRK, blk_two h1 nRL, blk_two h2 nRM⟩, ⟨b0.set _ _ _ _, b1.far (by omega), b2.far (by omega)⟩, ⟨zv_two k0 b0, zv_two k1 b0, zv_two k2 b0⟩, (hb.setCell (p := ⟨w.heap.size + 1 + 1, 0, none⟩) (by simp; try omega) _).setCell (p := ⟨w.heap.size + 1 + 1, 1, none⟩) (by simp; try omega) _⟩)
            have PS1 : Hid (∀ (u : World) (x : Bool) (ao : Option Addr) (n c : Nat), PP u → PP ((u.setCell ⟨w.heap.size + 1 + 1 + 1, 0, none⟩ (.bool x)).setCell ⟨w.heap.size + 1 + 1 + 1, 1, none⟩ (.slice ao n c))) := Lib.hid (by rw [hP]; exact fun u x ao n c ⟨⟨h0, h1, h2⟩, ⟨b0, b1, b2⟩, ⟨k0, k1, k2⟩, hb⟩ => ⟨⟨blk_two h0 nSK, blk_two h1 nSL, blk_two h2 nSM⟩, ⟨b0.far (by omega), b1.set _ _ _ _, b2.far (by omega)⟩, ⟨zv_two k0 b1, zv_two k1 b1, zv_two k2 b1⟩, (hb.setCell (p := ⟨w.heap.size + 1 + 1 + 1, 0, none⟩) (by simp; try omega) _).setCell (p := ⟨w.heap.size + 1 + 1 + 1, 1, none⟩) (by simp; try omega) _⟩)
            have PS2 : Hid (∀ (u : World) (x : Bool) (ao : Option Addr) (n c : Nat), PP u → PP ((u.setCell ⟨w.heap.size + 1 + 1 + 1 + 1, 0, none⟩ (.bool x)).setCell ⟨w.heap.size + 1 + 1 + 1 + 1, 1, none⟩ (.slice ao n c))) := Lib.hid (by rw [hP]; exact fun u x ao n c ⟨⟨h0, h1, h2⟩, ⟨b0, b1, b2⟩, ⟨k0, k1, k2⟩, hb⟩ => ⟨⟨blk_two h0 nTK, blk_two h1 nTL, blk_two h2 nTM⟩, ⟨b0.far (by omega), b1.far (by omega), b2.set _ _ _ _⟩, ⟨zv_two k0 b2, zv_two k1 b2, zv_two k2 b2⟩, (hb.setCell (p := ⟨w.heap.size + 1 + 1 + 1 + 1, 0, none⟩) (by simp; try omega) _).setCell (p := ⟨w.heap.size + 1 + 1 + 1 + 1, 1, none⟩) (by simp; try omega) _⟩)
            have STAY : Hid (∀ w', PP w' → w'.cell? ⟨w5.heap.size, 0, none⟩ = some (.bool sn0) ∧ w'.cell? ⟨w5.heap.size, 1, none⟩ = some (.slice sa0 sk0 sc0) ∧ w'.cell? ⟨w5.heap.size + 1, 0, none⟩ = some (.bool sn1) ∧ w'.cell? ⟨w5.heap.size + 1, 1, none⟩ = some (.slice sa1 sk1 sc1) ∧ w'.cell? ⟨w5.heap.size + 1 + 1, 0, none⟩ = some (.bool sn2) ∧ w'.cell? ⟨w5.heap.size + 1 + 1, 1, none⟩ = some (.slice sa2 sk2 sc2) ∧ PP w') := Lib.hid (by rw [hP]; exact fun w' h => ⟨(blk2 h.1.1).1, (blk2 h.1.1).2.1, (blk2 h.1.2.1).1, (blk2 h.1.2.1).2.1, (blk2 h.1.2.2).1, (blk2 h.1.2.2).2.1, by exact h⟩)
            have T0 : Hid (∀ u, PP u → Calls Tryz.prog 33 #[.agg #[.bool sn0, .slice sa0 sk0 sc0]] u fun e w' => ∃ v', e = .returned v' ∧ IntK w' v' ((s.p : Int)) ∧ Below u.heap.size u w') := Lib.hid (by rw [hP]; exact fun u h => to_any2 _ _ u h.2.2.1.1)
            have T1 : Hid (∀ u, PP u → Calls Tryz.prog 33 #[.agg #[.bool sn1, .slice sa1 sk1 sc1]] u fun e w' => ∃ v', e = .returned v' ∧ IntK w' v' (r1 s) ∧ Below u.heap.size u w') := Lib.hid (by rw [hP]; exact fun u h => to_any2 _ _ u h.2.2.1.2.1)
            have T2 : Hid (∀ u, PP u → Calls Tryz.prog 33 #[.agg #[.bool sn2, .slice sa2 sk2 sc2]] u fun e w' => ∃ v', e = .returned v' ∧ IntK w' v' (r2 s) ∧ Below u.heap.size u w') := Lib.hid (by rw [hP]; exact fun u h => to_any2 _ _ u h.2.2.1.2.2)
            have PR : Hid (∀ u, PP u → (IsB u (w.heap.size + 1 + 1) 25 ∧ IsB u (w.heap.size + 1 + 1 + 1) 25 ∧ IsB u (w.heap.size + 1 + 1 + 1 + 1) 25 ∧ Below w.heap.size w u)) := Lib.hid (by rw [hP]; exact fun u h => ⟨h.2.1.1, h.2.1.2.1, h.2.1.2.2, h.2.2.2⟩)
            clear hP
            go_wp2_with fail
            clear cA0 cA1 dA0 dA1 eA
            clear cB0 cB1 dB0 dB1 eB
            go_region_held3 (fun w' => w'.cell? ⟨w5.heap.size, 0, none⟩ = some (.bool sn0) ∧ w'.cell? ⟨w5.heap.size, 1, none⟩ = some (.slice sa0 sk0 sc0) ∧ w'.cell? ⟨w5.heap.size + 1, 0, none⟩ = some (.bool sn1) ∧ w'.cell? ⟨w5.heap.size + 1, 1, none⟩ = some (.slice sa1 sk1 sc1) ∧ w'.cell? ⟨w5.heap.size + 1 + 1, 0, none⟩ = some (.bool sn2) ∧ w'.cell? ⟨w5.heap.size + 1 + 1, 1, none⟩ = some (.slice sa2 sk2 sc2) ∧ PP w')
              ((try go_split_ands; refine STAY.out _ ?_; repeat (first | (with_reducible assumption) | (with_reducible refine PD.out _ ?_) | (with_reducible refine PS0.out _ _ _ _ _ ?_) | (with_reducible refine PS1.out _ _ _ _ _ ?_) | (with_reducible refine PS2.out _ _ _ _ _ ?_))))
              (first
              | (go_at_call 33; go_split_ands; first
                | (have hg := jj2; (with_reducible refine Calls.mono (T2.out _ (by with_reducible assumption)) ?_); rintro e wC ⟨vC, rfl, jj3, bC⟩; obtain ⟨nC, aC, kC, cC, rfl⟩ := jj3.shape; have hpC := PC.out _ _ (by with_reducible assumption) bC; have jj1c := jj1b.below bC; have jj2c := jj2.below bC; obtain ⟨q1, q2, q3, BWC⟩ := PR.out _ hpC; have HQ1 := Lib.hid q1; have HQ2 := Lib.hid q2; have HQ3 := Lib.hid q3; have HBC := Lib.hid BWC; obtain ⟨_, _, _, _, r1'⟩ := q1; obtain ⟨_, _, _, _, r2'⟩ := q2; obtain ⟨_, _, _, _, r3'⟩ := q3; obtain ⟨u0, u1, f0, f1, _⟩ := blk2 r1'; obtain ⟨u2, u3, f2, f3, _⟩ := blk2 r2'; obtain ⟨u4, u5, f4, f5, _⟩ := blk2 r3'; clear r1' r2' r3' BWC)
                | (have hg := jj1; (with_reducible refine Calls.mono (T1.out _ (by with_reducible assumption)) ?_); rintro e wB ⟨vB, rfl, jj2, bB⟩; obtain ⟨nB, aB, kB, cB, rfl⟩ := jj2.shape; have hpB := PC.out _ _ (by with_reducible assumption) bB; have jj1b := jj1.below bB)
                | ((with_reducible refine Calls.mono (T0.out _ (by with_reducible assumption)) ?_); rintro e wA ⟨vA, rfl, jj1, bA⟩; obtain ⟨nA, aA, kA, cA, rfl⟩ := jj1.shape; have hpA := PC.out _ _ (by with_reducible assumption) bA)))
            have o2 : w.heap.size ≤ w.heap.size + 1 + 1 := by omega
            have o3 : w.heap.size ≤ w.heap.size + 1 + 1 + 1 := by omega
            have o4 : w.heap.size ≤ w.heap.size + 1 + 1 + 1 + 1 := by omega
            have F1 := Lib.hid (IsB.intk (y0 := .bool nC) (y1 := .slice aC kC cC) ((HQ3.out.far (by omega)).far (by omega)) (IsB.intk (y0 := .bool nB) (y1 := .slice aB kB cB) (HQ2.out.far (by omega)) (IsB.intk (y0 := .bool nA) (y1 := .slice aA kA cA) HQ1.out jj1c))); have F2 := Lib.hid (IsB.intk (y0 := .bool nC) (y1 := .slice aC kC cC) ((HQ3.out.far (by omega)).far (by omega)) (IsB.intk (y0 := .bool nB) (y1 := .slice aB kB cB) (HQ2.out.far (by omega)) (IsB.intk (y0 := .bool nA) (y1 := .slice aA kA cA) HQ1.out jj2c))); have F3 := Lib.hid (IsB.intk (y0 := .bool nC) (y1 := .slice aC kC cC) ((HQ3.out.far (by omega)).far (by omega)) (IsB.intk (y0 := .bool nB) (y1 := .slice aB kB cB) (HQ2.out.far (by omega)) (IsB.intk (y0 := .bool nA) (y1 := .slice aA kA cA) HQ1.out jj3)))
            go_wp2
            refine bodyPost_ret (v := .tuple #[.agg #[.bool nA, .slice aA kA cA], .agg #[.bool nB, .slice aB kB cB], .agg #[.bool nC, .slice aC kC cC], .int .i64 0]) ?_ rfl ⟨_, _, _, rfl, by rw [← EGs.out]; exact F1.out, by rw [EX.out, if_neg (show ¬ (x < 0) by have := HNx.out; omega)]; exact F2.out, by rw [EY.out, if_neg (show ¬ (y < 0) by have := HNy.out; omega)]; exact F3.out, set_below (set_below (set_below (set_below (set_below (set_below HBC.out o2) o2) o3) o3) o4) o4⟩
            simp [results, Tryz.results7, go_sem, *]
      · have hd : 0 < sk3 := by have := HL.out; omega
        have CU := Lib.hid (cut_any _ _ (s.p : Int) (s.q : Int) wr Z0.out Z3.out (big_hugez (by rw [Int.natAbs_natCast]; exact OK.out.q)) (by omega))
        have DM := Lib.hid (div_mix OK.out.i (show 0 < s.q by omega) hMX.out.1 hMX.out.2 OK.out.p OK.out.q)
        have OK' : Hid (OkS x.natAbs y.natAbs (eNext s) ∧ eEnd (eNext s) = eEnd (eStart x.natAbs y.natAbs) ∧ (eNext s).q < s.q) := Lib.hid (by
          obtain ⟨hi', he', hq', ep, _, _, _, x1, _, _⟩ := DM.out
          exact ⟨⟨by rw [ep]; exact OK.out.q, by have := x1.sn; rw [Int.natAbs_natCast] at this; exact this, hi'⟩, he'.trans HE.out, hq'⟩)
        have HQ0 := Lib.hid hq
        clear hq
        obtain ⟨x0, x1, _, _, _⟩ := blk2 M0.out
        go_wp2_with fail
        refine CU.out.mono ?_
        rintro e wa ⟨vq, vr, rfl, zq, zr, ba⟩
        have hqc : qC (s.p : Int) (s.q : Int) = ((s.p / s.q : Nat) : Int) := DM.out.2.2.2.2.2.2.1
        rw [hqc] at zq
        rw [rC_nat] at zr
        obtain ⟨nq, aq, kq, cq, rfl⟩ := zq.shape
        obtain ⟨nr, ar, kr, cr, rfl⟩ := zr.shape
        obtain ⟨wb, eb, hK, hR, belb, hszb⟩ := alloc2 wa (Obj.cells #[Value.bool nq, Value.slice aq kq cq] 58) (Obj.cells #[Value.bool nr, Value.slice ar kr cr] 58)
        have Bb := Lib.hid (below_of ba belb)
        have ZK := Lib.hid (zq.below belb); have ZR := Lib.hid (zr.below belb); have HK := Lib.hid hK; have HR : Hid (wb.heap[wa.heap.size + 1]? = _) := Lib.hid hR
        have M0b := Lib.hid (blk_below' Bb.out M0.out); have Z0b := Lib.hid (Z0.out.below Bb.out)
        have M1b := Lib.hid (blk_below' Bb.out M1.out); have Z1b := Lib.hid (Z1.out.below Bb.out)
        have M2b := Lib.hid (blk_below' Bb.out M2.out); have Z2b := Lib.hid (Z2.out.below Bb.out)
        have M3b := Lib.hid (blk_below' Bb.out M3.out); have Z3b := Lib.hid (Z3.out.below Bb.out)
        have M4b := Lib.hid (blk_below' Bb.out M4.out); have Z4b := Lib.hid (Z4.out.below Bb.out)
        have M5b := Lib.hid (blk_below' Bb.out M5.out); have Z5b := Lib.hid (Z5.out.below Bb.out)
        have BLb := Lib.hid (BL.out.trans (Bb.out.mono (by have := BL.out.size; omega)))
        have hsza : wr.heap.size ≤ wa.heap.size := ba.size
        clear zq zr ba hK hR belb x0 x1 y0 y1 CU hqc M0 Z0 M1 Z1 M2 Z2 M3 Z3 M4 Z4 M5 Z5 Bb BL HL
        go_wp2_with fail
        try rw [eb]
        clear eb
        obtain ⟨p0, p1, _, _, lp0⟩ := blk2 M1b.out; obtain ⟨q0, q1, _, _, lq0⟩ := blk2 M4b.out; obtain ⟨o0, o1, _, _, lo0⟩ := blk2 HK.out
        have STAY : Hid (∀ w', Below wb.heap.size wb w' → w'.cell? ⟨w5.heap.size + 1, 0, none⟩ = some (.bool sn1) ∧ w'.cell? ⟨w5.heap.size + 1, 1, none⟩ = some (.slice sa1 sk1 sc1) ∧ w'.cell? ⟨wa.heap.size, 0, none⟩ = some (.bool nq) ∧ w'.cell? ⟨wa.heap.size, 1, none⟩ = some (.slice aq kq cq) ∧ w'.cell? ⟨w7.heap.size + 1, 0, none⟩ = some (.bool sn4) ∧ w'.cell? ⟨w7.heap.size + 1, 1, none⟩ = some (.slice sa4 sk4 sc4) ∧ Below wb.heap.size wb w' ∧ wb.heap.size ≤ w'.heap.size) := Lib.hid (fun w' h => ⟨cell_to h p0 lp0, cell_to h p1 lp0, cell_to h o0 lo0, cell_to h o1 lo0, cell_to h q0 lq0, cell_to h q1 lq0, h, h.size⟩)
        have TI : Hid (∀ w1, Below wb.heap.size wb w1 → Calls Tryz.prog 32 #[.agg #[.bool nq, .slice aq kq cq], .agg #[.bool sn4, .slice sa4 sk4 sc4]] w1 fun e w' => ∃ v', e = .returned v' ∧ ZV w' v' (((s.p / s.q : Nat) : Int) * r3 s) ∧ Below w1.heap.size w1 w') := Lib.hid (fun w1 hb => timesB _ _ _ _ w1 (ZK.out.below hb) (Z4b.out.below hb) (by rw [Int.natAbs_natCast]; exact Nat.lt_of_le_of_lt (Nat.div_le_self _ _) OK.out.p) (okr OK.out.i hMX.out).2.2.1)
        have MI : Hid (∀ v w1, ZV w1 v (((s.p / s.q : Nat) : Int) * r3 s) → Calls Tryz.prog 31 #[v] w1 fun e w' => ∃ v', e = .returned v' ∧ ZV w' v' (-(((s.p / s.q : Nat) : Int) * r3 s)) ∧ Below w1.heap.size w1 w') := Lib.hid (fun v w1 hz => minus_any2 v _ w1 hz)
        have PL : Hid (∀ v w1, Below wb.heap.size wb w1 → ZV w1 v (-(((s.p / s.q : Nat) : Int) * r3 s)) → Calls Tryz.prog 30 #[.agg #[.bool sn1, .slice sa1 sk1 sc1], v] w1 fun e w' => ∃ v', e = .returned v' ∧ ZV w' v' (r3 (eNext s)) ∧ Below w1.heap.size w1 w') := Lib.hid (fun v w1 hb hz => plusB _ _ _ _ _ w1 (Z1b.out.below hb) hz (okr OK.out.i hMX.out).1 (mxd DM.out.2.2.2.2.2.2.2.2.1) (mxs DM.out.2.2.2.2.2.2.2.2.1))
        have hB0 := (Below.refl wb.heap.size wb).drew
        clear p0 p1 q0 q1 o0 o1
        go_cut [18] (fun s' wx => UzO wb wx (r3 (eNext s)) s')
        case first =>
          go_region_held3 (fun w' => w'.cell? ⟨w5.heap.size + 1, 0, none⟩ = some (.bool sn1) ∧ w'.cell? ⟨w5.heap.size + 1, 1, none⟩ = some (.slice sa1 sk1 sc1) ∧ w'.cell? ⟨wa.heap.size, 0, none⟩ = some (.bool nq) ∧ w'.cell? ⟨wa.heap.size, 1, none⟩ = some (.slice aq kq cq) ∧ w'.cell? ⟨w7.heap.size + 1, 0, none⟩ = some (.bool sn4) ∧ w'.cell? ⟨w7.heap.size + 1, 1, none⟩ = some (.slice sa4 sk4 sc4) ∧ Below wb.heap.size wb w' ∧ wb.heap.size ≤ w'.heap.size)
            (((try go_split_ands); refine STAY.out _ ?_; repeat (first | (with_reducible assumption) | (with_reducible exact Below.refl _ _) | (with_reducible refine Below.drew ?_) | (with_reducible exact below_to (by with_reducible assumption) (by with_reducible assumption)) | ((with_reducible refine Below.alloc ?_ ?_ _); rotate_left; (focus (first | omega | (simp; done) | (simp; omega)))) | ((with_reducible refine Below.setCell ?_ ?_ _); rotate_left; (focus (first | omega | (simp; done) | (simp; omega)))))))
            (first
            | (go_at_call 32; go_split_ands; (with_reducible refine Calls.mono (TI.out _ (by with_reducible assumption)) ?_); rintro e w5' ⟨v5', rfl, ii5, hb5⟩; obtain ⟨m5', d5', l5', e5', rfl⟩ := ii5.shape; have hk5 := below_to hb5 (by with_reducible assumption); have hz5 := hk5.size; obtain ⟨hc5, hf5⟩ := bcell hb5; have hy5 := hb5.size; (try simp only [sz_alloc, sz_set, sz_drew] at hy5); (try (have hqwb5 : wb.heap.size < w5'.heap.size := by omega)); (try (have hrwb5 : wb.heap.size + 1 < w5'.heap.size := by omega)))
            | (go_at_call 31; go_split_ands; (with_reducible refine Calls.mono (MI.out _ _ ?_) ?_); ((repeat (first | (with_reducible assumption) | (with_reducible refine zv_allocz ?_) | (with_reducible refine zv_drewz ?_)))); rintro e w6' ⟨v6', rfl, ii6, hb6⟩; obtain ⟨m6', d6', l6', e6', rfl⟩ := ii6.shape; have hk6 := below_to hb6 (by with_reducible assumption); have hz6 := hk6.size; obtain ⟨hc6, hf6⟩ := bcell hb6; have hy6 := hb6.size; (try simp only [sz_alloc, sz_set, sz_drew] at hy6); (try (have hqwb6 : wb.heap.size < w6'.heap.size := by omega)); (try (have hrwb6 : wb.heap.size + 1 < w6'.heap.size := by omega)); (try (have hqw5'6 : w5'.heap.size < w6'.heap.size := by omega)); (try (have hrw5'6 : w5'.heap.size + 1 < w6'.heap.size := by omega)))
            | (go_at_call 30; go_split_ands; (with_reducible refine Calls.mono (PL.out _ _ (by with_reducible assumption) ?_) ?_); ((repeat (first | (with_reducible assumption) | (with_reducible refine zv_allocz ?_) | (with_reducible refine zv_drewz ?_)))); rintro e w7' ⟨v7', rfl, ii7, hb7⟩; obtain ⟨m7', d7', l7', e7', rfl⟩ := ii7.shape; have hk7 := below_to hb7 (by with_reducible assumption); have hz7 := hk7.size; obtain ⟨hc7, hf7⟩ := bcell hb7; have hy7 := hb7.size; (try simp only [sz_alloc, sz_set, sz_drew] at hy7); (try (have hqwb7 : wb.heap.size < w7'.heap.size := by omega)); (try (have hrwb7 : wb.heap.size + 1 < w7'.heap.size := by omega)); (try (have hqw5'7 : w5'.heap.size < w7'.heap.size := by omega)); (try (have hrw5'7 : w5'.heap.size + 1 < w7'.heap.size := by omega)); (try (have hqw6'7 : w6'.heap.size < w7'.heap.size := by omega)); (try (have hrw6'7 : w6'.heap.size + 1 < w7'.heap.size := by omega))))
          all_goals
            (go_wp2_with fail
             go_meet
             clear hc5 hf5 hc6 hf6 hc7 hf7
             refine ⟨_, m7', d7', l7', e7', rfl, ?_, ?_, ?_, ?_⟩)
          all_goals
            repeat (first | (with_reducible assumption) | ((with_reducible refine blk_newz ?_); (first | omega | (simp only [sz_alloc, sz_set, sz_drew]; omega) | (focus (simp only [sz_alloc, sz_set, sz_drew]; done)))) | ((with_reducible refine blk_ltz ?_ ?_); (first | omega | (simp only [sz_alloc, sz_set, sz_drew]; omega) | (focus (simp only [sz_alloc, sz_set, sz_drew]; done)))) | (with_reducible refine blk_own2z ?_) | ((with_reducible refine blk_twoz ?_ ?_); (first | omega | (simp only [sz_alloc, sz_set, sz_drew]; omega) | (focus (simp only [sz_alloc, sz_set, sz_drew]; done)))) | (with_reducible refine blk_drew ?_) | ((with_reducible refine blk_below hb7 ?_ ?_); (first | omega | (simp only [sz_alloc, sz_set, sz_drew]; omega) | (focus (simp only [sz_alloc, sz_set, sz_drew]; done)))) | ((with_reducible refine blk_below hb6 ?_ ?_); (first | omega | (simp only [sz_alloc, sz_set, sz_drew]; omega) | (focus (simp only [sz_alloc, sz_set, sz_drew]; done)))) | ((with_reducible refine blk_below hb5 ?_ ?_); (first | omega | (simp only [sz_alloc, sz_set, sz_drew]; omega) | (focus (simp only [sz_alloc, sz_set, sz_drew]; done)))) | (with_reducible refine zv_allocz ?_) | (with_reducible refine zv_set2z ?_ ?_) | (with_reducible refine zv_callz hb7 ?_) | (with_reducible refine zv_callz hb6 ?_) | (with_reducible refine zv_callz hb5 ?_) | (with_reducible exact Below.refl _ _) | (with_reducible refine Below.drew ?_) | ((with_reducible refine Below.alloc ?_ ?_ _); rotate_left; (focus (first | omega | (simp; done) | (simp; omega)))) | ((with_reducible refine Below.setCell ?_ ?_ _); rotate_left; (focus (first | omega | (simp; done) | (simp; omega)))) | (first | omega | (simp only [sz_alloc, sz_set, sz_drew]; omega) | (focus (simp only [sz_alloc, sz_set, sz_drew]; done))))
        case rest =>
          obtain ⟨g8, m8, d8, l8, e8, rfl, hg8, hG8, zg8, hb8⟩ := hcut
          generalize wc = wd at *
          have HG8 := Lib.hid hG8; have ZG8 := Lib.hid zg8
          have M0c := Lib.hid (blk_below' hb8 M0b.out); have Z0c := Lib.hid (Z0b.out.below hb8)
          have M1c := Lib.hid (blk_below' hb8 M1b.out); have Z1c := Lib.hid (Z1b.out.below hb8)
          have M2c := Lib.hid (blk_below' hb8 M2b.out); have Z2c := Lib.hid (Z2b.out.below hb8)
          have M3c := Lib.hid (blk_below' hb8 M3b.out); have Z3c := Lib.hid (Z3b.out.below hb8)
          have M4c := Lib.hid (blk_below' hb8 M4b.out); have Z4c := Lib.hid (Z4b.out.below hb8)
          have M5c := Lib.hid (blk_below' hb8 M5b.out); have Z5c := Lib.hid (Z5b.out.below hb8)
          have HKc := Lib.hid (blk_below' hb8 HK.out); have HRc := Lib.hid (blk_below' hb8 HR.out); have ZKc := Lib.hid (ZK.out.below hb8); have ZRc := Lib.hid (ZR.out.below hb8)
          have BLc := Lib.hid (BLb.out.trans (hb8.mono (by omega)))
          have hszd : wb.heap.size ≤ wd.heap.size := hb8.size
          clear hG8 zg8 hb8 HK HR ZK ZR BLb TI MI PL STAY hB0 M0b Z0b M1b Z1b M2b Z2b M3b Z3b M4b Z4b M5b Z5b
          go_wp2_with fail
          obtain ⟨p0, p1, _, _, lp0⟩ := blk2 M2c.out; obtain ⟨q0, q1, _, _, lq0⟩ := blk2 M5c.out; obtain ⟨o0, o1, _, _, lo0⟩ := blk2 HKc.out
          have STAY : Hid (∀ w', Below wd.heap.size wd w' → w'.cell? ⟨w5.heap.size + 1 + 1, 0, none⟩ = some (.bool sn2) ∧ w'.cell? ⟨w5.heap.size + 1 + 1, 1, none⟩ = some (.slice sa2 sk2 sc2) ∧ w'.cell? ⟨wa.heap.size, 0, none⟩ = some (.bool nq) ∧ w'.cell? ⟨wa.heap.size, 1, none⟩ = some (.slice aq kq cq) ∧ w'.cell? ⟨w7.heap.size + 1 + 1, 0, none⟩ = some (.bool sn5) ∧ w'.cell? ⟨w7.heap.size + 1 + 1, 1, none⟩ = some (.slice sa5 sk5 sc5) ∧ Below wd.heap.size wd w' ∧ wd.heap.size ≤ w'.heap.size) := Lib.hid (fun w' h => ⟨cell_to h p0 lp0, cell_to h p1 lp0, cell_to h o0 lo0, cell_to h o1 lo0, cell_to h q0 lq0, cell_to h q1 lq0, h, h.size⟩)
          have TI : Hid (∀ w1, Below wd.heap.size wd w1 → Calls Tryz.prog 32 #[.agg #[.bool nq, .slice aq kq cq], .agg #[.bool sn5, .slice sa5 sk5 sc5]] w1 fun e w' => ∃ v', e = .returned v' ∧ ZV w' v' (((s.p / s.q : Nat) : Int) * r4 s) ∧ Below w1.heap.size w1 w') := Lib.hid (fun w1 hb => timesB _ _ _ _ w1 (ZKc.out.below hb) (Z5c.out.below hb) (by rw [Int.natAbs_natCast]; exact Nat.lt_of_le_of_lt (Nat.div_le_self _ _) OK.out.p) (okr OK.out.i hMX.out).2.2.2)
          have MI : Hid (∀ v w1, ZV w1 v (((s.p / s.q : Nat) : Int) * r4 s) → Calls Tryz.prog 31 #[v] w1 fun e w' => ∃ v', e = .returned v' ∧ ZV w' v' (-(((s.p / s.q : Nat) : Int) * r4 s)) ∧ Below w1.heap.size w1 w') := Lib.hid (fun v w1 hz => minus_any2 v _ w1 hz)
          have PL : Hid (∀ v w1, Below wd.heap.size wd w1 → ZV w1 v (-(((s.p / s.q : Nat) : Int) * r4 s)) → Calls Tryz.prog 30 #[.agg #[.bool sn2, .slice sa2 sk2 sc2], v] w1 fun e w' => ∃ v', e = .returned v' ∧ ZV w' v' (r4 (eNext s)) ∧ Below w1.heap.size w1 w') := Lib.hid (fun v w1 hb hz => plusB _ _ _ _ _ w1 (Z2c.out.below hb) hz (okr OK.out.i hMX.out).2.1 (mxd DM.out.2.2.2.2.2.2.2.2.2) (mxs DM.out.2.2.2.2.2.2.2.2.2))
          have hB0 := (Below.refl wd.heap.size wd).drew
          clear p0 p1 q0 q1 o0 o1
          go_cut [19] (fun s' wx => UzO wd wx (r4 (eNext s)) s')
          case first =>
            go_region_held3 (fun w' => w'.cell? ⟨w5.heap.size + 1 + 1, 0, none⟩ = some (.bool sn2) ∧ w'.cell? ⟨w5.heap.size + 1 + 1, 1, none⟩ = some (.slice sa2 sk2 sc2) ∧ w'.cell? ⟨wa.heap.size, 0, none⟩ = some (.bool nq) ∧ w'.cell? ⟨wa.heap.size, 1, none⟩ = some (.slice aq kq cq) ∧ w'.cell? ⟨w7.heap.size + 1 + 1, 0, none⟩ = some (.bool sn5) ∧ w'.cell? ⟨w7.heap.size + 1 + 1, 1, none⟩ = some (.slice sa5 sk5 sc5) ∧ Below wd.heap.size wd w' ∧ wd.heap.size ≤ w'.heap.size)
              (((try go_split_ands); refine STAY.out _ ?_; repeat (first | (with_reducible assumption) | (with_reducible exact Below.refl _ _) | (with_reducible refine Below.drew ?_) | (with_reducible exact below_to (by with_reducible assumption) (by with_reducible assumption)) | ((with_reducible refine Below.alloc ?_ ?_ _); rotate_left; (focus (first | omega | (simp; done) | (simp; omega)))) | ((with_reducible refine Below.setCell ?_ ?_ _); rotate_left; (focus (first | omega | (simp; done) | (simp; omega)))))))
              (first
              | (go_at_call 32; go_split_ands; (with_reducible refine Calls.mono (TI.out _ (by with_reducible assumption)) ?_); rintro e w5' ⟨v5', rfl, ii5, hb5⟩; obtain ⟨m5', d5', l5', e5', rfl⟩ := ii5.shape; have hk5 := below_to hb5 (by with_reducible assumption); have hz5 := hk5.size; obtain ⟨hc5, hf5⟩ := bcell hb5; have hy5 := hb5.size; (try simp only [sz_alloc, sz_set, sz_drew] at hy5); (try (have hqwd5 : wd.heap.size < w5'.heap.size := by omega)); (try (have hrwd5 : wd.heap.size + 1 < w5'.heap.size := by omega)))
              | (go_at_call 31; go_split_ands; (with_reducible refine Calls.mono (MI.out _ _ ?_) ?_); ((repeat (first | (with_reducible assumption) | (with_reducible refine zv_allocz ?_) | (with_reducible refine zv_drewz ?_)))); rintro e w6' ⟨v6', rfl, ii6, hb6⟩; obtain ⟨m6', d6', l6', e6', rfl⟩ := ii6.shape; have hk6 := below_to hb6 (by with_reducible assumption); have hz6 := hk6.size; obtain ⟨hc6, hf6⟩ := bcell hb6; have hy6 := hb6.size; (try simp only [sz_alloc, sz_set, sz_drew] at hy6); (try (have hqwd6 : wd.heap.size < w6'.heap.size := by omega)); (try (have hrwd6 : wd.heap.size + 1 < w6'.heap.size := by omega)); (try (have hqw5'6 : w5'.heap.size < w6'.heap.size := by omega)); (try (have hrw5'6 : w5'.heap.size + 1 < w6'.heap.size := by omega)))
              | (go_at_call 30; go_split_ands; (with_reducible refine Calls.mono (PL.out _ _ (by with_reducible assumption) ?_) ?_); ((repeat (first | (with_reducible assumption) | (with_reducible refine zv_allocz ?_) | (with_reducible refine zv_drewz ?_)))); rintro e w7' ⟨v7', rfl, ii7, hb7⟩; obtain ⟨m7', d7', l7', e7', rfl⟩ := ii7.shape; have hk7 := below_to hb7 (by with_reducible assumption); have hz7 := hk7.size; obtain ⟨hc7, hf7⟩ := bcell hb7; have hy7 := hb7.size; (try simp only [sz_alloc, sz_set, sz_drew] at hy7); (try (have hqwd7 : wd.heap.size < w7'.heap.size := by omega)); (try (have hrwd7 : wd.heap.size + 1 < w7'.heap.size := by omega)); (try (have hqw5'7 : w5'.heap.size < w7'.heap.size := by omega)); (try (have hrw5'7 : w5'.heap.size + 1 < w7'.heap.size := by omega)); (try (have hqw6'7 : w6'.heap.size < w7'.heap.size := by omega)); (try (have hrw6'7 : w6'.heap.size + 1 < w7'.heap.size := by omega))))
            all_goals
              (go_wp2_with fail
               go_meet
               clear hc5 hf5 hc6 hf6 hc7 hf7
               refine ⟨_, m7', d7', l7', e7', rfl, ?_, ?_, ?_, ?_⟩)
            all_goals
              repeat (first | (with_reducible assumption) | ((with_reducible refine blk_newz ?_); (first | omega | (simp only [sz_alloc, sz_set, sz_drew]; omega) | (focus (simp only [sz_alloc, sz_set, sz_drew]; done)))) | ((with_reducible refine blk_ltz ?_ ?_); (first | omega | (simp only [sz_alloc, sz_set, sz_drew]; omega) | (focus (simp only [sz_alloc, sz_set, sz_drew]; done)))) | (with_reducible refine blk_own2z ?_) | ((with_reducible refine blk_twoz ?_ ?_); (first | omega | (simp only [sz_alloc, sz_set, sz_drew]; omega) | (focus (simp only [sz_alloc, sz_set, sz_drew]; done)))) | (with_reducible refine blk_drew ?_) | ((with_reducible refine blk_below hb7 ?_ ?_); (first | omega | (simp only [sz_alloc, sz_set, sz_drew]; omega) | (focus (simp only [sz_alloc, sz_set, sz_drew]; done)))) | ((with_reducible refine blk_below hb6 ?_ ?_); (first | omega | (simp only [sz_alloc, sz_set, sz_drew]; omega) | (focus (simp only [sz_alloc, sz_set, sz_drew]; done)))) | ((with_reducible refine blk_below hb5 ?_ ?_); (first | omega | (simp only [sz_alloc, sz_set, sz_drew]; omega) | (focus (simp only [sz_alloc, sz_set, sz_drew]; done)))) | (with_reducible refine zv_allocz ?_) | (with_reducible refine zv_set2z ?_ ?_) | (with_reducible refine zv_callz hb7 ?_) | (with_reducible refine zv_callz hb6 ?_) | (with_reducible refine zv_callz hb5 ?_) | (with_reducible exact Below.refl _ _) | (with_reducible refine Below.drew ?_) | ((with_reducible refine Below.alloc ?_ ?_ _); rotate_left; (focus (first | omega | (simp; done) | (simp; omega)))) | ((with_reducible refine Below.setCell ?_ ?_ _); rotate_left; (focus (first | omega | (simp; done) | (simp; omega)))) | (first | omega | (simp only [sz_alloc, sz_set, sz_drew]; omega) | (focus (simp only [sz_alloc, sz_set, sz_drew]; done))))
          case rest =>
            obtain ⟨g9, m9, d9, l9, e9, rfl, hg9, hG9, zg9, hb9⟩ := hcut
            generalize wc = we at *
            have HG9 := Lib.hid hG9; have ZG9 := Lib.hid zg9; have HG8e := Lib.hid (blk_below' hb9 HG8.out); have ZG8e := Lib.hid (ZG8.out.below hb9)
            have M0e := Lib.hid (blk_below' hb9 M0c.out); have Z0e := Lib.hid (Z0c.out.below hb9)
            have M1e := Lib.hid (blk_below' hb9 M1c.out); have Z1e := Lib.hid (Z1c.out.below hb9)
            have M2e := Lib.hid (blk_below' hb9 M2c.out); have Z2e := Lib.hid (Z2c.out.below hb9)
            have M3e := Lib.hid (blk_below' hb9 M3c.out); have Z3e := Lib.hid (Z3c.out.below hb9)
            have M4e := Lib.hid (blk_below' hb9 M4c.out); have Z4e := Lib.hid (Z4c.out.below hb9)
            have M5e := Lib.hid (blk_below' hb9 M5c.out); have Z5e := Lib.hid (Z5c.out.below hb9)
            have HRe := Lib.hid (blk_below' hb9 HRc.out); have ZRe := Lib.hid (ZRc.out.below hb9)
            have BLe := Lib.hid (BLc.out.trans (hb9.mono (by omega)))
            have lg8 : g8 < wd.heap.size := (Array.getElem?_eq_some_iff.1 HG8.out).1
            have hsze : wd.heap.size ≤ we.heap.size := hb9.size
            clear hG9 zg9 hb9 HG8 ZG8 HKc HRc ZKc ZRc BLc TI MI PL STAY hB0 M0c Z0c M1c Z1c M2c Z2c M3c Z3c M4c Z4c M5c Z5c
            obtain ⟨s00, s01, t00, t01, ls0⟩ := blk2 M0e.out
            obtain ⟨s10, s11, t10, t11, ls1⟩ := blk2 M1e.out
            obtain ⟨s20, s21, t20, t21, ls2⟩ := blk2 M2e.out
            obtain ⟨PP, hP⟩ : ∃ PP : World → Prop, PP = fun w' => w'.heap[w7.heap.size]? = some (Obj.cells #[Value.bool sn3, Value.slice sa3 sk3 sc3] 58) ∧ w'.heap[w7.heap.size + 1]? = some (Obj.cells #[Value.bool sn4, Value.slice sa4 sk4 sc4] 58) ∧ w'.heap[w7.heap.size + 1 + 1]? = some (Obj.cells #[Value.bool sn5, Value.slice sa5 sk5 sc5] 58) := ⟨_, rfl⟩
            have hP0 : PP we := by rw [hP]; exact ⟨M3e.out, M4e.out, M5e.out⟩
            have PS0 : Hid (∀ (u : World) (x : Bool) (ao : Option Addr) (n c : Nat), PP u → PP ((u.setCell ⟨w5.heap.size, 0, none⟩ (.bool x)).setCell ⟨w5.heap.size, 1, none⟩ (.slice ao n c))) := Lib.hid (by rw [hP]; exact fun u x ao n c h => ⟨blk_two h.1 (by omega), blk_two h.2.1 (by omega), blk_two h.2.2 (by omega)⟩)
            have PS1 : Hid (∀ (u : World) (x : Bool) (ao : Option Addr) (n c : Nat), PP u → PP ((u.setCell ⟨w5.heap.size + 1, 0, none⟩ (.bool x)).setCell ⟨w5.heap.size + 1, 1, none⟩ (.slice ao n c))) := Lib.hid (by rw [hP]; exact fun u x ao n c h => ⟨blk_two h.1 (by omega), blk_two h.2.1 (by omega), blk_two h.2.2 (by omega)⟩)
            have PS2 : Hid (∀ (u : World) (x : Bool) (ao : Option Addr) (n c : Nat), PP u → PP ((u.setCell ⟨w5.heap.size + 1 + 1, 0, none⟩ (.bool x)).setCell ⟨w5.heap.size + 1 + 1, 1, none⟩ (.slice ao n c))) := Lib.hid (by rw [hP]; exact fun u x ao n c h => ⟨blk_two h.1 (by omega), blk_two h.2.1 (by omega), blk_two h.2.2 (by omega)⟩)
            have PD : Hid (∀ u, PP u → PP u.drew) := Lib.hid (by rw [hP]; exact fun u h => h)
            have STAY : Hid (∀ w', PP w' → w'.cell? ⟨w7.heap.size, 0, none⟩ = some (.bool sn3) ∧ w'.cell? ⟨w7.heap.size, 1, none⟩ = some (.slice sa3 sk3 sc3) ∧ w'.cell? ⟨w7.heap.size + 1, 0, none⟩ = some (.bool sn4) ∧ w'.cell? ⟨w7.heap.size + 1, 1, none⟩ = some (.slice sa4 sk4 sc4) ∧ w'.cell? ⟨w7.heap.size + 1 + 1, 0, none⟩ = some (.bool sn5) ∧ w'.cell? ⟨w7.heap.size + 1 + 1, 1, none⟩ = some (.slice sa5 sk5 sc5) ∧ PP w') := Lib.hid (by rw [hP]; exact fun w' h => ⟨(blk2 h.1).1, (blk2 h.1).2.1, (blk2 h.2.1).1, (blk2 h.2.1).2.1, (blk2 h.2.2).1, (blk2 h.2.2).2.1, h⟩)
            clear hP
            go_wp2_with fail
            go_region_held3 (fun w' => w'.cell? ⟨w7.heap.size, 0, none⟩ = some (.bool sn3) ∧ w'.cell? ⟨w7.heap.size, 1, none⟩ = some (.slice sa3 sk3 sc3) ∧ w'.cell? ⟨w7.heap.size + 1, 0, none⟩ = some (.bool sn4) ∧ w'.cell? ⟨w7.heap.size + 1, 1, none⟩ = some (.slice sa4 sk4 sc4) ∧ w'.cell? ⟨w7.heap.size + 1 + 1, 0, none⟩ = some (.bool sn5) ∧ w'.cell? ⟨w7.heap.size + 1 + 1, 1, none⟩ = some (.slice sa5 sk5 sc5) ∧ PP w')
              ((try go_split_ands; refine STAY.out _ ?_; repeat (first | (with_reducible assumption) | (with_reducible refine PD.out _ ?_) | (with_reducible refine PS0.out _ _ _ _ _ ?_) | (with_reducible refine PS1.out _ _ _ _ _ ?_) | (with_reducible refine PS2.out _ _ _ _ _ ?_))))
              ((fail))
            go_wp2_with fail
            obtain ⟨wf, ewf⟩ : ∃ V, ((((((we.setCell ⟨w5.heap.size, 0, none⟩ (.bool sn3)).setCell ⟨w5.heap.size, 1, none⟩ (.slice sa3 sk3 sc3)).setCell ⟨w5.heap.size + 1, 0, none⟩ (.bool sn4)).setCell ⟨w5.heap.size + 1, 1, none⟩ (.slice sa4 sk4 sc4)).setCell ⟨w5.heap.size + 1 + 1, 0, none⟩ (.bool sn5)).setCell ⟨w5.heap.size + 1 + 1, 1, none⟩ (.slice sa5 sk5 sc5)).drew = V := ⟨_, rfl⟩
            try rw [ewf]
            clear hP0 PS0 PS1 PS2 PD STAY s00 s01 t00 t01 s10 s11 t10 t11 s20 s21 t20 t21
            have b0 : IsB we (w5.heap.size) 58 := ⟨_, _, _, _, M0e.out⟩; have b1 : IsB we (w5.heap.size + 1) 58 := ⟨_, _, _, _, M1e.out⟩; have b2 : IsB we (w5.heap.size + 1 + 1) 58 := ⟨_, _, _, _, M2e.out⟩
            have N0f : Hid (wf.heap[w5.heap.size]? = some (Obj.cells #[Value.bool sn3, Value.slice sa3 sk3 sc3] 58)) := Lib.hid (by rw [← ewf]; exact blk_drew (blk_two (blk_two (blk_own2 M0e.out) (by omega)) (by omega)))
            have N1f : Hid (wf.heap[w5.heap.size + 1]? = some (Obj.cells #[Value.bool sn4, Value.slice sa4 sk4 sc4] 58)) := Lib.hid (by rw [← ewf]; exact blk_drew (blk_two (blk_own2 (blk_two M1e.out (by omega))) (by omega)))
            have N2f : Hid (wf.heap[w5.heap.size + 1 + 1]? = some (Obj.cells #[Value.bool sn5, Value.slice sa5 sk5 sc5] 58)) := Lib.hid (by rw [← ewf]; exact blk_drew (blk_own2 (blk_two (blk_two M2e.out (by omega)) (by omega))))
            have M3f : Hid (wf.heap[w7.heap.size]? = some (Obj.cells #[Value.bool sn3, Value.slice sa3 sk3 sc3] 58)) := Lib.hid (by rw [← ewf]; exact blk_drew (blk_two (blk_two (blk_two M3e.out (by omega)) (by omega)) (by omega)))
            have M4f : Hid (wf.heap[w7.heap.size + 1]? = some (Obj.cells #[Value.bool sn4, Value.slice sa4 sk4 sc4] 58)) := Lib.hid (by rw [← ewf]; exact blk_drew (blk_two (blk_two (blk_two M4e.out (by omega)) (by omega)) (by omega)))
            have M5f : Hid (wf.heap[w7.heap.size + 1 + 1]? = some (Obj.cells #[Value.bool sn5, Value.slice sa5 sk5 sc5] 58)) := Lib.hid (by rw [← ewf]; exact blk_drew (blk_two (blk_two (blk_two M5e.out (by omega)) (by omega)) (by omega)))
            have HRf : Hid (wf.heap[wa.heap.size + 1]? = some (Obj.cells #[Value.bool nr, Value.slice ar kr cr] 58)) := Lib.hid (by rw [← ewf]; exact blk_drew (blk_two (blk_two (blk_two HRe.out (by omega)) (by omega)) (by omega)))
            have G8f : Hid (wf.heap[g8]? = some (Obj.cells #[Value.bool m8, Value.slice d8 l8 e8] 58)) := Lib.hid (by rw [← ewf]; exact blk_drew (blk_two (blk_two (blk_two HG8e.out (by omega)) (by omega)) (by omega)))
            have G9f : Hid (wf.heap[g9]? = some (Obj.cells #[Value.bool m9, Value.slice d9 l9 e9] 58)) := Lib.hid (by rw [← ewf]; exact blk_drew (blk_two (blk_two (blk_two HG9.out (by omega)) (by omega)) (by omega)))
            have Z3f : Hid (ZV wf (.agg #[.bool sn3, .slice sa3 sk3 sc3]) ((s.q : Int))) := Lib.hid (by rw [← ewf]; exact zv_drewz (zv_two (zv_two (zv_two Z3e.out b0) (b1.far (by omega))) ((b2.far (by omega)).far (by omega))))
            have Z4f : Hid (ZV wf (.agg #[.bool sn4, .slice sa4 sk4 sc4]) (r3 s)) := Lib.hid (by rw [← ewf]; exact zv_drewz (zv_two (zv_two (zv_two Z4e.out b0) (b1.far (by omega))) ((b2.far (by omega)).far (by omega))))
            have Z5f : Hid (ZV wf (.agg #[.bool sn5, .slice sa5 sk5 sc5]) (r4 s)) := Lib.hid (by rw [← ewf]; exact zv_drewz (zv_two (zv_two (zv_two Z5e.out b0) (b1.far (by omega))) ((b2.far (by omega)).far (by omega))))
            have ZRf : Hid (ZV wf (.agg #[.bool nr, .slice ar kr cr]) (((s.p % s.q : Nat) : Int))) := Lib.hid (by rw [← ewf]; exact zv_drewz (zv_two (zv_two (zv_two ZRe.out b0) (b1.far (by omega))) ((b2.far (by omega)).far (by omega))))
            have Z8f : Hid (ZV wf (.agg #[.bool m8, .slice d8 l8 e8]) (r3 (eNext s))) := Lib.hid (by rw [← ewf]; exact zv_drewz (zv_two (zv_two (zv_two ZG8e.out b0) (b1.far (by omega))) ((b2.far (by omega)).far (by omega))))
            have Z9f : Hid (ZV wf (.agg #[.bool m9, .slice d9 l9 e9]) (r4 (eNext s))) := Lib.hid (by rw [← ewf]; exact zv_drewz (zv_two (zv_two (zv_two ZG9.out b0) (b1.far (by omega))) ((b2.far (by omega)).far (by omega))))
            have BLf : Hid (Below w5.heap.size U wf) := Lib.hid (by rw [← ewf]; exact Below.drew ((((((BLe.out.setCell (p := ⟨w5.heap.size, 0, none⟩) (by simp; try omega) _).setCell (p := ⟨w5.heap.size, 1, none⟩) (by simp; try omega) _).setCell (p := ⟨w5.heap.size + 1, 0, none⟩) (by simp; try omega) _).setCell (p := ⟨w5.heap.size + 1, 1, none⟩) (by simp; try omega) _).setCell (p := ⟨w5.heap.size + 1 + 1, 0, none⟩) (by simp; try omega) _).setCell (p := ⟨w5.heap.size + 1 + 1, 1, none⟩) (by simp; try omega) _))
            clear b0 b1 b2 ewf M0e Z0e M1e Z1e M2e Z2e M3e Z3e M4e Z4e M5e Z5e HRe HG8e HG9 ZRe ZG8e ZG9 BLe
            obtain ⟨s00, s01, t00, t01, ls0⟩ := blk2 M3f.out
            obtain ⟨s10, s11, t10, t11, ls1⟩ := blk2 M4f.out
            obtain ⟨s20, s21, t20, t21, ls2⟩ := blk2 M5f.out
            obtain ⟨PP, hP⟩ : ∃ PP : World → Prop, PP = fun w' => w'.heap[wa.heap.size + 1]? = some (Obj.cells #[Value.bool nr, Value.slice ar kr cr] 58) ∧ w'.heap[g8]? = some (Obj.cells #[Value.bool m8, Value.slice d8 l8 e8] 58) ∧ w'.heap[g9]? = some (Obj.cells #[Value.bool m9, Value.slice d9 l9 e9] 58) := ⟨_, rfl⟩
            have hP0 : PP wf := by rw [hP]; exact ⟨HRf.out, G8f.out, G9f.out⟩
            have PS0 : Hid (∀ (u : World) (x : Bool) (ao : Option Addr) (n c : Nat), PP u → PP ((u.setCell ⟨w7.heap.size, 0, none⟩ (.bool x)).setCell ⟨w7.heap.size, 1, none⟩ (.slice ao n c))) := Lib.hid (by rw [hP]; exact fun u x ao n c h => ⟨blk_two h.1 (by omega), blk_two h.2.1 (by omega), blk_two h.2.2 (by omega)⟩)
            have PS1 : Hid (∀ (u : World) (x : Bool) (ao : Option Addr) (n c : Nat), PP u → PP ((u.setCell ⟨w7.heap.size + 1, 0, none⟩ (.bool x)).setCell ⟨w7.heap.size + 1, 1, none⟩ (.slice ao n c))) := Lib.hid (by rw [hP]; exact fun u x ao n c h => ⟨blk_two h.1 (by omega), blk_two h.2.1 (by omega), blk_two h.2.2 (by omega)⟩)
            have PS2 : Hid (∀ (u : World) (x : Bool) (ao : Option Addr) (n c : Nat), PP u → PP ((u.setCell ⟨w7.heap.size + 1 + 1, 0, none⟩ (.bool x)).setCell ⟨w7.heap.size + 1 + 1, 1, none⟩ (.slice ao n c))) := Lib.hid (by rw [hP]; exact fun u x ao n c h => ⟨blk_two h.1 (by omega), blk_two h.2.1 (by omega), blk_two h.2.2 (by omega)⟩)
            have PD : Hid (∀ u, PP u → PP u.drew) := Lib.hid (by rw [hP]; exact fun u h => h)
            have STAY : Hid (∀ w', PP w' → w'.cell? ⟨wa.heap.size + 1, 0, none⟩ = some (.bool nr) ∧ w'.cell? ⟨wa.heap.size + 1, 1, none⟩ = some (.slice ar kr cr) ∧ w'.cell? ⟨g8, 0, none⟩ = some (.bool m8) ∧ w'.cell? ⟨g8, 1, none⟩ = some (.slice d8 l8 e8) ∧ w'.cell? ⟨g9, 0, none⟩ = some (.bool m9) ∧ w'.cell? ⟨g9, 1, none⟩ = some (.slice d9 l9 e9) ∧ PP w') := Lib.hid (by rw [hP]; exact fun w' h => ⟨(blk2 h.1).1, (blk2 h.1).2.1, (blk2 h.2.1).1, (blk2 h.2.1).2.1, (blk2 h.2.2).1, (blk2 h.2.2).2.1, h⟩)
            clear hP
            go_wp2_with fail
            go_region_held3 (fun w' => w'.cell? ⟨wa.heap.size + 1, 0, none⟩ = some (.bool nr) ∧ w'.cell? ⟨wa.heap.size + 1, 1, none⟩ = some (.slice ar kr cr) ∧ w'.cell? ⟨g8, 0, none⟩ = some (.bool m8) ∧ w'.cell? ⟨g8, 1, none⟩ = some (.slice d8 l8 e8) ∧ w'.cell? ⟨g9, 0, none⟩ = some (.bool m9) ∧ w'.cell? ⟨g9, 1, none⟩ = some (.slice d9 l9 e9) ∧ PP w')
              ((try go_split_ands; refine STAY.out _ ?_; repeat (first | (with_reducible assumption) | (with_reducible refine PD.out _ ?_) | (with_reducible refine PS0.out _ _ _ _ _ ?_) | (with_reducible refine PS1.out _ _ _ _ _ ?_) | (with_reducible refine PS2.out _ _ _ _ _ ?_))))
              ((fail))
            go_wp2_with fail
            obtain ⟨wh, ewh⟩ : ∃ V, ((((((wf.setCell ⟨w7.heap.size, 0, none⟩ (.bool nr)).setCell ⟨w7.heap.size, 1, none⟩ (.slice ar kr cr)).setCell ⟨w7.heap.size + 1, 0, none⟩ (.bool m8)).setCell ⟨w7.heap.size + 1, 1, none⟩ (.slice d8 l8 e8)).setCell ⟨w7.heap.size + 1 + 1, 0, none⟩ (.bool m9)).setCell ⟨w7.heap.size + 1 + 1, 1, none⟩ (.slice d9 l9 e9)).drew = V := ⟨_, rfl⟩
            try rw [ewh]
            clear hP0 PS0 PS1 PS2 PD STAY s00 s01 t00 t01 s10 s11 t10 t11 s20 s21 t20 t21
            have b0 : IsB wf (w7.heap.size) 58 := ⟨_, _, _, _, M3f.out⟩; have b1 : IsB wf (w7.heap.size + 1) 58 := ⟨_, _, _, _, M4f.out⟩; have b2 : IsB wf (w7.heap.size + 1 + 1) 58 := ⟨_, _, _, _, M5f.out⟩
            have N0h : Hid (wh.heap[w7.heap.size]? = some (Obj.cells #[Value.bool nr, Value.slice ar kr cr] 58)) := Lib.hid (by rw [← ewh]; exact blk_drew (blk_two (blk_two (blk_own2 M3f.out) (by omega)) (by omega)))
            have N1h : Hid (wh.heap[w7.heap.size + 1]? = some (Obj.cells #[Value.bool m8, Value.slice d8 l8 e8] 58)) := Lib.hid (by rw [← ewh]; exact blk_drew (blk_two (blk_own2 (blk_two M4f.out (by omega))) (by omega)))
            have N2h : Hid (wh.heap[w7.heap.size + 1 + 1]? = some (Obj.cells #[Value.bool m9, Value.slice d9 l9 e9] 58)) := Lib.hid (by rw [← ewh]; exact blk_drew (blk_own2 (blk_two (blk_two M5f.out (by omega)) (by omega))))
            have K0 : Hid (wh.heap[w5.heap.size]? = some (Obj.cells #[Value.bool sn3, Value.slice sa3 sk3 sc3] 58)) := Lib.hid (by rw [← ewh]; exact blk_drew (blk_two (blk_two (blk_two N0f.out (by omega)) (by omega)) (by omega)))
            have K1 : Hid (wh.heap[w5.heap.size + 1]? = some (Obj.cells #[Value.bool sn4, Value.slice sa4 sk4 sc4] 58)) := Lib.hid (by rw [← ewh]; exact blk_drew (blk_two (blk_two (blk_two N1f.out (by omega)) (by omega)) (by omega)))
            have K2 : Hid (wh.heap[w5.heap.size + 1 + 1]? = some (Obj.cells #[Value.bool sn5, Value.slice sa5 sk5 sc5] 58)) := Lib.hid (by rw [← ewh]; exact blk_drew (blk_two (blk_two (blk_two N2f.out (by omega)) (by omega)) (by omega)))
            have Y0 : Hid (ZV wh (.agg #[.bool sn3, .slice sa3 sk3 sc3]) ((s.q : Int))) := Lib.hid (by rw [← ewh]; exact zv_drewz (zv_two (zv_two (zv_two Z3f.out b0) (b1.far (by omega))) ((b2.far (by omega)).far (by omega))))
            have Y1 : Hid (ZV wh (.agg #[.bool sn4, .slice sa4 sk4 sc4]) (r3 s)) := Lib.hid (by rw [← ewh]; exact zv_drewz (zv_two (zv_two (zv_two Z4f.out b0) (b1.far (by omega))) ((b2.far (by omega)).far (by omega))))
            have Y2 : Hid (ZV wh (.agg #[.bool sn5, .slice sa5 sk5 sc5]) (r4 s)) := Lib.hid (by rw [← ewh]; exact zv_drewz (zv_two (zv_two (zv_two Z5f.out b0) (b1.far (by omega))) ((b2.far (by omega)).far (by omega))))
            have Y3 : Hid (ZV wh (.agg #[.bool nr, .slice ar kr cr]) (((s.p % s.q : Nat) : Int))) := Lib.hid (by rw [← ewh]; exact zv_drewz (zv_two (zv_two (zv_two ZRf.out b0) (b1.far (by omega))) ((b2.far (by omega)).far (by omega))))
            have Y4 : Hid (ZV wh (.agg #[.bool m8, .slice d8 l8 e8]) (r3 (eNext s))) := Lib.hid (by rw [← ewh]; exact zv_drewz (zv_two (zv_two (zv_two Z8f.out b0) (b1.far (by omega))) ((b2.far (by omega)).far (by omega))))
            have Y5 : Hid (ZV wh (.agg #[.bool m9, .slice d9 l9 e9]) (r4 (eNext s))) := Lib.hid (by rw [← ewh]; exact zv_drewz (zv_two (zv_two (zv_two Z9f.out b0) (b1.far (by omega))) ((b2.far (by omega)).far (by omega))))
            have BLh : Hid (Below w5.heap.size U wh) := Lib.hid (by rw [← ewh]; exact Below.drew ((((((BLf.out.setCell (p := ⟨w7.heap.size, 0, none⟩) (by simp; try omega) _).setCell (p := ⟨w7.heap.size, 1, none⟩) (by simp; try omega) _).setCell (p := ⟨w7.heap.size + 1, 0, none⟩) (by simp; try omega) _).setCell (p := ⟨w7.heap.size + 1, 1, none⟩) (by simp; try omega) _).setCell (p := ⟨w7.heap.size + 1 + 1, 0, none⟩) (by simp; try omega) _).setCell (p := ⟨w7.heap.size + 1 + 1, 1, none⟩) (by simp; try omega) _))
            clear b0 b1 b2 ewh
            have E1R : Hid (r1 (eNext s) = r3 s) := Lib.hid DM.out.2.2.2.2.1; have E2R : Hid (r2 (eNext s) = r4 s) := Lib.hid DM.out.2.2.2.2.2.1
            go_roundw
            case rel => exact ⟨eNext s, sn3, sn4, sn5, nr, m8, m9, sa3, sa4, sa5, ar, d8, d9, sk3, sc3, sk4, sc4, sk5, sc5, kr, cr, l8, e8, l9, e9, K0.out, K1.out, K2.out, N0h.out, N1h.out, N2h.out, Y0.out, by rw [E1R.out]; exact Y1.out, by rw [E2R.out]; exact Y2.out, Y3.out, Y4.out, Y5.out, OK'.out.1, OK'.out.2.1, BLh.out⟩
            case measure =>
              rw [HM.out, bIn_eq N0h.out Y3.out]
              exact OK'.out.2.2
end Go.Proofs.YtfdilnfmcpbkgaaGreatDoor
