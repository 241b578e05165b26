/- tribunalref03: PlusQ (written by genrpq.py). -/
import Derived.Test.YthgmebnihpjnoaaGreatDoorQB6
import Derived.Test.YthgmebnihpjnoaaGreatDoorQB3
import Derived.Test.YthgmebnihpjnoaaGreatDoorYB4
import Derived.Deep.RegionHeld3
set_option linter.unusedVariables false
set_option linter.unusedSimpArgs false
namespace Go.Proofs.YthgmebnihpjnoaaGreatDoor
open Go.RowKit Mth

theorem bigR16 : BigR = B16 ^ 4096 := by
  rw [bigR_eq, show (4096 : Nat) = 4 * maxR from rfl, Nat.pow_mul, show B16 ^ 4 = B64 from rfl]
theorem hugeD_of {a b : Nat} (ha : a < BigR) (hb : b < BigR) : a * b < HugeD := Nat.lt_of_lt_of_le (mulR ha hb) (Nat.le_trans big_huge huge_d)
theorem bigR_huge {n : Nat} (h : n < BigR) : n < HugeD := Nat.lt_of_lt_of_le (bigR_lt h) (Nat.le_trans big_huge huge_d)
theorem not_longQ {x : Int} {d : Nat} : ¬ longQ (x, d) ↔ x.natAbs < BigR ∧ d < BigR := by
  unfold longQ
  show ¬ (BigR ≤ x.natAbs ∨ BigR ≤ d) ↔ _
  omega
/-- a new box of a whole number -/
def UnZ (W wx : World) (z : Int) (s : Value) : Prop := ∃ (g : Nat) (n : Bool) (a : Option Addr) (k c : Nat), s = .pointer (some ⟨g, 0, none⟩) ∧ W.heap.size ≤ g ∧ wx.heap[g]? = some (.cells #[.bool n, .slice a k c] 66 (0, 0)) ∧ ZV wx (.agg #[.bool n, .slice a k c]) z ∧ Below W.heap.size W wx
set_option maxHeartbeats 16000000 in
set_option maxRecDepth 100000 in
theorem rplusq_any (va vb : Value) (x1 x2 : Int) (d1 d2 : Nat) (w : World) (ha : QV w va x1 d1) (hb : QV w vb x2 d2) (b1 : x1.natAbs < BigR) (e1 : d1 < BigR) (b2 : x2.natAbs < BigR) (e2 : d2 < BigR) (h0 : 0 < d1 * d2) :
    Calls Tryz.prog 57 #[va, vb] w fun e w' => ∃ v', e = .returned v' ∧ QV w' v' (lowN (x1 * d2 + x2 * d1) (d1 * d2)) (lowD (x1 * d2 + x2 * d1) (d1 * d2)) ∧ Below w.heap.size w w' := by
  obtain ⟨m1, a1, k1, c1, n1, s1, t1, u1, rfl, zN1, zD1⟩ := ha
  obtain ⟨m2, a2, k2, c2, n2, s2, t2, u2, rfl, zN2, zD2⟩ := hb
  have HB : Hid (x1.natAbs < B16 ^ 4096 ∧ (d1 : Int).natAbs < B16 ^ 4096 ∧ x2.natAbs < B16 ^ 4096 ∧ (d2 : Int).natAbs < B16 ^ 4096) := Lib.hid (by rw [← bigR16, Int.natAbs_natCast, Int.natAbs_natCast]; exact ⟨b1, e1, b2, e2⟩)
  have T1 : Hid (∀ w1, Below w.heap.size w w1 → Calls Tryz.prog 62 #[.agg #[.bool m1, .slice a1 k1 c1], .agg #[.bool n2, .slice s2 t2 u2]] w1 fun e w' => ResZ w1 w' e (x1 * (d2 : Int))) := Lib.hid (fun w1 h => (times_any2 _ _ _ _ w1 (zN1.below h) (zD2.below h) 4096 4096 HB.out.1 HB.out.2.2.2 (by omega)).mono (by rintro e w' ⟨v', rfl, hv, hb⟩; obtain ⟨n, a, k, c, rfl⟩ := hv.shape; exact ⟨_, _, _, _, rfl, hv, hb⟩))
  have T2 : Hid (∀ w1, Below w.heap.size w w1 → Calls Tryz.prog 62 #[.agg #[.bool m2, .slice a2 k2 c2], .agg #[.bool n1, .slice s1 t1 u1]] w1 fun e w' => ResZ w1 w' e (x2 * (d1 : Int))) := Lib.hid (fun w1 h => (times_any2 _ _ _ _ w1 (zN2.below h) (zD1.below h) 4096 4096 HB.out.2.2.1 HB.out.2.1 (by omega)).mono (by rintro e w' ⟨v', rfl, hv, hb⟩; obtain ⟨n, a, k, c, rfl⟩ := hv.shape; exact ⟨_, _, _, _, rfl, hv, hb⟩))
  have T3 : Hid (∀ w1, ZV w1 (.agg #[.bool n1, .slice s1 t1 u1]) (d1 : Int) → ZV w1 (.agg #[.bool n2, .slice s2 t2 u2]) (d2 : Int) → Calls Tryz.prog 62 #[.agg #[.bool n1, .slice s1 t1 u1], .agg #[.bool n2, .slice s2 t2 u2]] w1 fun e w' => ResZ w1 w' e ((d1 * d2 : Nat) : Int)) := Lib.hid (fun w1 h1 h2 => (times_any2 _ _ (d1 : Int) (d2 : Int) w1 h1 h2 4096 4096 HB.out.2.1 HB.out.2.2.2 (by omega)).mono (by rintro e w' ⟨v', rfl, hv, hb⟩; obtain ⟨n, a, k, c, rfl⟩ := hv.shape; rw [← Int.natCast_mul] at hv; exact ⟨_, _, _, _, rfl, hv, hb⟩))
  have HG1 : (x1 * (d2 : Int)).natAbs < HugeD := by rw [Int.natAbs_mul, Int.natAbs_natCast]; exact hugeD_of b1 e2
  have HG2 : (x2 * (d1 : Int)).natAbs < HugeD := by rw [Int.natAbs_mul, Int.natAbs_natCast]; exact hugeD_of b2 e1
  have AD : Hid (∀ va vb w1, ZV w1 va (x1 * (d2 : Int)) → ZV w1 vb (x2 * (d1 : Int)) → Calls Tryz.prog 94 #[va, vb] w1 fun e w' => ResZ w1 w' e (x1 * d2 + x2 * d1)) := Lib.hid (fun va vb w1 h1 h2 => (plus_any2 va vb _ _ w1 h1 h2 HG1 HG2).mono (by rintro e w' ⟨v', rfl, hv, hb⟩; obtain ⟨n, a, k, c, rfl⟩ := hv.shape; exact ⟨_, _, _, _, rfl, hv, hb⟩))
  have LO : Hid (∀ va vb w1, ZV w1 va (x1 * d2 + x2 * d1) → ZV w1 vb ((d1 * d2 : Nat) : Int) → Calls Tryz.prog 61 #[va, vb] w1 fun e w' => ∃ v', e = .returned v' ∧ QV w' v' (lowN (x1 * d2 + x2 * d1) (d1 * d2)) (lowD (x1 * d2 + x2 * d1) (d1 * d2)) ∧ Below w1.heap.size w1 w') := Lib.hid (fun va vb w1 h1 h2 => rlow_any va vb _ _ w1 h1 h2 h0 (hugeD_of e1 e2))
  have D1 := Lib.hid zD1; have D2 := Lib.hid zD2
  clear zN1 zN2 zD1 zD2 b1 e1 b2 e2 h0 HB HG1 HG2
  go_enter Tryz.func57, Tryz.ntmps57
  go_wp2_with fail
  obtain ⟨W, eW, h1, h2, h3, bel, hsz⟩ := alloc3 w (Obj.cells #[Value.bool m1, Value.slice a1 k1 c1, Value.bool n1, Value.slice s1 t1 u1] 71) (Obj.cells #[Value.bool m2, Value.slice a2 k2 c2, Value.bool n2, Value.slice s2 t2 u2] 71) (Obj.cells #[Value.bool false, Value.slice none 0 0, Value.bool false, Value.slice none 0 0] 71)
  rw [eW]
  obtain ⟨⟨p0, p1, p2, p3⟩, _, lp⟩ := blk4q h1
  obtain ⟨⟨q0, q1, q2, q3⟩, _, lq⟩ := blk4q h2
  have HA := Lib.hid h1; have HBB := Lib.hid h2; have HR : Hid (W.heap[w.heap.size + 1 + 1]? = _) := Lib.hid h3; have BW := Lib.hid bel
  have hszW : w.heap.size + 1 + 1 < W.heap.size := hsz
  have STAY : Hid (∀ w', Below W.heap.size W w' → w'.cell? ⟨w.heap.size, 0, none⟩ = some (.bool m1) ∧ w'.cell? ⟨w.heap.size, 1, none⟩ = some (.slice a1 k1 c1) ∧ w'.cell? ⟨w.heap.size, 2, none⟩ = some (.bool n1) ∧ w'.cell? ⟨w.heap.size, 3, none⟩ = some (.slice s1 t1 u1) ∧ w'.cell? ⟨w.heap.size + 1, 0, none⟩ = some (.bool m2) ∧ w'.cell? ⟨w.heap.size + 1, 1, none⟩ = some (.slice a2 k2 c2) ∧ w'.cell? ⟨w.heap.size + 1, 2, none⟩ = some (.bool n2) ∧ w'.cell? ⟨w.heap.size + 1, 3, none⟩ = some (.slice s2 t2 u2) ∧ Below W.heap.size W w' ∧ W.heap.size ≤ w'.heap.size) :=
    Lib.hid (fun w' h => ⟨cell_to h p0 lp, cell_to h p1 lp, cell_to h p2 lp, cell_to h p3 lp, cell_to h q0 lq, cell_to h q1 lq, cell_to h q2 lq, cell_to h q3 lq, h, h.size⟩)
  have hB0 := (Below.refl W.heap.size W).drew
  have T1' : Hid (∀ w1, Below W.heap.size W w1 → _) := Lib.hid (fun w1 h => T1.out w1 (below_of BW.out h))
  have T2' : Hid (∀ w1, Below W.heap.size W w1 → _) := Lib.hid (fun w1 h => T2.out w1 (below_of BW.out h))
  clear eW h1 h2 h3 bel p0 p1 p2 p3 q0 q1 q2 q3 T1 T2
  go_cut [5] (fun s wx => UnZ W wx (x1 * d2 + x2 * d1) s)
  case first =>
    go_region_held3 (fun w' => w'.cell? ⟨w.heap.size, 0, none⟩ = some (.bool m1) ∧ w'.cell? ⟨w.heap.size, 1, none⟩ = some (.slice a1 k1 c1) ∧ w'.cell? ⟨w.heap.size, 2, none⟩ = some (.bool n1) ∧ w'.cell? ⟨w.heap.size, 3, none⟩ = some (.slice s1 t1 u1) ∧ w'.cell? ⟨w.heap.size + 1, 0, none⟩ = some (.bool m2) ∧ w'.cell? ⟨w.heap.size + 1, 1, none⟩ = some (.slice a2 k2 c2) ∧ w'.cell? ⟨w.heap.size + 1, 2, none⟩ = some (.bool n2) ∧ w'.cell? ⟨w.heap.size + 1, 3, none⟩ = some (.slice s2 t2 u2) ∧ Below W.heap.size W w' ∧ W.heap.size ≤ w'.heap.size)
      (((try go_split_ands); refine STAY.out _ ?_; repeat (first | (with_reducible assumption) | (with_reducible exact Below.refl _ _) | (with_reducible refine Below.drew ?_) | (with_reducible exact below_to (by with_reducible assumption) (by with_reducible assumption)) | ((with_reducible refine Below.alloc ?_ ?_ _); rotate_left; (focus (first | omega | (simp; done) | (simp; omega)))) | ((with_reducible refine Below.setCell ?_ ?_ _); rotate_left; (focus (first | omega | (simp; done) | (simp; omega)))))))
      (first
      | (go_at_call 62; go_split_ands; first
        | ((with_reducible refine Calls.mono (T1'.out _ (by with_reducible assumption)) ?_); rintro e wB ⟨mB, dB, lB, eB, rfl, jj1, hbB⟩; have hkB := below_to hbB (by with_reducible assumption); have hzB := hkB.size; obtain ⟨hcB, hfB⟩ := bcell hbB; have hyB := hbB.size; (try simp only [sz_alloc, sz_set, sz_drew] at hyB); (try (have hqWB : W.heap.size < wB.heap.size := by omega)); (try (have hrWB : W.heap.size + 1 < wB.heap.size := by omega)))
        | ((with_reducible refine Calls.mono (T2'.out _ (by with_reducible assumption)) ?_); rintro e wD ⟨mD, dD, lD, eD, rfl, jj2, hbD⟩; have hkD := below_to hbD (by with_reducible assumption); have hzD := hkD.size; obtain ⟨hcD, hfD⟩ := bcell hbD; have hyD := hbD.size; (try simp only [sz_alloc, sz_set, sz_drew] at hyD); (try (have hqWD : W.heap.size < wD.heap.size := by omega)); (try (have hrWD : W.heap.size + 1 < wD.heap.size := by omega)); (try (have hqwBD : wB.heap.size < wD.heap.size := by omega)); (try (have hrwBD : wB.heap.size + 1 < wD.heap.size := by omega))))
      | (go_at_call 94; go_split_ands; (with_reducible refine Calls.mono (AD.out _ _ _ ?_ ?_) ?_); ((repeat (first | (with_reducible assumption) | (with_reducible refine zv_allocz ?_) | (with_reducible refine zv_drewz ?_) | (with_reducible refine zv_callzQ hbD ?_) | (with_reducible refine zv_callzQ hbB ?_)))); rintro e wE ⟨mE, dE, lE, eE, rfl, jj3, hbE⟩; have hkE := below_to hbE (by with_reducible assumption); have hzE := hkE.size; obtain ⟨hcE, hfE⟩ := bcell hbE; have hyE := hbE.size; (try simp only [sz_alloc, sz_set, sz_drew] at hyE); (try (have hqWE : W.heap.size < wE.heap.size := by omega)); (try (have hrWE : W.heap.size + 1 < wE.heap.size := by omega)); (try (have hqwBE : wB.heap.size < wE.heap.size := by omega)); (try (have hrwBE : wB.heap.size + 1 < wE.heap.size := by omega)); (try (have hqwDE : wD.heap.size < wE.heap.size := by omega)); (try (have hrwDE : wD.heap.size + 1 < wE.heap.size := by omega))))
    all_goals
      (go_wp2_with fail
       go_meet
       clear hcB hfB hcD hfD hcE hfE
       refine ⟨_, mE, dE, lE, eE, rfl, ?_, ?_, ?_, ?_⟩)
    all_goals
      repeat (first | (with_reducible assumption) | ((with_reducible refine blk_newz ?_); (first | omega | (simp only [sz_alloc, sz_set, sz_drew]; omega) | (focus (simp only [sz_alloc, sz_set, sz_drew]; done)))) | ((with_reducible refine blk_ltz ?_ ?_); (first | omega | (simp only [sz_alloc, sz_set, sz_drew]; omega) | (focus (simp only [sz_alloc, sz_set, sz_drew]; done)))) | (with_reducible refine blk_own2z ?_) | ((with_reducible refine blk_twoz ?_ ?_); (first | omega | (simp only [sz_alloc, sz_set, sz_drew]; omega) | (focus (simp only [sz_alloc, sz_set, sz_drew]; done)))) | (with_reducible refine blk_drew ?_) | ((with_reducible refine blk_below hbE ?_ ?_); (first | omega | (simp only [sz_alloc, sz_set, sz_drew]; omega) | (focus (simp only [sz_alloc, sz_set, sz_drew]; done)))) | ((with_reducible refine blk_below hbD ?_ ?_); (first | omega | (simp only [sz_alloc, sz_set, sz_drew]; omega) | (focus (simp only [sz_alloc, sz_set, sz_drew]; done)))) | ((with_reducible refine blk_below hbB ?_ ?_); (first | omega | (simp only [sz_alloc, sz_set, sz_drew]; omega) | (focus (simp only [sz_alloc, sz_set, sz_drew]; done)))) | (with_reducible refine zv_allocz ?_) | (with_reducible refine zv_set2z ?_ ?_) | (with_reducible refine zv_callzQ hbE ?_) | (with_reducible refine zv_callzQ hbD ?_) | (with_reducible refine zv_callzQ hbB ?_) | (with_reducible exact Below.refl _ _) | (with_reducible refine Below.drew ?_) | ((with_reducible refine Below.alloc ?_ ?_ _); rotate_left; (focus (first | omega | (simp; done) | (simp; omega)))) | ((with_reducible refine Below.setCell ?_ ?_ _); rotate_left; (focus (first | omega | (simp; done) | (simp; omega)))) | (first | omega | (simp only [sz_alloc, sz_set, sz_drew]; omega) | (focus (simp only [sz_alloc, sz_set, sz_drew]; done))))
  case rest =>
    obtain ⟨g, n3, a3, k3, c3, rfl, hg, hG, hi, hbc⟩ := hcut
    generalize wc = V at *
    have HG := Lib.hid hG; have HI := Lib.hid hi
    have HAv := Lib.hid (blk_below' hbc HA.out); have HBv := Lib.hid (blk_below' hbc HBB.out); have HRv := Lib.hid (blk_below' hbc HR.out); have BV := Lib.hid (below_of BW.out hbc)
    have lRg : w.heap.size + 1 + 1 < g := by omega
    obtain ⟨y0, y1, _, _, _⟩ := blk2 hG
    obtain ⟨⟨p0, p1, p2, p3⟩, _, _⟩ := blk4q HAv.out
    obtain ⟨⟨q0, q1, q2, q3⟩, _, _⟩ := blk4q HBv.out
    have NI0 : NoInt #[.bool false, .slice none 0 0, .bool false, .slice none 0 0] := by
      intro i k n
      rcases i with _ | _ | _ | _ | i <;> simp
    have HNI := Lib.hid NI0
    have STAY : Hid (∀ w', ZrN V w' (w.heap.size + 1 + 1) 71 4 → w'.cell? ⟨g, 0, none⟩ = some (.bool n3) ∧ w'.cell? ⟨g, 1, none⟩ = some (.slice a3 k3 c3) ∧ w'.cell? ⟨w.heap.size, 0, none⟩ = some (.bool m1) ∧ w'.cell? ⟨w.heap.size, 1, none⟩ = some (.slice a1 k1 c1) ∧ w'.cell? ⟨w.heap.size, 2, none⟩ = some (.bool n1) ∧ w'.cell? ⟨w.heap.size, 3, none⟩ = some (.slice s1 t1 u1) ∧ w'.cell? ⟨w.heap.size + 1, 0, none⟩ = some (.bool m2) ∧ w'.cell? ⟨w.heap.size + 1, 1, none⟩ = some (.slice a2 k2 c2) ∧ w'.cell? ⟨w.heap.size + 1, 2, none⟩ = some (.bool n2) ∧ w'.cell? ⟨w.heap.size + 1, 3, none⟩ = some (.slice s2 t2 u2) ∧ ZrN V w' (w.heap.size + 1 + 1) 71 4) :=
      Lib.hid (fun w' h => ⟨h.cell y0 (by omega), h.cell y1 (by omega), h.cell p0 (by omega), h.cell p1 (by omega), h.cell p2 (by omega), h.cell p3 (by omega), h.cell q0 (by omega), h.cell q1 (by omega), h.cell q2 (by omega), h.cell q3 (by omega), h⟩)
    have T3' : Hid (∀ w1, ZrN V w1 (w.heap.size + 1 + 1) 71 4 → Calls Tryz.prog 62 #[.agg #[.bool n1, .slice s1 t1 u1], .agg #[.bool n2, .slice s2 t2 u2]] w1 fun e w' => ResZ w1 w' e ((d1 * d2 : Nat) : Int)) := Lib.hid (fun w1 h => T3.out w1 ((D1.out.below BV.out).zrnN HRv.out HNI.out h) ((D2.out.below BV.out).zrnN HRv.out HNI.out h))
    have LO' : Hid (∀ w1 vb, ZrN V w1 (w.heap.size + 1 + 1) 71 4 → ZV w1 vb ((d1 * d2 : Nat) : Int) → Calls Tryz.prog 61 #[.agg #[.bool n3, .slice a3 k3 c3], vb] w1 fun e w' => ∃ v', e = .returned v' ∧ QV w' v' (lowN (x1 * d2 + x2 * d1) (d1 * d2)) (lowD (x1 * d2 + x2 * d1) (d1 * d2)) ∧ Below w1.heap.size w1 w') := Lib.hid (fun w1 vb h h2 => LO.out _ vb w1 (HI.out.zrnN HRv.out HNI.out h) h2)
    have hZ0 : ZrN V V.drew (w.heap.size + 1 + 1) 71 4 := (zrn_start HRv.out HNI.out).drew
    clear hG hi hbc HA HBB HR y0 y1 p0 p1 p2 p3 q0 q1 q2 q3 NI0 T1' T2' AD LO hB0 hg lp lq
    go_wp2_with fail
    go_region_held3 (fun w' => w'.cell? ⟨g, 0, none⟩ = some (.bool n3) ∧ w'.cell? ⟨g, 1, none⟩ = some (.slice a3 k3 c3) ∧ w'.cell? ⟨w.heap.size, 0, none⟩ = some (.bool m1) ∧ w'.cell? ⟨w.heap.size, 1, none⟩ = some (.slice a1 k1 c1) ∧ w'.cell? ⟨w.heap.size, 2, none⟩ = some (.bool n1) ∧ w'.cell? ⟨w.heap.size, 3, none⟩ = some (.slice s1 t1 u1) ∧ w'.cell? ⟨w.heap.size + 1, 0, none⟩ = some (.bool m2) ∧ w'.cell? ⟨w.heap.size + 1, 1, none⟩ = some (.slice a2 k2 c2) ∧ w'.cell? ⟨w.heap.size + 1, 2, none⟩ = some (.bool n2) ∧ w'.cell? ⟨w.heap.size + 1, 3, none⟩ = some (.slice s2 t2 u2) ∧ ZrN V w' (w.heap.size + 1 + 1) 71 4)
      (((try go_split_ands); refine STAY.out _ ?_; repeat (first | (with_reducible assumption) | (with_reducible refine ZrN.drew ?_) | (with_reducible refine ZrN.setS ?_) | (with_reducible refine ZrN.setB ?_))))
      (first
      | (go_at_call 62; go_split_ands; (with_reducible refine Calls.mono (T3'.out _ (by with_reducible assumption)) ?_); rintro e wC ⟨mC, dC, lC, eC, rfl, jj3, hbC⟩; have hkC := ZrN.call hbC (by with_reducible assumption))
      | (go_at_call 61; go_split_ands; (with_reducible refine Calls.mono (LO'.out _ _ (by with_reducible assumption) ?_) ?_); (repeat (first | (with_reducible assumption) | (with_reducible refine zv_drewz ?_))); rintro e wF ⟨v', rfl, ⟨mF, aF, kF, cF, nF, sF, tF, uF, rfl, jj4, jj5⟩, hbF⟩; have hkF := ZrN.call hbF (by with_reducible assumption); obtain ⟨z0, z1, z2, z3, hRF⟩ := zrn_four hkF; obtain ⟨⟨r0, r1, r2, r3⟩, ⟨f0, f1, f2, f3⟩, lR⟩ := blk4q hRF))
    all_goals
      have hle : w.heap.size ≤ w.heap.size + 1 + 1 := by omega
      have ZF : Hid (ZrN V ((((wF.setCell ⟨w.heap.size + 1 + 1, 0, none⟩ (.bool mF)).setCell ⟨w.heap.size + 1 + 1, 1, none⟩ (.slice aF kF cF)).setCell ⟨w.heap.size + 1 + 1, 2, none⟩ (.bool nF)).setCell ⟨w.heap.size + 1 + 1, 3, none⟩ (.slice sF tF uF)) (w.heap.size + 1 + 1) 71 4) := Lib.hid ((((hkF.setB).setS).setB).setS)
      have J1 := Lib.hid (jj4.farN (y0 := .bool mF) (y1 := .slice aF kF cF) (y2 := .bool nF) (y3 := .slice sF tF uF) hkF)
      have J2 := Lib.hid (jj5.farN (y0 := .bool mF) (y1 := .slice aF kF cF) (y2 := .bool nF) (y3 := .slice sF tF uF) hkF)
      go_wp2
      refine bodyPost_ret (v := .agg #[.bool mF, .slice aF kF cF, .bool nF, .slice sF tF uF]) ?_ rfl ⟨_, rfl, ⟨_, _, _, _, _, _, _, _, rfl, J1.out, J2.out⟩, ZF.out.zr.below BV.out hle⟩
      simp [results, Tryz.results57, go_sem, *]
end Go.Proofs.YthgmebnihpjnoaaGreatDoor
