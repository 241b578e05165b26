/- tribunalref03: CmpQ (written by genrpq.py). -/
import Derived.Test.YthgmebnihpjnoaaGreatDoorRPQ
import Derived.Test.YthgmebnihpjnoaaGreatDoorFA
set_option linter.unusedVariables false
set_option linter.unusedSimpArgs false
namespace Go.Proofs.YthgmebnihpjnoaaGreatDoor
open Go.RowKit Mth

set_option maxHeartbeats 16000000 in
set_option maxRecDepth 100000 in
theorem rcmpq_any (va vb : Value) (x1 x2 : Int) (d1 d2 : Nat) (w : World) (ha : QV w va x1 d1) (hb : QV w vb x2 d2) (b1 : x1.natAbs < BigR) (e1 : d1 < BigR) (b2 : x2.natAbs < BigR) (e2 : d2 < BigR) :
    Calls Tryz.prog 55 #[va, vb] w fun e w' => e = .returned (.int .i64 (zcmp (x1 * d2) (x2 * d1))) ∧ Below w.heap.size w w' := by
  obtain ⟨m1, a1, k1, c1, n1, s1, t1, u1, rfl, zN1, zD1⟩ := ha
  obtain ⟨m2, a2, k2, c2, n2, s2, t2, u2, rfl, zN2, zD2⟩ := hb
  have HB : Hid (x1.natAbs < B16 ^ 4096 ∧ (d1 : Int).natAbs < B16 ^ 4096 ∧ x2.natAbs < B16 ^ 4096 ∧ (d2 : Int).natAbs < B16 ^ 4096) := Lib.hid (by rw [← bigR16, Int.natAbs_natCast, Int.natAbs_natCast]; exact ⟨b1, e1, b2, e2⟩)
  have T1 : Hid (∀ w1, Below w.heap.size w w1 → Calls Tryz.prog 62 #[.agg #[.bool m1, .slice a1 k1 c1], .agg #[.bool n2, .slice s2 t2 u2]] w1 fun e w' => ResZ w1 w' e (x1 * (d2 : Int))) := Lib.hid (fun w1 h => (times_any2 _ _ _ _ w1 (zN1.below h) (zD2.below h) 4096 4096 HB.out.1 HB.out.2.2.2 (by omega)).mono (by rintro e w' ⟨v', rfl, hv, hb⟩; obtain ⟨n, a, k, c, rfl⟩ := hv.shape; exact ⟨_, _, _, _, rfl, hv, hb⟩))
  have T2 : Hid (∀ w1, Below w.heap.size w w1 → Calls Tryz.prog 62 #[.agg #[.bool m2, .slice a2 k2 c2], .agg #[.bool n1, .slice s1 t1 u1]] w1 fun e w' => ResZ w1 w' e (x2 * (d1 : Int))) := Lib.hid (fun w1 h => (times_any2 _ _ _ _ w1 (zN2.below h) (zD1.below h) 4096 4096 HB.out.2.2.1 HB.out.2.1 (by omega)).mono (by rintro e w' ⟨v', rfl, hv, hb⟩; obtain ⟨n, a, k, c, rfl⟩ := hv.shape; exact ⟨_, _, _, _, rfl, hv, hb⟩))
  have CM : Hid (∀ va vb w1, ZV w1 va (x1 * (d2 : Int)) → ZV w1 vb (x2 * (d1 : Int)) → Calls Tryz.prog 93 #[va, vb] w1 fun e w' => e = .returned (.int .i64 (zcmp (x1 * d2) (x2 * d1))) ∧ Below w1.heap.size w1 w') := Lib.hid (fun va vb w1 h1 h2 => cmp1_any va vb _ _ w1 h1 h2)
  clear zN1 zN2 zD1 zD2 b1 e1 b2 e2 HB
  go_enter Tryz.func55, Tryz.ntmps55
  go_wp2_with fail
  obtain ⟨W, eW, h1, h2, bel, hsz⟩ := alloc2 w (Obj.cells #[Value.bool m1, Value.slice a1 k1 c1, Value.bool n1, Value.slice s1 t1 u1] 71) (Obj.cells #[Value.bool m2, Value.slice a2 k2 c2, Value.bool n2, Value.slice s2 t2 u2] 71)
  rw [eW]
  obtain ⟨⟨p0, p1, p2, p3⟩, _, lp⟩ := blk4q h1
  obtain ⟨⟨q0, q1, q2, q3⟩, _, lq⟩ := blk4q h2
  have BW := Lib.hid bel
  have STAY : Hid (∀ w', Below W.heap.size W w' → w'.cell? ⟨w.heap.size, 0, none⟩ = some (.bool m1) ∧ w'.cell? ⟨w.heap.size, 1, none⟩ = some (.slice a1 k1 c1) ∧ w'.cell? ⟨w.heap.size, 2, none⟩ = some (.bool n1) ∧ w'.cell? ⟨w.heap.size, 3, none⟩ = some (.slice s1 t1 u1) ∧ w'.cell? ⟨w.heap.size + 1, 0, none⟩ = some (.bool m2) ∧ w'.cell? ⟨w.heap.size + 1, 1, none⟩ = some (.slice a2 k2 c2) ∧ w'.cell? ⟨w.heap.size + 1, 2, none⟩ = some (.bool n2) ∧ w'.cell? ⟨w.heap.size + 1, 3, none⟩ = some (.slice s2 t2 u2) ∧ Below W.heap.size W w' ∧ W.heap.size ≤ w'.heap.size) :=
    Lib.hid (fun w' h => ⟨cell_to h p0 lp, cell_to h p1 lp, cell_to h p2 lp, cell_to h p3 lp, cell_to h q0 lq, cell_to h q1 lq, cell_to h q2 lq, cell_to h q3 lq, h, h.size⟩)
  have hB0 := (Below.refl W.heap.size W).drew
  have T1' : Hid (∀ w1, Below W.heap.size W w1 → _) := Lib.hid (fun w1 h => T1.out w1 (below_of BW.out h))
  have T2' : Hid (∀ w1, Below W.heap.size W w1 → _) := Lib.hid (fun w1 h => T2.out w1 (below_of BW.out h))
  clear eW h1 h2 bel p0 p1 p2 p3 q0 q1 q2 q3 T1 T2
  go_region_held3 (fun w' => w'.cell? ⟨w.heap.size, 0, none⟩ = some (.bool m1) ∧ w'.cell? ⟨w.heap.size, 1, none⟩ = some (.slice a1 k1 c1) ∧ w'.cell? ⟨w.heap.size, 2, none⟩ = some (.bool n1) ∧ w'.cell? ⟨w.heap.size, 3, none⟩ = some (.slice s1 t1 u1) ∧ w'.cell? ⟨w.heap.size + 1, 0, none⟩ = some (.bool m2) ∧ w'.cell? ⟨w.heap.size + 1, 1, none⟩ = some (.slice a2 k2 c2) ∧ w'.cell? ⟨w.heap.size + 1, 2, none⟩ = some (.bool n2) ∧ w'.cell? ⟨w.heap.size + 1, 3, none⟩ = some (.slice s2 t2 u2) ∧ Below W.heap.size W w' ∧ W.heap.size ≤ w'.heap.size)
    (((try go_split_ands); refine STAY.out _ ?_; repeat (first | (with_reducible assumption) | (with_reducible exact Below.refl _ _) | (with_reducible refine Below.drew ?_) | (with_reducible exact below_to (by with_reducible assumption) (by with_reducible assumption)) | ((with_reducible refine Below.alloc ?_ ?_ _); rotate_left; (focus (first | omega | (simp; done) | (simp; omega)))) | ((with_reducible refine Below.setCell ?_ ?_ _); rotate_left; (focus (first | omega | (simp; done) | (simp; omega)))))))
    (first
    | (go_at_call 62; go_split_ands; first
      | ((with_reducible refine Calls.mono (T1'.out _ (by with_reducible assumption)) ?_); rintro e wB ⟨mB, dB, lB, eB, rfl, jj1, hbB⟩; have hkB := below_to hbB (by with_reducible assumption); have hzB := hkB.size; obtain ⟨hcB, hfB⟩ := bcell hbB; have hyB := hbB.size; (try simp only [sz_alloc, sz_set, sz_drew] at hyB); (try (have hqWB : W.heap.size < wB.heap.size := by omega)); (try (have hrWB : W.heap.size + 1 < wB.heap.size := by omega)))
      | ((with_reducible refine Calls.mono (T2'.out _ (by with_reducible assumption)) ?_); rintro e wD ⟨mD, dD, lD, eD, rfl, jj2, hbD⟩; have hkD := below_to hbD (by with_reducible assumption); have hzD := hkD.size; obtain ⟨hcD, hfD⟩ := bcell hbD; have hyD := hbD.size; (try simp only [sz_alloc, sz_set, sz_drew] at hyD); (try (have hqWD : W.heap.size < wD.heap.size := by omega)); (try (have hrWD : W.heap.size + 1 < wD.heap.size := by omega)); (try (have hqwBD : wB.heap.size < wD.heap.size := by omega)); (try (have hrwBD : wB.heap.size + 1 < wD.heap.size := by omega))))
    | (go_at_call 93; go_split_ands; (with_reducible refine Calls.mono (CM.out _ _ _ ?_ ?_) ?_); ((repeat (first | (with_reducible assumption) | (with_reducible refine zv_allocz ?_) | (with_reducible refine zv_drewz ?_) | (with_reducible refine zv_callzQ hbD ?_) | (with_reducible refine zv_callzQ hbB ?_)))); rintro e wE ⟨rfl, hbE⟩; have hkE := below_to hbE (by with_reducible assumption); have hzE := hkE.size; obtain ⟨hcE, hfE⟩ := bcell hbE; have hyE := hbE.size; (try simp only [sz_alloc, sz_set, sz_drew] at hyE); (try (have hqWE : W.heap.size < wE.heap.size := by omega)); (try (have hrWE : W.heap.size + 1 < wE.heap.size := by omega)); (try (have hqwBE : wB.heap.size < wE.heap.size := by omega)); (try (have hrwBE : wB.heap.size + 1 < wE.heap.size := by omega)); (try (have hqwDE : wD.heap.size < wE.heap.size := by omega)); (try (have hrwDE : wD.heap.size + 1 < wE.heap.size := by omega))))
  all_goals
    have BF := Lib.hid (below_of BW.out hkE)
    go_wp2
    go_ret
    exact ⟨rfl, BF.out⟩
end Go.Proofs.YthgmebnihpjnoaaGreatDoor
