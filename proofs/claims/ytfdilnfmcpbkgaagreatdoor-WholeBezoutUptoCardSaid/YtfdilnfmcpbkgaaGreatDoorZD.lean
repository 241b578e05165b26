/- Package whole: Mul. -/
import Derived.Test.YtfdilnfmcpbkgaaGreatDoorZC
import Derived.Test.YtfdilnfmcpbkgaaGreatDoorY1
set_option linter.unusedVariables false
set_option linter.unusedSimpArgs false
namespace Go.Proofs.YtfdilnfmcpbkgaaGreatDoor
open Go.RowKit Mth

theorem mul_zE {x y : Int} (hx : x ≠ 0) (hy : y ≠ 0) : mE x.natAbs y.natAbs = zE (x * y) ∧ mN x.natAbs y.natAbs = (zN (x * y)).natAbs ∧ (!(sgn x == sgn y)) = sgn (x * y) := by
  have e : (x * y).natAbs = x.natAbs * y.natAbs := Int.natAbs_mul x y
  have hx1 : 1 ≤ x.natAbs := by omega
  have hy1 : 1 ≤ y.natAbs := by omega
  refine ⟨?_, ?_, ?_⟩
  · unfold mE zE cutE
    rw [e]
    by_cases h : Big ≤ x.natAbs ∨ Big ≤ y.natAbs
    · rw [if_pos h, if_pos]
      rcases h with h | h
      · exact Nat.le_trans h (Nat.le_mul_of_pos_right _ hy1)
      · exact Nat.le_trans h (Nat.le_mul_of_pos_left _ hx1)
    · rw [if_neg h]
  · rw [← cutN_zN, e]
    unfold mN cutN
    by_cases h : Big ≤ x.natAbs ∨ Big ≤ y.natAbs
    · rw [if_pos h, if_pos]
      rcases h with h | h
      · exact Nat.le_trans h (Nat.le_mul_of_pos_right _ hy1)
      · exact Nat.le_trans h (Nat.le_mul_of_pos_left _ hx1)
    · rw [if_neg h]
  · rw [mul_sg x y, sgn_sg (Nat.mul_pos hx1 hy1)]; cases sgn x <;> cases sgn y <;> rfl
theorem z_zero : zE 0 = 0 ∧ zN 0 = 0 := by
  have h := z_fine (z := 0) (by have := pow_pos' maxL; show 0 < Big; exact this)
  exact ⟨h.2, h.1⟩
theorem zE_or (z : Int) : zE z = 5 ∧ zN z = 0 ∨ zE z = 0 ∧ zN z = z := by
  by_cases h : Big ≤ z.natAbs
  · exact .inl ⟨(z_big h).2, (z_big h).1⟩
  · exact .inr ⟨(z_fine (by omega)).2, (z_fine (by omega)).1⟩

theorem natList_at {W : World} {g : Nat} {v1 v2 : Value} {xs ys : List Nat} (hg : W.heap[g]? = some (.cells #[v1, v2] 23 (0, 0))) (h1 : Sl W .u64 v1 xs) (h2 : Sl W .u64 v2 ys) : NatList W (.slice (some ⟨g, 0, none⟩) 2 2) [xs, ys] := by
  have hlt := (Array.getElem?_eq_some_iff.1 hg).1
  obtain ⟨a1, c1, rfl⟩ := h1.shape
  obtain ⟨a2, c2, rfl⟩ := h2.shape
  refine ⟨_, _, rfl, by simp, by unfold maxLen; omega, by simp, fun e => by simp at e, fun _ => ⟨_, _, rfl, hlt, fun j hj => ?_⟩⟩
  match j, hj with
  | 0, _ => exact ⟨_, by rw [Nat.zero_add, cell_of_row _ _ _ _ _ (0, 0) hg]; rfl, h1⟩
  | 1, _ => exact ⟨_, by rw [cell_of_row _ _ _ _ _ (0, 0) hg]; rfl, h2⟩
theorem mul2_at {W : World} {g : Nat} {v1 v2 : Value} {m n : Nat} (hg : W.heap[g]? = some (.cells #[v1, v2] 23 (0, 0))) (h1 : Nm W v1 m) (h2 : Nm W v2 n) :
    Calls Tryz.prog 37 #[.slice (some ⟨g, 0, none⟩) 2 2] W fun e w' => ∃ v', e = .returned (.tuple #[v', .int .i64 (mE m n)]) ∧ Num w' v' (mN m n) ∧ Below W.heap.size W w' := by
  obtain ⟨xs, s1, l1, rfl⟩ := h1
  obtain ⟨ys, s2, l2, rfl⟩ := h2
  refine (mul_any _ _ _ (natList_at hg s1 s2) (pair_lim l1 l2)).mono ?_
  rintro e w' ⟨v', h1, h2, h3⟩
  rw [(mul2_N xs ys).1] at h2
  rw [(mul2_N xs ys).2] at h1
  exact ⟨v', h1, h2, h3⟩

set_option maxHeartbeats 16000000 in
set_option maxRecDepth 100000 in
theorem mulI_any (va vb : Value) (x y : Int) (w : World) (ha : IntV w va x) (hb : IntV w vb y) : Calls Tryz.prog 11 #[va, vb] w fun e w' => ∃ v', e = .returned (.tuple #[v', .int .i64 (zE (x * y))]) ∧ IntK w' v' (zN (x * y)) ∧ Below w.heap.size w w' := by
  obtain ⟨n1, a1, k1, c1, t1, rfl, N1', R1⟩ := ha.rd
  obtain ⟨n2, a2, k2, c2, t2, rfl, N2', R2⟩ := hb.rd
  have N1 := Lib.hid N1'; have N2 := Lib.hid N2'
  clear ha hb N1' N2'
  go_enter Tryz.func11, Tryz.ntmps11
  go_wp2
  obtain ⟨W, eW, h1, h2, h3, bel, hsz⟩ := alloc3 w (Obj.cells #[Value.bool n1, Value.slice a1 k1 c1] 25) (Obj.cells #[Value.bool n2, Value.slice a2 k2 c2] 25) (Obj.cells #[Value.bool false, Value.slice none 0 0] 25)
  rw [eW]
  obtain ⟨p0, p1, f0, f1, _⟩ := blk2 h1
  obtain ⟨q0, q1, r0, r1, _⟩ := blk2 h2
  have H3 := Lib.hid h3; have HSZ := Lib.hid hsz
  clear eW h1 h2 h3
  have STAY : Hid (∀ w', Below W.heap.size W w' → w'.cell? ⟨w.heap.size, 0, none⟩ = some (.bool n1) ∧ w'.cell? ⟨w.heap.size, 1, none⟩ = some (.slice a1 k1 c1) ∧ w'.cell? ⟨w.heap.size + 1, 0, none⟩ = some (.bool n2) ∧ w'.cell? ⟨w.heap.size + 1, 1, none⟩ = some (.slice a2 k2 c2) ∧ Below W.heap.size W w' ∧ W.heap.size ≤ w'.heap.size) :=
    Lib.hid (fun w' h => ⟨cell_to h p0 (by omega), cell_to h p1 (by omega), cell_to h q0 (by omega), cell_to h q1 (by omega), h, h.size⟩)
  have R1' : Hid (∀ v w1, v = .agg #[.bool n1, .slice a1 k1 c1] → Below W.heap.size W w1 → Calls Tryz.prog 22 #[v] w1 fun e w' => e = .returned (.agg #[.slice a1 t1 c1, .bool (sgn x)]) ∧ Below w1.heap.size w1 w' ∧ w'.heap.size = w1.heap.size + 3) := Lib.hid (fun v w1 e h => by subst e; exact R1 w1 (below_of bel h))
  have R2' : Hid (∀ v w1, v = .agg #[.bool n2, .slice a2 k2 c2] → Below W.heap.size W w1 → Calls Tryz.prog 22 #[v] w1 fun e w' => e = .returned (.agg #[.slice a2 t2 c2, .bool (sgn y)]) ∧ Below w1.heap.size w1 w' ∧ w'.heap.size = w1.heap.size + 3) := Lib.hid (fun v w1 e h => by subst e; exact R2 w1 (below_of bel h))
  have hB0 := (Below.refl W.heap.size W).drew
  clear R1 R2
  go_cut [6, 7] (fun s5 s6 wx => Rd2 W wx s5 s6 (.agg #[.slice a1 t1 c1, .bool (sgn x)]) (.agg #[.slice a2 t2 c2, .bool (sgn y)]))
  case first =>
    clear p0 p1 q0 q1 f0 f1 r0 r1 hsz
    go_region_held3 (fun w' => w'.cell? ⟨w.heap.size, 0, none⟩ = some (.bool n1) ∧ w'.cell? ⟨w.heap.size, 1, none⟩ = some (.slice a1 k1 c1) ∧ w'.cell? ⟨w.heap.size + 1, 0, none⟩ = some (.bool n2) ∧ w'.cell? ⟨w.heap.size + 1, 1, none⟩ = some (.slice a2 k2 c2) ∧ Below W.heap.size W w' ∧ W.heap.size ≤ w'.heap.size)
      ((try go_split_ands; refine STAY.out _ ?_; first | assumption | exact below_to (by assumption) (by assumption) | exact Below.alloc (by assumption) (by first | omega | (simp; done) | (simp; omega)) _ | exact Below.alloc (Below.alloc (by assumption) (by first | omega | (simp; done) | (simp; omega)) _) (by first | omega | (simp; done) | (simp; omega)) _ | exact Below.setCell (Below.setCell (by assumption) (by first | omega | (simp; done) | (simp; omega)) _) (by first | omega | (simp; done) | (simp; omega)) _ | exact Below.alloc (Below.setCell (Below.setCell (by assumption) (by first | omega | (simp; done) | (simp; omega)) _) (by first | omega | (simp; done) | (simp; omega)) _) (by first | omega | (simp; done) | (simp; omega)) _ | exact Below.setCell (Below.setCell (Below.setCell (Below.setCell (by assumption) (by first | omega | (simp; done) | (simp; omega)) _) (by first | omega | (simp; done) | (simp; omega)) _) (by first | omega | (simp; done) | (simp; omega)) _) (by first | omega | (simp; done) | (simp; omega)) _))
      (first
      | (go_at_call 22; go_split_ands; first | (refine Calls.mono (R1'.out _ _ ?_ (by assumption)) ?_; (exact rfl); rintro e w1 ⟨rfl, hbx1, hs1⟩; have hk1 := below_to hbx1 (by assumption); obtain ⟨hc1, hf1⟩ := bcell hbx1; (try simp at hs1)) | (refine Calls.mono (R2'.out _ _ ?_ (by assumption)) ?_; (exact rfl); rintro e w2 ⟨rfl, hbx2, hs2⟩; have hk2 := below_to hbx2 (by assumption); obtain ⟨hc2, hf2⟩ := bcell hbx2; (try simp at hs2); (try simp only [hs1] at hs2))))
    all_goals
      (go_wp2_with fail
       go_meet
       clear hc1 hf1 hc2 hf2
       refine ⟨_, _, _, _, _, _, rfl, rfl, rfl, rfl, ?_, ?_, ?_, ?_, by first | assumption | (go_split_ands; assumption)⟩)
    all_goals
      repeat (first
       | ((with_reducible refine ch_new ?_ ?_); (first | omega | (simp only [sz_alloc, sz_set, sz_drew]; omega) | (focus (simp only [sz_alloc, sz_set, sz_drew]; done))); exact rfl)
       | ((with_reducible refine ch_lt ?_ ?_); (first | omega | (simp only [sz_alloc, sz_set, sz_drew]; omega) | (focus (simp only [sz_alloc, sz_set, sz_drew]; done))))
       | (with_reducible refine ch_same ?_)
       | ((with_reducible refine ch_set ?_ ?_); (first | (right; decide) | (left; (first | omega | (simp only [sz_alloc, sz_set, sz_drew]; omega) | (focus (simp only [sz_alloc, sz_set, sz_drew]; done))))))
       | ((with_reducible refine ch_below hbx2 ?_ ?_); (first | omega | (simp only [sz_alloc, sz_set, sz_drew]; omega) | (focus (simp only [sz_alloc, sz_set, sz_drew]; done))))
       | ((with_reducible refine ch_below hbx1 ?_ ?_); (first | omega | (simp only [sz_alloc, sz_set, sz_drew]; omega) | (focus (simp only [sz_alloc, sz_set, sz_drew]; done))))
       | (with_reducible refine ch_drew ?_)
       | ((with_reducible refine is_new ?_ ?_); (first | omega | (simp only [sz_alloc, sz_set, sz_drew]; omega) | (focus (simp only [sz_alloc, sz_set, sz_drew]; done))); (simp; done))
       | ((with_reducible refine is_lt ?_ ?_); (first | omega | (simp only [sz_alloc, sz_set, sz_drew]; omega) | (focus (simp only [sz_alloc, sz_set, sz_drew]; done))))
       | (with_reducible refine is_set ?_)
       | ((with_reducible refine is_below hbx2 ?_ ?_); (first | omega | (simp only [sz_alloc, sz_set, sz_drew]; omega) | (focus (simp only [sz_alloc, sz_set, sz_drew]; done))))
       | ((with_reducible refine is_below hbx1 ?_ ?_); (first | omega | (simp only [sz_alloc, sz_set, sz_drew]; omega) | (focus (simp only [sz_alloc, sz_set, sz_drew]; done))))
       | (with_reducible refine is_drew ?_))
  case rest =>
    obtain ⟨g1, g2, x1, y1, x2, y2, rfl, rfl, e1, e2, p0, p1, q0, q1, hBW⟩ := hcut
    simp only [Value.agg.injEq, Array.mk.injEq, List.cons.injEq, and_true] at e1 e2
    obtain ⟨rfl, rfl⟩ := e1
    obtain ⟨rfl, rfl⟩ := e2
    have hB := below_of bel hBW
    obtain ⟨_, T1, M1'⟩ := (N1.out.below hB).parts
    obtain ⟨_, T2, M2'⟩ := (N2.out.below hB).parts
    have M1 := Lib.hid M1'; have M2 := Lib.hid M2'
    have hR := (hBW.block _ HSZ.out).trans H3.out
    have hR' : _[w.heap.size + 1 + 1]? = _ := hR
    obtain ⟨k0, k1, f0, f1, hlt⟩ := blk2 hR
    obtain ⟨k0', k1', f0', f1', _⟩ := blk2 hR'
    have HR := Lib.hid hR
    have HB := Lib.hid hB
    clear hB hBW N1 N2 STAY R1' R2' hB0 M1' M2' hR hR' H3 HSZ
    have HL2 : w.heap.size ≤ w.heap.size + 1 + 1 := by omega
    by_cases hx : x = 0
    · have hd : ((t1 : Int) == 0) = true := by rw [T1.2 hx]; rfl
      have E : Hid (zE (x * y) = 0 ∧ zN (x * y) = 0) := Lib.hid (by rw [hx, Int.zero_mul]; exact z_zero)
      clear hx T1 T2
      go_wp2_with (go_at_call 36; refine (zero_is _ _ _ _).mono ?_; rintro e w' ⟨rfl, rfl⟩)
      rw [E.out.1, E.out.2]
      refine bodyPost_ret (v := .tuple #[.agg #[.bool false, .slice none 0 0], .int .i64 0]) ?_ rfl ⟨_, rfl, intk_zero _, (HB.out.setCell (p := ⟨w.heap.size + 1 + 1, 0, none⟩) HL2 _).setCell (p := ⟨w.heap.size + 1 + 1, 1, none⟩) HL2 _⟩
      simp [results, Tryz.results11, go_sem, *]
    · have hd : ((t1 : Int) == 0) = false := by rw [beq_eq_false_iff_ne]; intro e; exact hx (T1.1 (by omega))
      by_cases hy : y = 0
      · have hd2 : ((t2 : Int) == 0) = true := by rw [T2.2 hy]; rfl
        have E : Hid (zE (x * y) = 0 ∧ zN (x * y) = 0) := Lib.hid (by rw [hy, Int.mul_zero]; exact z_zero)
        clear hx hy T1 T2
        go_wp2_with (go_at_call 36; refine (zero_is _ _ _ _).mono ?_; rintro e w' ⟨rfl, rfl⟩)
        rw [E.out.1, E.out.2]
        refine bodyPost_ret (v := .tuple #[.agg #[.bool false, .slice none 0 0], .int .i64 0]) ?_ rfl ⟨_, rfl, intk_zero _, (HB.out.setCell (p := ⟨w.heap.size + 1 + 1, 0, none⟩) HL2 _).setCell (p := ⟨w.heap.size + 1 + 1, 1, none⟩) HL2 _⟩
        simp [results, Tryz.results11, go_sem, *]
      · have hd2 : ((t2 : Int) == 0) = false := by rw [beq_eq_false_iff_ne]; intro e; exact hy (T2.1 (by omega))
        obtain ⟨E1a, E2a, E3a⟩ := mul_zE hx hy
        have E1 := Lib.hid E1a; have E2 := Lib.hid E2a; have E3 := Lib.hid E3a
        clear hx hy T1 T2 E1a E2a E3a
        go_wp2_with (go_at_call 36; refine (zero_is _ _ _ _).mono ?_; rintro e w' ⟨rfl, rfl⟩)
        obtain ⟨wo, rfl⟩ : ∃ wo : World, wo = wc := ⟨_, rfl⟩
        have STAY2 : Hid (∀ w', Below wo.heap.size wo w' → w'.cell? ⟨g1, 0, none⟩ = some (.slice a1 t1 c1) ∧ w'.cell? ⟨g2, 0, none⟩ = some (.slice a2 t2 c2) ∧ Below wo.heap.size wo w') :=
          Lib.hid (fun w' h => ⟨cell_to h p0 (World.block_lt_of_cell? wo _ p0), cell_to h q0 (World.block_lt_of_cell? wo _ q0), h⟩)
        have P1 := Lib.hid p1; have Q1 := Lib.hid q1
        have hB0 := (Below.refl wo.heap.size wo).drew
        go_cut [8, 9] (fun s8 s9 wy => s9 = .int .i64 (zE (x * y)) ∧ Num wy s8 (zN (x * y)).natAbs ∧ Below wo.heap.size wo wy)
        case first =>
          clear k0 k1 f0 f1 k0' k1' f0' f1' p1 q1 HR HB
          go_region_held3 (fun w' => w'.cell? ⟨g1, 0, none⟩ = some (.slice a1 t1 c1) ∧ w'.cell? ⟨g2, 0, none⟩ = some (.slice a2 t2 c2) ∧ Below wo.heap.size wo w')
            ((try go_split_ands; refine STAY2.out _ ?_; first | assumption | exact below_to (by assumption) (by assumption) | exact Below.alloc (by assumption) (by first | omega | (simp; done) | (simp; omega)) _ | exact Below.alloc (Below.drew (by assumption)) (by first | omega | (simp; done) | (simp; omega)) _ | exact Below.drew (Below.alloc (by assumption) (by first | omega | (simp; done) | (simp; omega)) _)))
            (first
            | (go_at_call 38; refine (limbs_is _ _ _ _).mono ?_; rintro e w' ⟨rfl, rfl⟩)
            | (go_at_call 37; go_split_ands; refine Calls.mono (mul2_at (m := x.natAbs) (n := y.natAbs) (v1 := .slice a1 t1 c1) (v2 := .slice a2 t2 c2) ?_ ?_ ?_) ?_; (exact heap_alloc_new _ _); (exact M1.out.nm.below (by assumption)); (exact M2.out.nm.below (by assumption)); rintro e w5 ⟨v5, rfl, hn5, hb5⟩; obtain ⟨a5, k5, c5, rfl⟩ := hn5.nm.shape))
          go_wp2_with fail
          rw [E1.out]
          rw [E2.out] at hn5
          go_meet
          exact ⟨rfl, hn5, by first | assumption | (go_split_ands; assumption) | exact below_to (by assumption) (by assumption)⟩
        case rest =>
          obtain ⟨rfl, hn, hBy⟩ := hcut
          obtain ⟨a5, k5, c5, rfl⟩ := hn.nm.shape
          have u1 := cell_to hBy P1.out (World.block_lt_of_cell? wo _ P1.out)
          have u2 := cell_to hBy Q1.out (World.block_lt_of_cell? wo _ Q1.out)
          have hR := (hBy.block _ hlt).trans HR.out
          have hR' : wc.heap[w.heap.size + 1 + 1]? = _ := hR
          clear k0 k1 f0 f1 k0' k1' f0' f1' p0 p1 q0 q1
          obtain ⟨k0, k1, f0, f1, _⟩ := blk2 hR
          obtain ⟨k0', k1', f0', f1', _⟩ := blk2 hR'
          have HRY := Lib.hid hR
          have BY := Lib.hid (below_of HB.out hBy)
          have HN := Lib.hid hn
          clear hR hR' hBy hn hB0
          rcases zE_or (x * y) with ⟨z1, z2⟩ | ⟨z1, z2⟩
          · have Z := Lib.hid z2; have Y := Lib.hid z1
            rw [z1]
            clear z1 z2
            go_wp2
            refine bodyPost_ret (v := .tuple #[.agg #[.bool false, .slice none 0 0], .int .i64 5]) ?_ rfl ⟨_, by rw [Y.out], by rw [Z.out]; exact intk_zero _, (BY.out.setCell (p := ⟨w.heap.size + 1 + 1, 0, none⟩) HL2 _).setCell (p := ⟨w.heap.size + 1 + 1, 1, none⟩) HL2 _⟩
            simp [results, Tryz.results11, go_sem, *]
          · have Z := Lib.hid z2
            rw [z2] at HN
            have Y := Lib.hid z1
            rw [z1]
            clear z1 z2
            go_wp2
            have K : IntK wc (.agg #[.bool (!(sgn x == sgn y)), .slice a5 k5 c5]) (x * y) := ⟨_, by rw [E3.out], HN.out⟩
            refine bodyPost_ret (v := .tuple #[.agg #[.bool (!(sgn x == sgn y)), .slice a5 k5 c5], .int .i64 0]) ?_ rfl ⟨_, by rw [Y.out], by rw [Z.out]; exact K.far HRY.out, (BY.out.setCell (p := ⟨w.heap.size + 1 + 1, 0, none⟩) HL2 _).setCell (p := ⟨w.heap.size + 1 + 1, 1, none⟩) HL2 _⟩
            simp [results, Tryz.results11, go_sem, *]
end Go.Proofs.YtfdilnfmcpbkgaaGreatDoor
