/- ZC ZD ZQ ZQZ ZS ZT ZUA. -/
import Derived.Test.YtehdfkafdpfdnaaGreatDoorUZ3
import Derived.Test.YtehdfkafdpfdnaaGreatDoorUY1
set_option linter.unusedVariables false
set_option linter.unusedSimpArgs false
/- Package whole: Cmp. -/
namespace Go.Proofs.YtehdfkafdpfdnaaGreatDoor
open Go.RowKit Mth

/-- a cell, step by step back through what was done -/
theorem ch_new {w : World} {cs : Array Value} {T : TypeId} {g j : Nat} {v : Value} (hg : g = w.heap.size) (hv : cs[j]? = some v) : (w.alloc (.cells cs T)).cell? ⟨g, j, none⟩ = some v := by
  subst hg
  have h := heap_alloc_new w (Obj.cells cs T)
  rw [cell_of_row _ _ _ _ _ (0, 0) h]; exact hv
theorem ch_lt {w : World} {o : Obj} {g j : Nat} {v : Value} (hg : g < w.heap.size) (h : w.cell? ⟨g, j, none⟩ = some v) : (w.alloc o).cell? ⟨g, j, none⟩ = some v := cell_new h hg
theorem ch_set {w : World} {g g' i j : Nat} {v x : Value} (hne : g ≠ g' ∨ i ≠ j) (h : w.cell? ⟨g, j, none⟩ = some v) : (w.setCell ⟨g', i, none⟩ x).cell? ⟨g, j, none⟩ = some v :=
  (World.cell?_setCell_other (w := w) (a := ⟨g', i, none⟩) (b := ⟨g, j, none⟩) (v := x) (fun e => by
    simp only [Addr.mk.injEq] at e
    rcases hne with h | h
    · exact h e.1.symm
    · exact h e.2.1)).trans h
theorem ch_same {w : World} {g j : Nat} {v : Value} (h : (w.cell? ⟨g, j, none⟩).isSome = true) : (w.setCell ⟨g, j, none⟩ v).cell? ⟨g, j, none⟩ = some v := World.cell?_setCell_same' _ _ _ h
theorem ch_below {w w' : World} {B g j : Nat} {v : Value} (hb : Below B w w') (hg : g < B) (h : w.cell? ⟨g, j, none⟩ = some v) : w'.cell? ⟨g, j, none⟩ = some v := (hb.cell (p := ⟨g, j, none⟩) hg).trans h
theorem ch_drew {w : World} {g j : Nat} {v : Value} (h : w.cell? ⟨g, j, none⟩ = some v) : w.drew.cell? ⟨g, j, none⟩ = some v := h
theorem is_of {w : World} {g j : Nat} (h : (w.cell? ⟨g, j, none⟩).isSome = true) : ∃ v, w.cell? ⟨g, j, none⟩ = some v := Option.isSome_iff_exists.1 h
theorem is_to {w : World} {g j : Nat} {v : Value} (h : w.cell? ⟨g, j, none⟩ = some v) : (w.cell? ⟨g, j, none⟩).isSome = true := by rw [h]; rfl
theorem is_new {w : World} {cs : Array Value} {T : TypeId} {g j : Nat} (hg : g = w.heap.size) (hv : j < cs.size) : ((w.alloc (.cells cs T)).cell? ⟨g, j, none⟩).isSome = true := is_to (ch_new hg (Array.getElem?_eq_getElem hv))
theorem is_lt {w : World} {o : Obj} {g j : Nat} (hg : g < w.heap.size) (h : (w.cell? ⟨g, j, none⟩).isSome = true) : ((w.alloc o).cell? ⟨g, j, none⟩).isSome = true := by
  obtain ⟨v, h⟩ := is_of h; exact is_to (ch_lt hg h)
theorem is_set {w : World} {g g' i j : Nat} {x : Value} (h : (w.cell? ⟨g, j, none⟩).isSome = true) : ((w.setCell ⟨g', i, none⟩ x).cell? ⟨g, j, none⟩).isSome = true := by
  obtain ⟨v, h⟩ := is_of h
  by_cases hne : g ≠ g' ∨ i ≠ j
  · exact is_to (ch_set hne h)
  · obtain ⟨rfl, rfl⟩ : g = g' ∧ i = j := by omega
    exact is_to (ch_same (is_to h))
theorem is_below {w w' : World} {B g j : Nat} (hb : Below B w w') (hg : g < B) (h : (w.cell? ⟨g, j, none⟩).isSome = true) : (w'.cell? ⟨g, j, none⟩).isSome = true := by
  obtain ⟨v, h⟩ := is_of h; exact is_to (ch_below hb hg h)
theorem is_drew {w : World} {g j : Nat} (h : (w.cell? ⟨g, j, none⟩).isSome = true) : (w.drew.cell? ⟨g, j, none⟩).isSome = true := h
theorem sz_alloc (w : World) (o : Obj) : (w.alloc o).heap.size = w.heap.size + 1 := by simp
theorem sz_set (w : World) (p : Addr) (v : Value) : (w.setCell p v).heap.size = w.heap.size := by simp
theorem sz_drew (w : World) : w.drew.heap.size = w.heap.size := rfl

/-- two numbers that have been read, in two new variables -/
def Rd2 (w wx : World) (s1 s2 v1 v2 : Value) : Prop := ∃ g1 g2 x1 y1 x2 y2, s1 = .pointer (some ⟨g1, 0, none⟩) ∧ s2 = .pointer (some ⟨g2, 0, none⟩) ∧ v1 = .agg #[x1, y1] ∧ v2 = .agg #[x2, y2] ∧
  wx.cell? ⟨g1, 0, none⟩ = some x1 ∧ wx.cell? ⟨g1, 1, none⟩ = some y1 ∧ wx.cell? ⟨g2, 0, none⟩ = some x2 ∧ wx.cell? ⟨g2, 1, none⟩ = some y2 ∧ Below w.heap.size w wx
set_option maxHeartbeats 16000000 in
set_option maxRecDepth 100000 in
theorem cmpI_any (va vb : Value) (x y : Int) (w : World) (ha : IntV w va x) (hb : IntV w vb y) : Calls Tryz.prog 48 #[va, vb] w fun e w' => e = .returned (.int .i64 (zcmp x y)) ∧ Below w.heap.size w w' := by
  obtain ⟨n1, a1, k1, c1, t1, rfl, N1', R1⟩ := ha.rd
  obtain ⟨n2, a2, k2, c2, t2, rfl, N2', R2⟩ := hb.rd
  have N1 := Lib.hid N1'; have N2 := Lib.hid N2'
  clear ha hb N1' N2'
  go_enter Tryz.func48, Tryz.ntmps48
  go_wp2
  obtain ⟨W, eW, h1, h2, bel, hsz⟩ := alloc2 w (Obj.cells #[Value.bool n1, Value.slice a1 k1 c1] 37) (Obj.cells #[Value.bool n2, Value.slice a2 k2 c2] 37)
  rw [eW]
  obtain ⟨p0, p1, f0, f1, _⟩ := blk2 h1
  obtain ⟨q0, q1, r0, r1, _⟩ := blk2 h2
  clear eW h1 h2
  have STAY : Hid (∀ w', Below W.heap.size W w' → w'.cell? ⟨w.heap.size, 0, none⟩ = some (.bool n1) ∧ w'.cell? ⟨w.heap.size, 1, none⟩ = some (.slice a1 k1 c1) ∧ w'.cell? ⟨w.heap.size + 1, 0, none⟩ = some (.bool n2) ∧ w'.cell? ⟨w.heap.size + 1, 1, none⟩ = some (.slice a2 k2 c2) ∧ Below W.heap.size W w' ∧ W.heap.size ≤ w'.heap.size) :=
    Lib.hid (fun w' h => ⟨cell_to h p0 (by omega), cell_to h p1 (by omega), cell_to h q0 (by omega), cell_to h q1 (by omega), h, h.size⟩)
  have R1' : Hid (∀ v w1, v = .agg #[.bool n1, .slice a1 k1 c1] → Below W.heap.size W w1 → Calls Tryz.prog 53 #[v] w1 fun e w' => e = .returned (.agg #[.slice a1 t1 c1, .bool (sgn x)]) ∧ Below w1.heap.size w1 w' ∧ w'.heap.size = w1.heap.size + 3) := Lib.hid (fun v w1 e h => by subst e; exact R1 w1 (below_of bel h))
  have R2' : Hid (∀ v w1, v = .agg #[.bool n2, .slice a2 k2 c2] → Below W.heap.size W w1 → Calls Tryz.prog 53 #[v] w1 fun e w' => e = .returned (.agg #[.slice a2 t2 c2, .bool (sgn y)]) ∧ Below w1.heap.size w1 w' ∧ w'.heap.size = w1.heap.size + 3) := Lib.hid (fun v w1 e h => by subst e; exact R2 w1 (below_of bel h))
  have hB0 := (Below.refl W.heap.size W).drew
  clear R1 R2
  go_cut [5, 6] (fun s5 s6 wx => Rd2 W wx s5 s6 (.agg #[.slice a1 t1 c1, .bool (sgn x)]) (.agg #[.slice a2 t2 c2, .bool (sgn y)]))
  case first =>
    clear p0 p1 q0 q1 f0 f1 r0 r1 hsz
    go_region_held3 (fun w' => w'.cell? ⟨w.heap.size, 0, none⟩ = some (.bool n1) ∧ w'.cell? ⟨w.heap.size, 1, none⟩ = some (.slice a1 k1 c1) ∧ w'.cell? ⟨w.heap.size + 1, 0, none⟩ = some (.bool n2) ∧ w'.cell? ⟨w.heap.size + 1, 1, none⟩ = some (.slice a2 k2 c2) ∧ Below W.heap.size W w' ∧ W.heap.size ≤ w'.heap.size)
      ((try go_split_ands; refine STAY.out _ ?_; first | assumption | exact below_to (by assumption) (by assumption) | exact Below.alloc (by assumption) (by first | omega | (simp; done) | (simp; omega)) _ | exact Below.alloc (Below.alloc (by assumption) (by first | omega | (simp; done) | (simp; omega)) _) (by first | omega | (simp; done) | (simp; omega)) _ | exact Below.setCell (Below.setCell (by assumption) (by first | omega | (simp; done) | (simp; omega)) _) (by first | omega | (simp; done) | (simp; omega)) _ | exact Below.alloc (Below.setCell (Below.setCell (by assumption) (by first | omega | (simp; done) | (simp; omega)) _) (by first | omega | (simp; done) | (simp; omega)) _) (by first | omega | (simp; done) | (simp; omega)) _ | exact Below.setCell (Below.setCell (Below.setCell (Below.setCell (by assumption) (by first | omega | (simp; done) | (simp; omega)) _) (by first | omega | (simp; done) | (simp; omega)) _) (by first | omega | (simp; done) | (simp; omega)) _) (by first | omega | (simp; done) | (simp; omega)) _))
      (first
      | (go_at_call 53; go_split_ands; first | (refine Calls.mono (R1'.out _ _ ?_ (by assumption)) ?_; (exact rfl); rintro e w1 ⟨rfl, hbx1, hs1⟩; have hk1 := below_to hbx1 (by assumption); obtain ⟨hc1, hf1⟩ := bcell hbx1; (try simp at hs1)) | (refine Calls.mono (R2'.out _ _ ?_ (by assumption)) ?_; (exact rfl); rintro e w2 ⟨rfl, hbx2, hs2⟩; have hk2 := below_to hbx2 (by assumption); obtain ⟨hc2, hf2⟩ := bcell hbx2; (try simp at hs2); (try simp only [hs1] at hs2))))
    all_goals
      (go_wp2_with fail
       go_meet
       clear hc1 hf1 hc2 hf2
       refine ⟨_, _, _, _, _, _, rfl, rfl, rfl, rfl, ?_, ?_, ?_, ?_, by first | assumption | (go_split_ands; assumption)⟩)
    all_goals
      repeat (first
       | ((with_reducible refine ch_new ?_ ?_); (first | omega | (simp only [sz_alloc, sz_set, sz_drew]; omega) | (focus (simp only [sz_alloc, sz_set, sz_drew]; done))); exact rfl)
       | ((with_reducible refine ch_lt ?_ ?_); (first | omega | (simp only [sz_alloc, sz_set, sz_drew]; omega) | (focus (simp only [sz_alloc, sz_set, sz_drew]; done))))
       | (with_reducible refine ch_same ?_)
       | ((with_reducible refine ch_set ?_ ?_); (first | (right; decide) | (left; (first | omega | (simp only [sz_alloc, sz_set, sz_drew]; omega) | (focus (simp only [sz_alloc, sz_set, sz_drew]; done))))))
       | ((with_reducible refine ch_below hbx2 ?_ ?_); (first | omega | (simp only [sz_alloc, sz_set, sz_drew]; omega) | (focus (simp only [sz_alloc, sz_set, sz_drew]; done))))
       | ((with_reducible refine ch_below hbx1 ?_ ?_); (first | omega | (simp only [sz_alloc, sz_set, sz_drew]; omega) | (focus (simp only [sz_alloc, sz_set, sz_drew]; done))))
       | (with_reducible refine ch_drew ?_)
       | ((with_reducible refine is_new ?_ ?_); (first | omega | (simp only [sz_alloc, sz_set, sz_drew]; omega) | (focus (simp only [sz_alloc, sz_set, sz_drew]; done))); (simp; done))
       | ((with_reducible refine is_lt ?_ ?_); (first | omega | (simp only [sz_alloc, sz_set, sz_drew]; omega) | (focus (simp only [sz_alloc, sz_set, sz_drew]; done))))
       | (with_reducible refine is_set ?_)
       | ((with_reducible refine is_below hbx2 ?_ ?_); (first | omega | (simp only [sz_alloc, sz_set, sz_drew]; omega) | (focus (simp only [sz_alloc, sz_set, sz_drew]; done))))
       | ((with_reducible refine is_below hbx1 ?_ ?_); (first | omega | (simp only [sz_alloc, sz_set, sz_drew]; omega) | (focus (simp only [sz_alloc, sz_set, sz_drew]; done))))
       | (with_reducible refine is_drew ?_))
  case rest =>
    obtain ⟨g1, g2, x1, y1, x2, y2, rfl, rfl, e1, e2, p0, p1, q0, q1, hBW⟩ := hcut
    have hB := below_of bel hBW
    clear hBW
    simp only [Value.agg.injEq, Array.mk.injEq, List.cons.injEq, and_true] at e1 e2
    obtain ⟨rfl, rfl⟩ := e1
    obtain ⟨rfl, rfl⟩ := e2
    have M1 := Lib.hid (N1.out.below hB).parts.2.2
    have M2 := Lib.hid (N2.out.below hB).parts.2.2
    have HB := Lib.hid hB
    clear hB N1 N2 STAY R1' R2' hB0
    cases hx : sgn x
    · cases hy : sgn y
      · have C := Lib.hid (zcmp_abs_pos (of_sgn_false hx) (of_sgn_false hy))
        rw [hx] at p1; rw [hy] at q1
        clear hx hy
        go_wp2_with fail
        refine (wcmp_any _ _ _ _ _ M1.out M2.out _ C.out.symm).mono ?_
        rintro e w3 ⟨rfl, hb3⟩
        go_wp2
        go_ret
        exact ⟨rfl, below_of HB.out hb3⟩
      · have C := Lib.hid (zcmp_gt (a := x) (b := y) (by have := of_sgn_false hx; have := of_sgn_true hy; omega))
        rw [hx] at p1; rw [hy] at q1
        clear hx hy
        go_wp2
        go_ret
        exact ⟨by rw [C.out]; rfl, HB.out⟩
    · cases hy : sgn y
      · have C := Lib.hid (zcmp_lt (a := x) (b := y) (by have := of_sgn_true hx; have := of_sgn_false hy; omega))
        rw [hx] at p1; rw [hy] at q1
        clear hx hy
        go_wp2
        go_ret
        exact ⟨by rw [C.out]; rfl, HB.out⟩
      · have C := Lib.hid (zcmp_abs_neg (of_sgn_true hx) (of_sgn_true hy))
        rw [hx] at p1; rw [hy] at q1
        clear hx hy
        go_wp2_with fail
        refine (wcmp_any _ _ _ _ _ M2.out M1.out _ C.out.symm).mono ?_
        rintro e w3 ⟨rfl, hb3⟩
        go_wp2
        go_ret
        exact ⟨rfl, below_of HB.out hb3⟩
end Go.Proofs.YtehdfkafdpfdnaaGreatDoor

/- Package whole: Mul. -/
namespace Go.Proofs.YtehdfkafdpfdnaaGreatDoor
open Go.RowKit Mth

end Go.Proofs.YtehdfkafdpfdnaaGreatDoor

/- Package whole: a division's block; DivMod where nothing is long. -/
namespace Go.Proofs.YtehdfkafdpfdnaaGreatDoor
open Go.RowKit Mth

theorem NuC.away {w : World} {base R j : Nat} {v x : Value} {z : Int} {cs : Array Value} {T : TypeId} (h : NuC w base v z) (hR : w.heap[R]? = some (.cells cs T (0, 0))) (hT : T ≠ 55) : NuC (w.setCell ⟨R, j, none⟩ x) base v z := by
  obtain ⟨u, h0, h1⟩ := h; exact ⟨u, h0, h1.away hR hT⟩
end Go.Proofs.YtehdfkafdpfdnaaGreatDoor

/- Package whole: DivMod by nought. -/
namespace Go.Proofs.YtehdfkafdpfdnaaGreatDoor
open Go.RowKit Mth

end Go.Proofs.YtehdfkafdpfdnaaGreatDoor

/- Package whole: Abs, Sum. -/
namespace Go.Proofs.YtehdfkafdpfdnaaGreatDoor
open Go.RowKit Mth

end Go.Proofs.YtehdfkafdpfdnaaGreatDoor

/- Package whole: Sum. -/
namespace Go.Proofs.YtehdfkafdpfdnaaGreatDoor
open Go.RowKit Mth

theorem blk_below' {w w' : World} {g : Nat} {x : Obj} (hb : Below w.heap.size w w') (h : w.heap[g]? = some x) : w'.heap[g]? = some x := (hb.block g (Array.getElem?_eq_some_iff.1 h).1).trans h
theorem TalO.below {w w' : World} {base g m P N : Nat} (h : TalO w base g m P N) (hb : Below w.heap.size w w') : TalO w' base g m P N := by
  obtain ⟨u, d, xs, ys, h1, h2, h3, h4⟩ := h
  exact ⟨u, d, xs, ys, blk_below' hb h1, own_other h2 (grown_of_below hb none) (fun _ _ e => by cases e), own_other h3 (grown_of_below hb none) (fun _ _ e => by cases e), h4⟩
/-- a list of Ints in memory, in any form -/
def IntL (w : World) (v : Value) (zs : List Int) : Prop := ∃ (ao : Option Addr) (cap : Nat), v = .slice ao zs.length cap ∧ zs.length ≤ cap ∧ cap ≤ maxLen ∧ zs.length ≤ 4000000 ∧ (ao = none → cap = 0) ∧
  (0 < zs.length → ∃ b off, ao = some ⟨b, off, none⟩ ∧ b < w.heap.size ∧ ∀ j, j < zs.length → ∃ (n : Bool) (a : Option Addr) (k c : Nat), w.cell? ⟨b, off + j * 2, none⟩ = some (.bool n) ∧ w.cell? ⟨b, off + j * 2 + 1, none⟩ = some (.slice a k c) ∧ IntV w (.agg #[.bool n, .slice a k c]) (zs.getD j 0))
theorem IntL.below {w w' : World} {v : Value} {zs : List Int} (h : IntL w v zs) (hb : Below w.heap.size w w') : IntL w' v zs := by
  obtain ⟨ao, cap, h0, h1, h2, h3, h4, h5⟩ := h
  refine ⟨ao, cap, h0, h1, h2, h3, h4, fun hp => ?_⟩
  obtain ⟨b, off, rfl, hlt, hc⟩ := h5 hp
  refine ⟨b, off, rfl, Nat.lt_of_lt_of_le hlt hb.size, fun j hj => ?_⟩
  obtain ⟨n, a, k, c, c0, c1, hi⟩ := hc j hj
  exact ⟨n, a, k, c, cell_to hb c0 hlt, cell_to hb c1 hlt, hi.below hb⟩
theorem IntL.shape {w : World} {v : Value} {zs : List Int} (h : IntL w v zs) : ∃ ao c, v = .slice ao zs.length c := by
  obtain ⟨ao, c, h0, _⟩ := h; exact ⟨ao, c, h0⟩
end Go.Proofs.YtehdfkafdpfdnaaGreatDoor

/- Package whole: what was answered, as any Int. -/
namespace Go.Proofs.YtehdfkafdpfdnaaGreatDoor
open Go.RowKit Mth

/-- a canonical Int of a number that is not too long, as any Int -/
theorem IntK.intV {w : World} {v : Value} {z : Int} (h : IntK w v z) (hz : z.natAbs < Big) : IntV w v z := by
  obtain ⟨u, rfl, xs, s, l, t, e⟩ := h
  refine ⟨_, u, xs, rfl, s, l, ?_, by rw [e, sg_sgn]⟩
  have := length_of_val B64_pos t maxL (by rw [e]; exact hz)
  unfold maxL at this; omega
end Go.Proofs.YtehdfkafdpfdnaaGreatDoor
