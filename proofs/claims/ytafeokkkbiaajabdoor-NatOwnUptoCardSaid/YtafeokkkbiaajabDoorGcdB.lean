/- nat: simulate. -/
import Derived.Test.YtafeokkkbiaajabDoorGcdA
import Derived.StillTailTactics
import Derived.Deep.RegionWith
import Derived.Deep.DeepCutAuto
namespace Go.Proofs.YtafeokkkbiaajabDoor
open Go.RowKit Mth

/-- a block that holds strides -/
def Str (w : World) (g u0 v0 u1 v1 : Nat) (ev : Bool) : Prop := w.heap[g]? = some (.cells #[.int .u64 (u0 : Int), .int .u64 (v0 : Int), .int .u64 (u1 : Int), .int .u64 (v1 : Int), .bool ev] 71 (0, 0))
theorem Str.lt {w : World} {g u0 v0 u1 v1 : Nat} {ev : Bool} (h : Str w g u0 v0 u1 v1 ev) : g < w.heap.size := (Array.getElem?_eq_some_iff.1 h).1
theorem Str.cells {w : World} {g u0 v0 u1 v1 : Nat} {ev : Bool} (h : Str w g u0 v0 u1 v1 ev) :
    w.cell? ⟨g, 0, none⟩ = some (.int .u64 (u0 : Int)) ∧ w.cell? ⟨g, 1, none⟩ = some (.int .u64 (v0 : Int)) ∧ w.cell? ⟨g, 2, none⟩ = some (.int .u64 (u1 : Int)) ∧ w.cell? ⟨g, 3, none⟩ = some (.int .u64 (v1 : Int)) ∧ w.cell? ⟨g, 4, none⟩ = some (.bool ev) := by
  refine ⟨?_, ?_, ?_, ?_, ?_⟩ <;> (rw [cell_of_row w g _ _ _ (0, 0) h]; rfl)
theorem Str.free {w : World} {g u0 v0 u1 v1 : Nat} {ev : Bool} (h : Str w g u0 v0 u1 v1 ev) (j : Nat) : w.frozen? ⟨g, j, none⟩ = false := frozen_of_row w g j _ _ h
theorem Str.below {w w' : World} {g u0 v0 u1 v1 : Nat} {ev : Bool} (h : Str w g u0 v0 u1 v1 ev) (hb : Below w.heap.size w w') : Str w' g u0 v0 u1 v1 ev := (hb.block g h.lt).trans h
theorem Str.drawn {w : World} {g u0 v0 u1 v1 : Nat} {ev : Bool} (h : Str w g u0 v0 u1 v1 ev) (n : Nat) : Str (w.drewN n) g u0 v0 u1 v1 ev := h
theorem Str.set0 {w : World} {g u0 v0 u1 v1 : Nat} {ev : Bool} (h : Str w g u0 v0 u1 v1 ev) (x : Nat) : Str (w.setCell ⟨g, 0, none⟩ (.int .u64 (x : Int))) g x v0 u1 v1 ev := by
  unfold Str; rw [heap_setCell_same w g 0 _ _ _ h]; rfl
theorem Str.set1 {w : World} {g u0 v0 u1 v1 : Nat} {ev : Bool} (h : Str w g u0 v0 u1 v1 ev) (x : Nat) : Str (w.setCell ⟨g, 1, none⟩ (.int .u64 (x : Int))) g u0 x u1 v1 ev := by
  unfold Str; rw [heap_setCell_same w g 1 _ _ _ h]; rfl
theorem Str.set2 {w : World} {g u0 v0 u1 v1 : Nat} {ev : Bool} (h : Str w g u0 v0 u1 v1 ev) (x : Nat) : Str (w.setCell ⟨g, 2, none⟩ (.int .u64 (x : Int))) g u0 v0 x v1 ev := by
  unfold Str; rw [heap_setCell_same w g 2 _ _ _ h]; rfl
theorem Str.set3 {w : World} {g u0 v0 u1 v1 : Nat} {ev : Bool} (h : Str w g u0 v0 u1 v1 ev) (x : Nat) : Str (w.setCell ⟨g, 3, none⟩ (.int .u64 (x : Int))) g u0 v0 u1 x ev := by
  unfold Str; rw [heap_setCell_same w g 3 _ _ _ h]; rfl
theorem Str.set4 {w : World} {g u0 v0 u1 v1 : Nat} {ev : Bool} (h : Str w g u0 v0 u1 v1 ev) (x : Bool) : Str (w.setCell ⟨g, 4, none⟩ (.bool x)) g u0 v0 u1 v1 x := by
  unfold Str; rw [heap_setCell_same w g 4 _ _ _ h]; rfl
theorem Str.far {w : World} {g g' i u0 v0 u1 v1 : Nat} {ev : Bool} {x : Value} (h : Str w g u0 v0 u1 v1 ev) (hne : g ≠ g') : Str (w.setCell ⟨g', i, none⟩ x) g u0 v0 u1 v1 ev :=
  (heap_setCell_other w ⟨g', i, none⟩ g x hne).trans h

/-- what simulate answers -/
def SimP (ah bh u0 v0 u1 v1 : Nat) (ev : Bool) : Prop := v0 = 0 ∨ ∃ x1 x2, GoodS ah bh u0 v0 u1 v1 x1 x2 ev
/-- what simulate's loop holds -/
def SmO (w wr : World) (ah bh g gr : Nat) (av bv u2v v2v : Value) : Prop := ∃ (a1 a2 u0 v0 u1 v1 u2 v2 : Nat) (ev : Bool), av = .int .u64 (a1 : Int) ∧ bv = .int .u64 (a2 : Int) ∧ u2v = .int .u64 (u2 : Int) ∧ v2v = .int .u64 (v2 : Int) ∧
  SimI ah bh a1 a2 u1 v1 u2 v2 ev ∧ SimP ah bh u0 v0 u1 v1 ev ∧ u0 < B64 ∧ v0 < B64 ∧ u1 < B64 ∧ v1 < B64 ∧ a1 < B64 ∧ Str wr g u0 v0 u1 v1 ev ∧ Str wr gr 0 0 0 0 false ∧ Below w.heap.size w wr

set_option maxHeartbeats 4000000 in
set_option maxRecDepth 100000 in
theorem simulate_any (ah bh : Nat) (w : World) (ha : ah < B64) (hle : bh ≤ ah) :
    Calls Tryd.prog 47 #[.int .u64 ((ah : Nat) : Int), .int .u64 ((bh : Nat) : Int)] w fun e w' => ∃ (u0 v0 u1 v1 : Nat) (ev : Bool), e = .returned (.agg #[.int .u64 (u0 : Int), .int .u64 (v0 : Int), .int .u64 (u1 : Int), .int .u64 (v1 : Int), .bool ev]) ∧
      SimP ah bh u0 v0 u1 v1 ev ∧ u0 < B64 ∧ v0 < B64 ∧ u1 < B64 ∧ v1 < B64 ∧ Below w.heap.size w w' := by
  have HA := Lib.hid ha; have HL := Lib.hid hle
  clear ha hle
  go_enter Tryd.func47, Tryd.ntmps47
  go_wp2
  have hS0 : Str ((w.alloc (Obj.cells #[Value.int .u64 0, Value.int .u64 0, Value.int .u64 0, Value.int .u64 0, Value.bool false] 71)).alloc (Obj.cells #[Value.int .u64 0, Value.int .u64 0, Value.int .u64 1, Value.int .u64 0, Value.bool false] 71)) (w.heap.size + 1) 0 0 1 0 false := by
    have := heap_alloc_new (w.alloc (Obj.cells #[Value.int .u64 0, Value.int .u64 0, Value.int .u64 0, Value.int .u64 0, Value.bool false] 71)) (Obj.cells #[Value.int .u64 0, Value.int .u64 0, Value.int .u64 1, Value.int .u64 0, Value.bool false] 71)
    rw [show (w.alloc (Obj.cells #[Value.int .u64 0, Value.int .u64 0, Value.int .u64 0, Value.int .u64 0, Value.bool false] 71)).heap.size = w.heap.size + 1 by simp] at this
    exact this
  have hS1 : Str (w.alloc (Obj.cells #[Value.int .u64 0, Value.int .u64 0, Value.int .u64 0, Value.int .u64 0, Value.bool false] 71)) w.heap.size 0 0 0 0 false := heap_alloc_new w _
  have hS2 := hS1.below (((Below.refl _ _).alloc (Nat.le_refl _) (Obj.cells #[Value.int .u64 0, Value.int .u64 0, Value.int .u64 1, Value.int .u64 0, Value.bool false] 71)))
  have hBB : Below w.heap.size w ((w.alloc (Obj.cells #[Value.int .u64 0, Value.int .u64 0, Value.int .u64 0, Value.int .u64 0, Value.bool false] 71)).alloc (Obj.cells #[Value.int .u64 0, Value.int .u64 0, Value.int .u64 1, Value.int .u64 0, Value.bool false] 71)) := ((Below.refl _ _).alloc (Nat.le_refl _) _).alloc (by simp) _
  have HS0 := Lib.hid hS0; have HS2 := Lib.hid hS2; have HB0 := Lib.hid hBB
  clear hS0 hS1 hS2 hBB
  obtain ⟨gr, hgr⟩ : ∃ gr, gr = w.heap.size := ⟨_, rfl⟩
  obtain ⟨g, hg⟩ : ∃ g, g = w.heap.size + 1 := ⟨_, rfl⟩
  rw [← hg] at HS0 ⊢
  rw [← hgr] at HS2
  have HG := Lib.hid (show gr = w.heap.size ∧ g = gr + 1 by omega)
  have hgw := hgr
  clear hg hgr
  generalize (w.alloc (Obj.cells #[Value.int .u64 0, Value.int .u64 0, Value.int .u64 0, Value.int .u64 0, Value.bool false] 71)).alloc (Obj.cells #[Value.int .u64 0, Value.int .u64 0, Value.int .u64 1, Value.int .u64 0, Value.bool false] 71) = w1 at *
  rw [← hgw]
  have HGW := Lib.hid hgw
  clear hgw
  go_loopw [0, 1, 6, 7] (fun av bv u2v v2v wr => SmO w wr ah bh g gr av bv u2v v2v) (fun _ bv _ _ _ => (intOf bv).toNat)
  case atStart => exact ⟨ah, bh, 0, 0, 1, 0, 0, 1, false, rfl, rfl, rfl, rfl, sim_start HL.out, .inl rfl, by unfold B64; omega, by unfold B64; omega, by unfold B64; omega, by unfold B64; omega, HA.out, HS0.out, HS2.out, HB0.out⟩
  case round =>
    obtain ⟨a1, a2, u0, v0, u1, v1, u2, v2, ev, rfl, rfl, rfl, rfl, hI, hP, b0, b1, b2, b3, b4, hS, hR, hbel⟩ := hrel
    have HI := Lib.hid hI; have HP := Lib.hid hP; have HS := Lib.hid hS; have HR := Lib.hid hR; have HBE := Lib.hid hbel
    have HB0' := Lib.hid b0; have HB1' := Lib.hid b1; have HB2' := Lib.hid b2; have HB3' := Lib.hid b3; have HB4' := Lib.hid b4
    obtain ⟨k0, k1, k2, k3, k4⟩ := hS.cells
    have q0 := hS.free 0; have q1 := hS.free 1; have q2 := hS.free 2; have q3 := hS.free 3; have q4 := hS.free 4
    obtain ⟨m0, m1, m2, m3, m4⟩ := hR.cells
    have r0 := hR.free 0; have r1 := hR.free 1; have r2 := hR.free 2; have r3 := hR.free 3; have r4 := hR.free 4
    have hle := hI.le; have hvp := hI.vp
    clear hI hP hS hR hbel
    by_cases hc1 : v2 ≤ a2
    · have hd1 : decide (v2 ≤ a2) = true := decide_eq_true hc1
      have hd1' : decide ((v2 : Int) ≤ (a2 : Int)) = true := decide_eq_true (by omega)
      have hsm := sim_small HI.out (by omega)
      have hAh := HA.out
      obtain ⟨d, hdd⟩ : ∃ d, d = a1 - a2 := ⟨_, rfl⟩
      obtain ⟨t, htt⟩ : ∃ t, t = v1 + v2 := ⟨_, rfl⟩
      have hw1 : IntKind.u64.wrap ((a1 : Int) - (a2 : Int)) = (d : Int) := by unfold B64 at b4; rw [IntKind.wrap_u64]; omega
      have hw2 : IntKind.u64.wrap ((v1 : Int) + (v2 : Int)) = (t : Int) := by unfold B64 at hAh; rw [IntKind.wrap_u64]; omega
      by_cases hc2 : t ≤ d
      · have hd2 : decide (t ≤ d) = true := decide_eq_true hc2
        have hd2' : decide ((t : Int) ≤ (d : Int)) = true := decide_eq_true (by omega)
        have hp2 : 0 < a2 := by omega
        have GD := Lib.hid (good_of_sim HI.out hc1 (by omega))
        have SI := Lib.hid (sim_step HI.out hp2)
        have SSM : 0 < a1 % a2 ∨ a1 % a2 = 0 := by omega
        have hsum := SI.out.sum
        have hvb : v1 + a1 / a2 * v2 ≤ ah := by
          have h1 : (v1 + a1 / a2 * v2) * 1 ≤ (v1 + a1 / a2 * v2) * a2 := Nat.mul_le_mul_left _ hp2
          omega
        have hub : u1 + a1 / a2 * u2 ≤ v1 + a1 / a2 * v2 := SI.out.uv
        have hq : (a1 : Int) / (a2 : Int) = ((a1 / a2 : Nat) : Int) := (Int.natCast_ediv a1 a2).symm
        have hm : (a1 : Int) % (a2 : Int) = ((a1 % a2 : Nat) : Int) := (Int.natCast_emod a1 a2).symm
        have hmlt := Nat.mod_lt a1 hp2
        have hql : a1 / a2 ≤ a1 := Nat.div_le_self _ _
        generalize a1 / a2 = q at *
        generalize a1 % a2 = m at *
        obtain ⟨qu, hqu⟩ : ∃ qu, qu = q * u2 := ⟨_, rfl⟩
        obtain ⟨qv, hqv⟩ : ∃ qv, qv = q * v2 := ⟨_, rfl⟩
        rw [← hqu, ← hqv] at SI hub
        rw [← hqv] at hvb hsum
        obtain ⟨nu, hnu⟩ : ∃ nu, nu = u1 + qu := ⟨_, rfl⟩
        obtain ⟨nv, hnv⟩ : ∃ nv, nv = v1 + qv := ⟨_, rfl⟩
        rw [← hnu, ← hnv] at SI
        have w1' : IntKind.u64.wrap ((q : Int) * (u2 : Int)) = (qu : Int) := by rw [← Int.natCast_mul, ← hqu]; exact wrap_u64 _ (by omega)
        have w2' : IntKind.u64.wrap ((q : Int) * (v2 : Int)) = (qv : Int) := by rw [← Int.natCast_mul, ← hqv]; exact wrap_u64 _ (by omega)
        have w3' : IntKind.u64.wrap ((u1 : Int) + (qu : Int)) = (nu : Int) := by rw [← Int.natCast_add, ← hnu]; exact wrap_u64 _ (by omega)
        have w4' : IntKind.u64.wrap ((v1 : Int) + (qv : Int)) = (nv : Int) := by rw [← Int.natCast_add, ← hnv]; exact wrap_u64 _ (by omega)
        have ha2n : (a2 : Int) ≠ 0 := by omega
        have ha64 : a1 ≤ 18446744073709551615 := by unfold B64 at b4; omega
        have ha264 : a2 ≤ 18446744073709551615 := by omega
        have HML := Lib.hid hmlt; have HB2B : Hid (u2 < B64 ∧ v2 < B64 ∧ a2 < B64) := Lib.hid ⟨by have := HI.out.uv; omega, by omega, by omega⟩
        have hq64 : q ≤ 18446744073709551615 := by omega
        have HBW : Hid (B64 = 18446744073709551616) := Lib.hid rfl
        clear hsm hAh hdd htt hsum hvb hub hql hqu hqv hnu hnv hmlt SSM hc1 hc2 hle hvp b0 b1 b2 b3 b4
        go_wp2
        go_quiet (fail)
        go_wp2
        go_roundw
        case rel =>
          have S1 := ((((HS.out.drawn nq).set0 u1).set2 u2).set1 v1).set3 v2 |>.set4 (!ev)
          have R1 := (((((HR.out.drawn nq).far (i := 0) (x := .int .u64 (u1 : Int)) (g' := g) (by have := HG.out; omega)).far (i := 2) (x := .int .u64 (u2 : Int)) (g' := g) (by have := HG.out; omega)).far (i := 1) (x := .int .u64 (v1 : Int)) (g' := g) (by have := HG.out; omega)).far (i := 3) (x := .int .u64 (v2 : Int)) (g' := g) (by have := HG.out; omega)).far (i := 4) (x := .bool (!ev)) (g' := g) (by have := HG.out; omega)
          have BB : Below w.heap.size w (wr.drewN nq) := bdrawn HBE.out nq
          have B1 := ((((BB.setCell (p := ⟨g, 0, none⟩) (by have := HG.out; simp; omega) (.int .u64 (u1 : Int))).setCell (p := ⟨g, 2, none⟩) (by have := HG.out; simp; omega) (.int .u64 (u2 : Int))).setCell (p := ⟨g, 1, none⟩) (by have := HG.out; simp; omega) (.int .u64 (v1 : Int))).setCell (p := ⟨g, 3, none⟩) (by have := HG.out; simp; omega) (.int .u64 (v2 : Int))).setCell (p := ⟨g, 4, none⟩) (by have := HG.out; simp; omega) (.bool (!ev))
          exact ⟨a2, m, u1, v1, u2, v2, nu, nv, !ev, rfl, by first | rfl | rw [hm], rfl, rfl, SI.out, .inr ⟨_, _, GD.out⟩, HB2'.out, HB3'.out, HB2B.out.1, HB2B.out.2.1, HB2B.out.2.2, S1, R1, B1⟩
        case measure => have := HML.out; simp [intOf]; omega
      · have hd2 : decide (t ≤ d) = false := decide_eq_false hc2
        have hd2' : decide ((t : Int) ≤ (d : Int)) = false := decide_eq_false (by omega)
        clear hsm hAh hdd htt hc1 hc2
        clear hle hvp b0 b1 b2 b3 b4
        go_wp2
        refine bodyPost_ret (v := .agg #[.int .u64 (u0 : Int), .int .u64 (v0 : Int), .int .u64 (u1 : Int), .int .u64 (v1 : Int), .bool ev]) ?_ rfl ⟨u0, v0, u1, v1, ev, rfl, HP.out, HB0'.out, HB1'.out, HB2'.out, HB3'.out, ?_⟩
        · simp [results, Tryd.results47, go_sem, (HR.out.set0 u0).cells.1, ((HR.out.set0 u0).set1 v0).cells.2.1, (((HR.out.set0 u0).set1 v0).set2 u1).cells.2.2.1, ((((HR.out.set0 u0).set1 v0).set2 u1).set3 v1).cells.2.2.2.1, (((((HR.out.set0 u0).set1 v0).set2 u1).set3 v1).set4 ev).cells.2.2.2.2]
        · have hg := HG.out.1
          exact ((((HBE.out.setCell (p := ⟨gr, 0, none⟩) (Nat.le_of_eq hg.symm) _).setCell (p := ⟨gr, 1, none⟩) (Nat.le_of_eq hg.symm) _).setCell (p := ⟨gr, 2, none⟩) (Nat.le_of_eq hg.symm) _).setCell (p := ⟨gr, 3, none⟩) (Nat.le_of_eq hg.symm) _).setCell (p := ⟨gr, 4, none⟩) (Nat.le_of_eq hg.symm) _
    · have hd1 : decide (v2 ≤ a2) = false := decide_eq_false hc1
      have hd1' : decide ((v2 : Int) ≤ (a2 : Int)) = false := decide_eq_false (by omega)
      clear hc1
      clear hle hvp b0 b1 b2 b3 b4
      go_wp2
      refine bodyPost_ret (v := .agg #[.int .u64 (u0 : Int), .int .u64 (v0 : Int), .int .u64 (u1 : Int), .int .u64 (v1 : Int), .bool ev]) ?_ rfl ⟨u0, v0, u1, v1, ev, rfl, HP.out, HB0'.out, HB1'.out, HB2'.out, HB3'.out, ?_⟩
      · simp [results, Tryd.results47, go_sem, (HR.out.set0 u0).cells.1, ((HR.out.set0 u0).set1 v0).cells.2.1, (((HR.out.set0 u0).set1 v0).set2 u1).cells.2.2.1, ((((HR.out.set0 u0).set1 v0).set2 u1).set3 v1).cells.2.2.2.1, (((((HR.out.set0 u0).set1 v0).set2 u1).set3 v1).set4 ev).cells.2.2.2.2]
      · have hg := HG.out.1
        exact ((((HBE.out.setCell (p := ⟨gr, 0, none⟩) (Nat.le_of_eq hg.symm) _).setCell (p := ⟨gr, 1, none⟩) (Nat.le_of_eq hg.symm) _).setCell (p := ⟨gr, 2, none⟩) (Nat.le_of_eq hg.symm) _).setCell (p := ⟨gr, 3, none⟩) (Nat.le_of_eq hg.symm) _).setCell (p := ⟨gr, 4, none⟩) (Nat.le_of_eq hg.symm) _
end Go.Proofs.YtafeokkkbiaajabDoor

/- nat: next, turned, apply. -/
namespace Go.Proofs.YtafeokkkbiaajabDoor
open Go.RowKit Mth

/-- a block that holds a difference -/
def Dif (w : World) (g p q c l b : Nat) : Prop := w.heap[g]? = some (.cells #[.int .u64 (p : Int), .int .u64 (q : Int), .int .u64 (c : Int), .int .u64 (l : Int), .int .u64 (b : Int)] 92 (0, 0))
theorem Dif.lt {w : World} {g p q c l b : Nat} (h : Dif w g p q c l b) : g < w.heap.size := (Array.getElem?_eq_some_iff.1 h).1
theorem Dif.cells {w : World} {g p q c l b : Nat} (h : Dif w g p q c l b) :
    w.cell? ⟨g, 0, none⟩ = some (.int .u64 (p : Int)) ∧ w.cell? ⟨g, 1, none⟩ = some (.int .u64 (q : Int)) ∧ w.cell? ⟨g, 2, none⟩ = some (.int .u64 (c : Int)) ∧ w.cell? ⟨g, 3, none⟩ = some (.int .u64 (l : Int)) ∧ w.cell? ⟨g, 4, none⟩ = some (.int .u64 (b : Int)) := by
  refine ⟨?_, ?_, ?_, ?_, ?_⟩ <;> (rw [cell_of_row w g _ _ _ (0, 0) h]; rfl)
theorem Dif.free {w : World} {g p q c l b : Nat} (h : Dif w g p q c l b) (j : Nat) : w.frozen? ⟨g, j, none⟩ = false := frozen_of_row w g j _ _ h
theorem Dif.grown {w w' : World} {g p q c l b : Nat} {row : Option Nat} (h : Dif w g p q c l b) (hg : w.grownBy w' row) (hne : some g ≠ row) : Dif w' g p q c l b := (hg.block g h.lt hne).trans h
theorem Dif.set2 {w : World} {g p q c l b : Nat} (h : Dif w g p q c l b) (x : Nat) : Dif (w.setCell ⟨g, 2, none⟩ (.int .u64 (x : Int))) g p q x l b := by
  unfold Dif; rw [heap_setCell_same w g 2 _ _ _ h]; rfl
theorem Dif.set3 {w : World} {g p q c l b : Nat} (h : Dif w g p q c l b) (x : Nat) : Dif (w.setCell ⟨g, 3, none⟩ (.int .u64 (x : Int))) g p q c x b := by
  unfold Dif; rw [heap_setCell_same w g 3 _ _ _ h]; rfl
theorem Dif.set4 {w : World} {g p q c l b : Nat} (h : Dif w g p q c l b) (x : Nat) : Dif (w.setCell ⟨g, 4, none⟩ (.int .u64 (x : Int))) g p q c l x := by
  unfold Dif; rw [heap_setCell_same w g 4 _ _ _ h]; rfl
theorem grown_set {w : World} {g i : Nat} {x : Value} : w.grownBy (w.setCell ⟨g, i, none⟩ x) (some g) :=
  ⟨rfl, rfl, rfl, by simp, fun k _ hk => heap_setCell_other w ⟨g, i, none⟩ k _ (fun e => hk (by simp [e]))⟩

theorem grown_set_drew {w : World} {g i : Nat} {x : Value} : w.grownBy (w.setCell ⟨g, i, none⟩ x).drew (some g) :=
  ⟨rfl, rfl, rfl, by simp [World.drew], fun k _ hk => heap_setCell_other w ⟨g, i, none⟩ k _ (fun e => hk (by simp [e]))⟩

theorem mulAdd_same (x y p : Nat) (hx : x < B64) (hy : y < B64) (hp : p < B64) (w : World) :
    Calls Tryd.prog 70 #[.int .u64 x, .int .u64 y, .int .u64 p] w fun e w' =>
      e = .returned (.tuple #[.int .u64 ((pHi x y p : Nat) : Int), .int .u64 ((pLo x y p : Nat) : Int)]) ∧ w' = w :=
  (mulAdd_any x y p hx hy hp w).mono fun _ _ ⟨h1, h2⟩ => ⟨h1, h2.symm⟩
set_option maxHeartbeats 4000000 in
set_option maxRecDepth 100000 in
theorem next_any (g p q c l b x y : Nat) (w : World) (h : Dif w g p q c l b) (hp : p < B64) (hq : q < B64) (hc : c < B64) (hl : l < B64) (hb : b ≤ 1) (hx : x < B64) (hy : y < B64) :
    Calls Tryd.prog 63 #[.pointer (some ⟨g, 0, none⟩), .int .u64 ((x : Nat) : Int), .int .u64 ((y : Nat) : Int)] w fun e w' => e = .returned (.int .u64 ((dfO p q x y c l b : Nat) : Int)) ∧ Dif w' g p q (pHi p x c) (pHi q y l) (dfB p q x y c l b) ∧ w.grownBy w' (some g) := by
  have H := Lib.hid h
  have M1 := Lib.hid (mulAdd_same p x c hp hx hc)
  have M2 := Lib.hid (mulAdd_same q y l hq hy hl)
  have hsub := fun w => sub64_run (pLo p x c) (pLo q y l) b hb w
  have HO : Hid (dfO p q x y c l b = sLo (pLo p x c) (pLo q y l) b) := Lib.hid rfl
  have HD : Hid (dfB p q x y c l b = sHi (pLo p x c) (pLo q y l) b) := Lib.hid rfl
  obtain ⟨k0, k1, k2, k3, k4⟩ := h.cells
  have q0 := h.free 0; have q1 := h.free 1; have q2 := h.free 2; have q3 := h.free 3; have q4 := h.free 4
  clear h hp hq hc hl hb hx hy
  generalize dfO p q x y c l b = o at *
  generalize dfB p q x y c l b = b' at *
  generalize pHi p x c = c' at *
  generalize pHi q y l = l' at *
  generalize pLo p x c = f at *
  generalize pLo q y l = t at *
  go_enter Tryd.func63, Tryd.ntmps63
  go_wp2
  go_upto_region 2 with fail
  go_cut [7] (fun s7 wx => s7 = .int .u64 ((f : Nat) : Int) ∧ Dif wx g p q c' l b ∧ w.grownBy wx (some g))
  case first =>
    go_region_with (first | (go_at_call 70; refine (M1.out _).mono ?_; rintro e w' ⟨rfl, rfl⟩))
    all_goals (go_wp2_with fail; go_meet; exact ⟨rfl, H.out.set2 c', grown_set_drew⟩)
  case rest =>
    obtain ⟨rfl, hD, hG⟩ := hcut
    clear k0 k1 k2 k3 k4 q0 q1 q2 q3 q4 H M1
    have H := Lib.hid hD
    obtain ⟨k0, k1, k2, k3, k4⟩ := hD.cells
    have q0 := hD.free 0; have q1 := hD.free 1; have q2 := hD.free 2; have q3 := hD.free 3; have q4 := hD.free 4
    clear hD
    have hG' := Lib.hid hG
    clear hG
    go_wp2_with fail
    go_upto_region 3 with fail
    go_cut [8] (fun s8 wy => s8 = .int .u64 ((t : Nat) : Int) ∧ Dif wy g p q c' l' b ∧ w.grownBy wy (some g))
    case first =>
      go_region_with (first | (go_at_call 70; refine (M2.out _).mono ?_; rintro e w' ⟨rfl, rfl⟩))
      all_goals (go_wp2_with fail; go_meet; exact ⟨rfl, H.out.set3 l', hG'.out.trans grown_set_drew⟩)
    case rest =>
      obtain ⟨rfl, hD, hG⟩ := hcut
      clear k0 k1 k2 k3 k4 q0 q1 q2 q3 q4 H hG'
      have H := Lib.hid hD
      obtain ⟨k0, k1, k2, k3, k4⟩ := hD.cells
      have q0 := hD.free 0; have q1 := hD.free 1; have q2 := hD.free 2; have q3 := hD.free 3; have q4 := hD.free 4
      clear hD
      have hG' := Lib.hid hG
      clear hG
      go_wp2
      rw [HO.out, HD.out]
      go_ret
      exact ⟨rfl, H.out.set4 _, hG'.out.trans grown_set⟩
end Go.Proofs.YtafeokkkbiaajabDoor
