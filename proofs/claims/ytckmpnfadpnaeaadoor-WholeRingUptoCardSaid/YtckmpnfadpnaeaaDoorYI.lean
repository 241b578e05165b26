/- tribunalref02: Same, of two canonical Ints of one number. -/
import Derived.Test.YtckmpnfadpnaeaaDoorYH
set_option linter.unusedVariables false
set_option linter.unusedSimpArgs false
namespace Go.Proofs.YtckmpnfadpnaeaaDoor
open Go.RowKit Mth

set_option maxHeartbeats 1000000 in
set_option maxRecDepth 100000 in
theorem same_any (va vb : Value) (z : Int) (w : World) (ha : IntK w va z) (hb : IntK w vb z) :
    Calls Tryd.prog 14 #[va, vb] w fun e w' => e = .returned (.bool true) ∧ Below w.heap.size w w' := by
  obtain ⟨u1, rfl, xs, s1, l1, t1, v1⟩ := ha
  obtain ⟨u2, rfl, ys, s2, l2, t2, v2⟩ := hb
  obtain rfl : xs = ys := top_uniq B64_pos l1 l2 t1 t2 (by rw [v1, v2])
  clear l1 l2 t1 t2 v1 v2
  have hlen := s1.len
  obtain ⟨a1, c1, rfl⟩ := s1.shape
  obtain ⟨a2, c2, rfl⟩ := s2.shape
  have S1 := Lib.hid s1; have S2 := Lib.hid s2
  clear s1 s2
  go_enter Tryd.func14, Tryd.ntmps14
  go_wp2_with fail
  obtain ⟨W, eW, h1, h2, bel, hsz⟩ := alloc2 w (Obj.cells #[Value.bool (sgn z), Value.slice a1 xs.length c1] 25) (Obj.cells #[Value.bool (sgn z), Value.slice a2 xs.length c2] 25)
  rw [eW]
  obtain ⟨p0, p1, _, _, _⟩ := blk2 h1
  obtain ⟨q0, q1, _, _, _⟩ := blk2 h2
  clear eW h1 h2
  go_loopw [5] (fun i wr => ∃ m : Nat, m ≤ xs.length ∧ i = .int .i64 (m : Int) ∧ Below W.heap.size W wr) (fun i _ => xs.length - (intOf i).toNat)
  case atStart => exact ⟨0, Nat.zero_le _, rfl, Below.refl _ _⟩
  case round =>
    obtain ⟨m, hm, rfl, hbel⟩ := hrel
    have r1 := cell_to hbel p1 (by omega)
    have r2 := cell_to hbel q1 (by omega)
    have HB := Lib.hid hbel
    by_cases hml : m < xs.length
    · obtain ⟨b1, o1, d1, e1, hc1, hc1', hlt1, k1⟩ := S1.out.pos (by omega)
      obtain ⟨b2, o2, d2, e2, hc2, hc2', hlt2, k2⟩ := S2.out.pos (by omega)
      simp only [Value.slice.injEq] at e1 e2
      obtain ⟨rfl, _, rfl⟩ := e1
      obtain ⟨rfl, _, rfl⟩ := e2
      have ck1 : wr.cell? ⟨b1, o1 + m, none⟩ = some (.int .u64 ((xs.getD m 0 : Nat) : Int)) := cell_to hbel (cell_to bel (k1 m hml) hlt1) (by have := bel.size; omega)
      have ck2 : wr.cell? ⟨b2, o2 + m, none⟩ = some (.int .u64 ((xs.getD m 0 : Nat) : Int)) := cell_to hbel (cell_to bel (k2 m hml) hlt2) (by have := bel.size; omega)
      generalize xs.getD m 0 = x at *
      clear k1 k2 hbel p0 p1 q0 q1
      unfold maxLen at hc1' hc2'
      go_wp2
      go_quiet (fail)
      go_wp2
      go_roundw
      case rel => exact ⟨m + 1, by omega, by go_num, bdrawn HB.out _⟩
      case measure => simp [intOf]; omega
    · clear hbel
      go_wp2
      go_ret
      exact ⟨rfl, below_of bel HB.out⟩
end Go.Proofs.YtckmpnfadpnaeaaDoor
