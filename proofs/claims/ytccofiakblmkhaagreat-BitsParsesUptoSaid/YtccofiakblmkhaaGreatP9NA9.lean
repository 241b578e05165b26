/- 9RA 9RB 9RC. -/
import Derived.Test.YtccofiakblmkhaaGreatP9N2
import Derived.Test.YtccofiakblmkhaaGreatP9FA
import Derived.Test.YtccofiakblmkhaaGreatP9Y2
import Derived.Test.YtccofiakblmkhaaGreatP9N4
import Derived.Test.YtccofiakblmkhaaGreatP9NC9
import Derived.IntWalk
set_option linter.unusedVariables false
set_option linter.unusedSimpArgs false
/- tribunalref09: Right, bit. -/
namespace Go.Proofs.YtccofiakblmkhaaGreat
open Go.RowKit Mth

end Go.Proofs.YtccofiakblmkhaaGreat

/- tribunalref09: bit, U, Power. -/
namespace Go.Proofs.YtccofiakblmkhaaGreat
open Go.RowKit Mth

theorem results_zt {fn : Func} {tmps : Array Value} {w : World} {g : Nat} {x0 x1 : Value} {t : Nat} (h : fn.results = #[.cell t 71]) (h1 : tmps.getD t undef = .pointer (some ⟨g, 0, none⟩)) (hb : w.heap[g]? = some (.cells #[x0, x1] 71 (0, 0))) :
    (results fn tmps).run Tryz.prog w = .ok (.agg #[x0, x1]) w := by
  obtain ⟨c0, c1, _⟩ := blk2 hb
  rw [Array.getD_eq_getD_getElem?] at h1
  simp [results, h, h1, go_sem, c0, c1]
/-- the reference's number, told of in the world before and behind -/
def ResZ9 (w w' : World) (e : Ending) (z : Int) : Prop := ∃ n a k c, e = .returned (.agg #[.bool n, .slice a k c]) ∧ ZV w' (.agg #[.bool n, .slice a k c]) z ∧ Below w.heap.size w w'
theorem from9 (v : Value) (z : Int) (w : World) (h : IntV w v z) : Calls Tryz.prog 38 #[v] w fun e w' => ResZ9 w w' e z := (from_any2 v z w h).mono fun e w' ⟨v', he, hz, hb⟩ => by
  obtain ⟨n, a, k, c, rfl⟩ := hz.shape
  exact ⟨n, a, k, c, he, hz, hb⟩
set_option maxHeartbeats 4000000 in
set_option maxRecDepth 100000 in
theorem rU_any (x : Int) (u : Value) (xs : List Nat) (w : World) (hs : Sl w .u64 u xs) (hl : Lim B64 xs) (h3 : xs.length ≤ 4000000) :
    Calls Tryz.prog 42 #[.agg #[.int .i64 x, u]] w fun e w' => ResZ9 w w' e (val B64 xs : Nat) := by
  obtain ⟨ao, cap, rfl⟩ := hs.shape
  obtain ⟨W, eW, g1, g2, bel, hsz⟩ := alloc2 w (Obj.cells #[.int .i64 x, .slice ao xs.length cap] 28) (Obj.cells #[.bool false, .slice none 0 0] 71)
  have FR := Lib.hid (from9 (.agg #[.bool false, .slice ao xs.length cap]) (val B64 xs : Nat) W (intV_of (hs.below bel) hl h3 rfl))
  have G2 := Lib.hid g2; have BL := Lib.hid bel
  obtain ⟨c0, c1, f0, f1, _⟩ := blk2 g1
  clear hs hl g1 g2 bel
  go_enter Tryz.func42, Tryz.ntmps42
  go_wp2_with fail
  try rw [eW]
  refine FR.out.mono ?_
  rintro e w2 ⟨n, a, k, c, rfl, hz, hb⟩
  have GR := Lib.hid (car hb G2.out)
  have B2 := Lib.hid (below_of BL.out hb)
  have HZ := Lib.hid (hz.far (y0 := .bool n) (y1 := .slice a k c) GR.out)
  obtain ⟨q0, q1, r0, r1, _⟩ := blk2 GR.out
  clear hz hb
  go_wp2
  exact bodyPost_ret (results_zt rfl rfl (set2_row _ _ GR.out)) rfl ⟨_, _, _, _, rfl, HZ.out, (B2.out.setCell (by show w.heap.size ≤ w.heap.size + 1; omega) _).setCell (by show w.heap.size ≤ w.heap.size + 1; omega) _⟩
end Go.Proofs.YtccofiakblmkhaaGreat

/- tribunalref09: S, Mod, From, Of (gen9rc.py). -/
namespace Go.Proofs.YtccofiakblmkhaaGreat
open Go.RowKit Mth

/-- limbs in normal form, by the parts of their slice -/
def SlN (w : World) (a : Option Addr) (k c n : Nat) : Prop := ∃ xs, xs.length = k ∧ Sl w .u64 (.slice a k c) xs ∧ Lim B64 xs ∧ Top xs ∧ val B64 xs = n
theorem SlN.below {w w' : World} {k c n : Nat} {a : Option Addr} (h : SlN w a k c n) (hb : Below w.heap.size w w') : SlN w' a k c n := by
  obtain ⟨xs, h0, h1, h2⟩ := h; exact ⟨xs, h0, h1.below hb, h2⟩
theorem SlN.far {w : World} {k c n : Nat} {a : Option Addr} {y0 y1 : Value} {R : Nat} {T : TypeId} {x : Int} {u : Value} (h : SlN w a k c n) (hR : w.heap[R]? = some (.cells #[.int .i64 x, u] T (0, 0))) (hu : ∀ z, u ≠ .int .u64 z) : SlN ((w.setCell ⟨R, 0, none⟩ y0).setCell ⟨R, 1, none⟩ y1) a k c n := by
  obtain ⟨xs, rfl, h1, h2⟩ := h
  have hne : ∀ b off cap, (Value.slice a xs.length c) = .slice (some ⟨b, off, none⟩) xs.length cap → 0 < xs.length → b ≠ R := fun b off cap e hp => by rw [e] at h1; exact h1.neI hp hR hu
  exact ⟨xs, rfl, (h1.set_far hne).set_far hne, h2⟩
theorem BvK.n {w : World} {wd k c n : Nat} {a : Option Addr} (h : BvK w wd a k c n) : SlN w a k c n := by
  obtain ⟨xs, h0, h1, h2, h3, h4, -⟩ := h; exact ⟨xs, h0, h1, h2, h3, h4⟩
theorem slN_nil (w : World) : SlN w none 0 0 0 := ⟨[], rfl, sl_nil w _, lim_nil (by have := B64_pos; omega), rfl, rfl⟩
theorem IntK.slN {w : World} {v : Value} {n : Nat} (h : IntK w v (n : Int)) : ∃ a k c, v = .agg #[.bool false, .slice a k c] ∧ SlN w a k c n := by
  obtain ⟨u, rfl, xs, s, l, t, e⟩ := h
  obtain ⟨a, c, rfl⟩ := s.shape
  refine ⟨a, xs.length, c, ?_, xs, rfl, s, l, t, by rw [e, Int.natAbs_natCast]⟩
  have : sgn (n : Int) = false := by unfold sgn; exact decide_eq_false (by omega)
  rw [this]
theorem field1_int (b : Bool) (ao : Option Addr) (k c : Nat) (W : World) : Sem.run Tryz.prog (Instr.field 26 (.agg #[.bool b, .slice ao k c]) 1) W = .ok (.slice ao k c) W := by kernel_rfl
def ResV (w w' : World) (e : Ending) (x : Int) (n : Nat) : Prop := ∃ a k c, e = .returned (.agg #[.int .i64 x, .slice a k c]) ∧ SlN w' a k c n ∧ Below w.heap.size w w'
end Go.Proofs.YtccofiakblmkhaaGreat
