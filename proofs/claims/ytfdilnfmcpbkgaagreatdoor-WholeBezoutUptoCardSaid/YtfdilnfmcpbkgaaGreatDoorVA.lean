/- Package whole's calls where nothing is too long, as the laws use them; short. -/
import Derived.Test.YtfdilnfmcpbkgaaGreatDoorZQZ
import Derived.Test.YtfdilnfmcpbkgaaGreatDoorZV
import Derived.Test.YtfdilnfmcpbkgaaGreatDoorZW
import Derived.Test.YtfdilnfmcpbkgaaGreatDoorZX
import Derived.Test.YtfdilnfmcpbkgaaGreatDoorZT
import Derived.Test.YtfdilnfmcpbkgaaGreatDoorZU
import Derived.Test.YtfdilnfmcpbkgaaGreatDoorY2
set_option linter.unusedVariables false
set_option linter.unusedSimpArgs false
namespace Go.Proofs.YtfdilnfmcpbkgaaGreatDoor
open Go.RowKit Mth

def Sm : Nat := 1000
def ShN : Nat := B64 ^ Sm
theorem shn_pos : 0 < ShN := pow_pos' Sm
theorem shn_gen {S M : Nat} (h : S + S + 1 ≤ M) : 8 * (B64 ^ S * B64 ^ S) ≤ B64 ^ M := by
  have h2 : B64 ^ (S + S + 1) ≤ B64 ^ M := pow_mono' h
  rw [Nat.pow_succ, Nat.pow_add] at h2
  have h4 : B64 ^ S * B64 ^ S * 8 ≤ B64 ^ S * B64 ^ S * B64 := Nat.mul_le_mul_left _ (by unfold B64; omega)
  omega
theorem shn_eq : ShN = B64 ^ Sm := rfl
theorem big_eq : Big = B64 ^ maxL := rfl
theorem shn_of {s b S M : Nat} (h1 : s = B64 ^ S) (h2 : b = B64 ^ M) (h : S + S + 1 ≤ M) : 8 * (s * s) ≤ b := by subst h1 h2; exact shn_gen h
theorem shn_big : 8 * (ShN * ShN) ≤ Big := shn_of shn_eq big_eq (by unfold Sm maxL; omega)
theorem shn_le : ShN ≤ ShN * ShN := Nat.le_mul_of_pos_left _ shn_pos
theorem IntV.short {w : World} {n : Bool} {ao : Option Addr} {k c : Nat} {z : Int} (h : IntV w (.agg #[.bool n, .slice ao k c]) z) (hk : k ≤ 1000) : z.natAbs < ShN := by
  obtain ⟨n', u, xs, e, s, l, _, rfl⟩ := h
  simp only [Value.agg.injEq, Array.mk.injEq, List.cons.injEq, Value.bool.injEq, and_true] at e
  obtain ⟨rfl, rfl⟩ := e
  obtain ⟨_, _, e, _⟩ := s
  simp only [Value.slice.injEq] at e
  rw [natAbs_sg]
  exact val_lt_pow (L := Sm) l (by unfold Sm; omega)
theorem IntV.far {w : World} {v y0 y1 : Value} {z : Int} {R : Nat} {T : TypeId} {x : Bool} {ao : Option Addr} {n c : Nat} (h : IntV w v z) (hR : w.heap[R]? = some (.cells #[.bool x, .slice ao n c] T (0, 0))) : IntV ((w.setCell ⟨R, 0, none⟩ y0).setCell ⟨R, 1, none⟩ y1) v z := by
  obtain ⟨b, u, xs, e, h1, h2⟩ := h
  have hne : ∀ b off cap, u = .slice (some ⟨b, off, none⟩) xs.length cap → 0 < xs.length → b ≠ R := fun b off cap e hp => h1.ne hR e hp
  exact ⟨b, u, xs, e, (h1.set_far hne).set_far hne, h2⟩
theorem blk_far2 {w : World} {g R : Nat} {y0 y1 : Value} {o : Obj} (h : w.heap[g]? = some o) (hne : g ≠ R) : ((w.setCell ⟨R, 0, none⟩ y0).setCell ⟨R, 1, none⟩ y1).heap[g]? = some o := by
  rw [heap_setCell_other _ ⟨R, 1, none⟩ g _ hne, heap_setCell_other _ ⟨R, 0, none⟩ g _ hne]; exact h

/-- an Int that was answered: canonical, and any Int -/
def IntR (w : World) (v : Value) (z : Int) : Prop := IntK w v z ∧ IntV w v z
theorem IntR.below {w w' : World} {v : Value} {z : Int} (h : IntR w v z) (hb : Below w.heap.size w w') : IntR w' v z := ⟨h.1.below hb, h.2.below hb⟩
theorem IntR.far {w : World} {v y0 y1 : Value} {z : Int} {R : Nat} {T : TypeId} {x : Bool} {ao : Option Addr} {n c : Nat} (h : IntR w v z) (hR : w.heap[R]? = some (.cells #[.bool x, .slice ao n c] T (0, 0))) : IntR ((w.setCell ⟨R, 0, none⟩ y0).setCell ⟨R, 1, none⟩ y1) v z := ⟨h.1.far hR, h.2.far hR⟩
def Res1 (w w' : World) (e : Ending) (z : Int) : Prop := ∃ n a k c, e = .returned (.tuple #[.agg #[.bool n, .slice a k c], .int .i64 0]) ∧ IntR w' (.agg #[.bool n, .slice a k c]) z ∧ Below w.heap.size w w'
def Res2 (w w' : World) (e : Ending) (z y : Int) : Prop := ∃ n a k c n' a' k' c', e = .returned (.tuple #[.agg #[.bool n, .slice a k c], .agg #[.bool n', .slice a' k' c'], .int .i64 0]) ∧ IntR w' (.agg #[.bool n, .slice a k c]) z ∧ IntR w' (.agg #[.bool n', .slice a' k' c']) y ∧ Below w.heap.size w w'
def Res0 (w w' : World) (e : Ending) (z : Int) : Prop := ∃ n a k c, e = .returned (.agg #[.bool n, .slice a k c]) ∧ IntR w' (.agg #[.bool n, .slice a k c]) z ∧ Below w.heap.size w w'
theorem IntK.r {w : World} {v : Value} {z : Int} (h : IntK w v z) (hz : z.natAbs < Big) : IntR w v z := ⟨h, h.intV hz⟩
theorem addF (va vb : Value) (x y : Int) (w : World) (ha : IntV w va x) (hb : IntV w vb y) (h : (x + y).natAbs < Big) : Calls Tryz.prog 12 #[va, vb] w fun e w' => Res1 w w' e (x + y) := (addI_any va vb x y w ha hb).mono fun e w' ⟨v', he, hi, hb⟩ => by
  rw [(z_fine h).2] at he; rw [(z_fine h).1] at hi
  obtain ⟨n, a, k, c, rfl⟩ := hi.shape
  exact ⟨n, a, k, c, he, hi.k.r h, hb⟩
theorem mulF (va vb : Value) (x y : Int) (w : World) (ha : IntV w va x) (hb : IntV w vb y) (h : (x * y).natAbs < Big) : Calls Tryz.prog 11 #[va, vb] w fun e w' => Res1 w w' e (x * y) := (mulI_any va vb x y w ha hb).mono fun e w' ⟨v', he, hi, hb⟩ => by
  rw [(z_fine h).2] at he; rw [(z_fine h).1] at hi
  obtain ⟨n, a, k, c, rfl⟩ := hi.shape
  exact ⟨n, a, k, c, he, hi.r h, hb⟩
theorem quoF (va vb : Value) (x y : Int) (w : World) (ha : IntV w va x) (hb : IntV w vb y) (hx : x.natAbs < Big) (hy : y.natAbs < Big) (h0 : y ≠ 0) : Calls Tryz.prog 15 #[va, vb] w fun e w' => Res2 w w' e (qC x y) (rC x y) := (quoI_any va vb x y w ha hb hx hy h0).mono fun e w' ⟨v1, v2, he, h1, h2, hb⟩ => by
  obtain ⟨n, a, k, c, rfl⟩ := h1.shape
  obtain ⟨n', a', k', c', rfl⟩ := h2.shape
  exact ⟨n, a, k, c, n', a', k', c', he, h1.r (dvs_bounds hx hy h0).1, h2.r (dvs_bounds hx hy h0).2.1, hb⟩
theorem divF (va vb : Value) (x y : Int) (w : World) (ha : IntV w va x) (hb : IntV w vb y) (hx : x.natAbs < Big) (hy : y.natAbs < Big) (h0 : y ≠ 0) : Calls Tryz.prog 34 #[va, vb] w fun e w' => Res2 w w' e (qE x y) (rE x y) := (divmodI_any va vb x y w ha hb hx hy h0).mono fun e w' ⟨v1, v2, he, h1, h2, hb⟩ => by
  obtain ⟨n, a, k, c, rfl⟩ := h1.shape
  obtain ⟨n', a', k', c', rfl⟩ := h2.shape
  exact ⟨n, a, k, c, n', a', k', c', he, h1.r (dvs_bounds hx hy h0).2.2.1, h2.r (dvs_bounds hx hy h0).2.2.2.1, hb⟩
theorem absF (v : Value) (z : Int) (w : World) (h : IntV w v z) (hz : z.natAbs < Big) : Calls Tryz.prog 16 #[v] w fun e w' => Res0 w w' e (z.natAbs : Int) := (absI_any v z w h).mono fun e w' ⟨v', he, hi, hb⟩ => by
  obtain ⟨n, a, k, c, rfl⟩ := hi.shape
  exact ⟨n, a, k, c, he, hi.k.r (by rw [Int.natAbs_natCast]; exact hz), hb⟩
theorem negF (v : Value) (z : Int) (w : World) (h : IntV w v z) (hz : z.natAbs < Big) : Calls Tryz.prog 19 #[v] w fun e w' => Res0 w w' e (-z) := (neg_any v z w h).mono fun e w' ⟨v', he, hi, hb⟩ => by
  obtain ⟨n, a, k, c, rfl⟩ := hi.shape
  exact ⟨n, a, k, c, he, hi.k.r (by rw [Int.natAbs_neg]; exact hz), hb⟩
theorem ofF (n : Int) (w : World) (h1 : -9223372036854775808 ≤ n) (h2 : n ≤ 9223372036854775807) : Calls Tryz.prog 17 #[.int .i64 n] w fun e w' => Res0 w w' e n := (ofI_any n w h1 h2).mono fun e w' ⟨v', he, hi, hb⟩ => by
  obtain ⟨m, a, k, c, rfl⟩ := hi.shape
  exact ⟨m, a, k, c, he, hi.k.r (small_big (by omega)), hb⟩
theorem signF (v : Value) (z o : Int) (w : World) (h : IntV w v z) (ho : zcmp z 0 = o) : Calls Tryz.prog 14 #[v] w fun e w' => e = .returned (.int .i64 o) ∧ Below w.heap.size w w' := by
  subst ho; exact sign_any v z w h
set_option maxRecDepth 100000 in
theorem shortF (n : Bool) (ao : Option Addr) (k c : Nat) (w : World) (b : Bool) (hb : decide ((k : Int) ≤ 1000) = b) : Calls Tryz.prog 10 #[.agg #[.bool n, .slice ao k c]] w fun e w' => e = .returned (.bool b) ∧ Below w.heap.size w w' := by
  subst hb
  go_enter Tryz.func10, Tryz.ntmps10
  go_wp2
  go_ret
  exact ⟨rfl, (Below.refl _ _).alloc (Nat.le_refl _) _⟩

theorem near_bounds {x y : Int} (hx : x.natAbs < ShN) (hy : y.natAbs < ShN) (h0 : y ≠ 0) : x.natAbs < Big ∧ y.natAbs < Big ∧ (qU x y - qF x y).natAbs < Big ∧ (qF x y * y).natAbs < Big ∧ (x - qF x y * y).natAbs < Big := by
  have h1 := shn_big; have h2 := shn_le; have h3 := shn_pos
  have h4 := near_rest (a := x) h0
  have h5 := near_diff x y
  have h6 : (1 : Nat) < Big := by omega
  refine ⟨by omega, by omega, ?_, by omega, by omega⟩
  rw [h5]; split <;> omega
theorem div_bounds {x y : Int} (hx : x.natAbs < ShN) (hy : y.natAbs < ShN) (h0 : y ≠ 0) : x.natAbs < Big ∧ y.natAbs < Big ∧ (qC x y * y).natAbs < Big ∧ (qE x y * y).natAbs < Big ∧ (qC x y - qE x y).natAbs < Big := by
  have h1 := shn_big; have h2 := shn_le; have h3 := shn_pos
  have h4 := cut_again x y
  have h5 := rC_bounds (a := x) h0
  have h6 := e_again x y
  have h7 := rE_bounds (a := x) h0
  have h8 := qE_near x y
  exact ⟨by omega, by omega, by omega, by omega, by omega⟩
end Go.Proofs.YtfdilnfmcpbkgaaGreatDoor
