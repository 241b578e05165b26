/- 9RD 9RE. -/
import Derived.Test.YtehdfkafdpfdnaaGreatDoorUNA9
import Derived.Test.YtehdfkafdpfdnaaGreatDoorULiftV
import Derived.Test.YtehdfkafdpfdnaaGreatDoorUN7
import Derived.Deep.QuietTactic
import Derived.BigQuiet
set_option linter.unusedVariables false
set_option linter.unusedSimpArgs false
/- bits, tribunalref09: From, Of, Unsigned, Signed in one form (gen9rd.py). -/
namespace Go.Proofs.YtehdfkafdpfdnaaGreatDoor
open Go.RowKit Mth

/-- a vector and an error: in one form, whether there is one or none -/
def ResN (w w' : World) (e : Ending) (x er : Int) (n : Nat) : Prop := ∃ a k c, e = .returned (.tuple #[.agg #[.int .i64 x, .slice a k c], .int .i64 er]) ∧ SlN w' a k c n ∧ Below w.heap.size w w'
/-- a number and an error -/
def ResI (w w' : World) (e : Ending) (z er : Int) : Prop := ∃ n a k c, e = .returned (.tuple #[.agg #[.bool n, .slice a k c], .int .i64 er]) ∧ IntV w' (.agg #[.bool n, .slice a k c]) z ∧ Below w.heap.size w w'
def frX (x : Int) : Int := if isW x then x else 0
def frE (x : Int) : Int := if isW x then 0 else 55
def frN (x : Int) (z : Int) : Nat := if isW x then vecN x.toNat z else 0
theorem results_ie {fn : Func} {tmps : Array Value} {w : World} {g : Nat} {x0 x1 x2 : Value} {t s : Nat} (h : fn.results = #[.cell t 37, .tmp s]) (h1 : tmps.getD t undef = .pointer (some ⟨g, 0, none⟩)) (h2 : tmps.getD s undef = x2) (hb : w.heap[g]? = some (.cells #[x0, x1] 37 (0, 0))) :
    (results fn tmps).run Tryz.prog w = .ok (.tuple #[.agg #[x0, x1], x2]) w := by
  obtain ⟨c0, c1, _⟩ := blk2 hb
  rw [Array.getD_eq_getD_getElem?] at h1 h2
  simp [results, h, h1, h2, go_sem, c0, c1]
theorem from_form (x : Int) (va : Value) (z : Int) (w : World) (ha : IntV w va z) : Calls Tryz.prog 12 #[.int .i64 x, va] w fun e w' => ResN w w' e (frX x) (frE x) (frN x z) := by
  unfold frX frE frN
  cases hx : isW x
  · exact (from_bad x hx va z w ha).mono fun e w' ⟨he, hb⟩ => ⟨none, 0, 0, he, slN_nil w', hb⟩
  · have h : 1 ≤ x ∧ x ≤ 4096 := by unfold isW at hx; simpa using hx
    obtain ⟨wd, rfl⟩ := Int.eq_ofNat_of_zero_le (show 0 ≤ x by omega)
    exact (fromK wd (by omega) (by omega) va z w ha).mono fun e w' ⟨a, k, c, he, hk, hb⟩ => ⟨a, k, c, he, hk.n, hb⟩
theorem normR (v : Value) (z : Int) (w : World) (hz : z.natAbs < Big) (h : IntV w v z) : Calls Tryz.prog 26 #[v] w fun e w' => ∃ n a k c, e = .returned (.agg #[.bool n, .slice a k c]) ∧ IntV w' (.agg #[.bool n, .slice a k c]) z ∧ Below w.heap.size w w' := (normI_any v z w h).mono fun e w' ⟨v', he, hi, hb⟩ => by
  have hv := hi.intV hz
  obtain ⟨n, a, k, c, rfl⟩ := hv.shape
  exact ⟨n, a, k, c, he, hv, hb⟩
theorem unsR (v : Value) (wd n : Nat) (w : World) (h : BvV w v wd n) : Calls Tryz.prog 27 #[v] w fun e w' => ∃ n' a k c, e = .returned (.agg #[.bool n', .slice a k c]) ∧ IntV w' (.agg #[.bool n', .slice a k c]) (n : Int) ∧ Below w.heap.size w w' := (unsigned_any v wd n w h).mono fun e w' ⟨v', he, hv, hb⟩ => by
  obtain ⟨n, a, k, c, rfl⟩ := hv.shape
  exact ⟨n, a, k, c, he, hv, hb⟩
theorem sigR (v : Value) (wd n : Nat) (h1 : 1 ≤ wd) (h2 : wd ≤ 4096) (hn : n < 2 ^ wd) (w : World) (h : BvV w v wd n) : Calls Tryz.prog 28 #[v] w fun e w' => ∃ n' a k c, e = .returned (.agg #[.bool n', .slice a k c]) ∧ IntV w' (.agg #[.bool n', .slice a k c]) (sgV wd n) ∧ Below w.heap.size w w' := (signed_any v wd n h1 h2 hn w h).mono fun e w' ⟨v', he, hv, hb⟩ => by
  obtain ⟨n, a, k, c, rfl⟩ := hv.shape
  exact ⟨n, a, k, c, he, hv, hb⟩
theorem sgV_lt {wd n : Nat} (h2 : wd ≤ 4096) (hn : n < 2 ^ wd) : (sgV wd n).natAbs < Big := by
  have := (two_big h2).1
  unfold sgV
  split <;> omega
set_option maxHeartbeats 8000000 in
set_option maxRecDepth 100000 in
theorem uns_good (v : Value) (wd : Nat) (xs : List Nat) (h1 : 1 ≤ wd) (h2 : wd ≤ 4096) (hn : val B64 xs < 2 ^ wd) (w : World) (h : BvA w v (wd : Int) xs) : Calls Tryz.prog 10 #[v] w fun e w' => ResI w w' e (((val B64 xs : Nat) : Int)) 0 := by
  have RT : Hid (∀ w1, Below w.heap.size w w1 → Calls Tryz.prog 8 #[v] w1 fun e w' => e = .returned (.bool true) ∧ Below w1.heap.size w1 w') := Lib.hid (fun w1 hw => by
    have h := (h.below hw).right
    rw [right_fine h1 h2 hn] at h
    exact h)
  have hbig : (((val B64 xs : Nat) : Int)).natAbs < Big := (show val B64 xs < Big from Nat.lt_trans hn (two_big h2).1)
  have C1 : Hid (∀ w1, Below w.heap.size w w1 → Calls Tryz.prog 27 #[v] w1 fun e w' => ∃ n a k c, e = .returned (.agg #[.bool n, .slice a k c]) ∧ IntV w' (.agg #[.bool n, .slice a k c]) (((val B64 xs : Nat) : Int)) ∧ Below w1.heap.size w1 w') := Lib.hid (fun w1 hw => unsR v wd _ w1 (h.below hw).v)
  have C2 : Hid (∀ v w1, IntV w1 v (((val B64 xs : Nat) : Int)) → Calls Tryz.prog 26 #[v] w1 fun e w' => ∃ n a k c, e = .returned (.agg #[.bool n, .slice a k c]) ∧ IntV w' (.agg #[.bool n, .slice a k c]) (((val B64 xs : Nat) : Int)) ∧ Below w1.heap.size w1 w') := Lib.hid (fun v w1 hv => normR v _ w1 hbig hv)
  generalize ((val B64 xs : Nat) : Int) = z at *
  obtain ⟨u, rfl, s, -, -⟩ := h
  obtain ⟨ao, cap, rfl⟩ := s.shape
  generalize xs.length = kk at *
  obtain ⟨W, eW, g1, g2, bel, hsz⟩ := alloc2 w (Obj.cells #[.int .i64 (wd : Int), .slice ao kk cap] 25) (Obj.cells #[.bool false, .slice none 0 0] 37)
  have G1 := Lib.hid g1; have G2 := Lib.hid g2; have BL := Lib.hid bel
  obtain ⟨c0, c1, f0, f1, _⟩ := blk2 g1
  clear s g1 g2 bel hn hbig
  go_enter Tryz.func10, Tryz.ntmps10
  go_wp2_with fail
  try rw [eW]
  refine (RT.out _ BL.out).mono ?_
  rintro e w2 ⟨rfl, hb⟩
  have B2 := Lib.hid (below_of BL.out hb)
  have GA := Lib.hid (car hb G1.out); have GB := Lib.hid (car hb G2.out)
  obtain ⟨d0, d1, -, -, _⟩ := blk2 GA.out
  clear hb c0 c1 f0 f1
  go_wp2_with fail
  refine (C1.out _ B2.out).mono ?_
  rintro e w3 ⟨n3, a3, k3, c3, rfl, hz, hb⟩
  have CC := Lib.hid (C2.out _ w3 hz)
  have B3 := Lib.hid (below_of B2.out hb)
  have GC := Lib.hid (car hb GB.out)
  clear hz hb d0 d1
  go_wp2_with fail
  refine CC.out.mono ?_
  rintro e w4 ⟨n4, a4, k4, c4, rfl, hi, hb⟩
  have B4 := Lib.hid (below_of B3.out hb)
  have GS := Lib.hid (car hb GC.out)
  have HI := Lib.hid hi
  obtain ⟨q0, q1, r0, r1, _⟩ := blk2 GS.out
  clear hi hb
  go_wp2
  exact bodyPost_ret (results_ie rfl rfl rfl (set2_row _ _ GS.out)) rfl ⟨_, _, _, _, rfl, HI.out.far GS.out, (B4.out.setCell (by show w.heap.size ≤ w.heap.size + 1; omega) _).setCell (by show w.heap.size ≤ w.heap.size + 1; omega) _⟩
set_option maxHeartbeats 8000000 in
set_option maxRecDepth 100000 in
theorem sig_good (v : Value) (wd : Nat) (xs : List Nat) (h1 : 1 ≤ wd) (h2 : wd ≤ 4096) (hn : val B64 xs < 2 ^ wd) (w : World) (h : BvA w v (wd : Int) xs) : Calls Tryz.prog 11 #[v] w fun e w' => ResI w w' e (sgV wd (val B64 xs)) 0 := by
  have RT : Hid (∀ w1, Below w.heap.size w w1 → Calls Tryz.prog 8 #[v] w1 fun e w' => e = .returned (.bool true) ∧ Below w1.heap.size w1 w') := Lib.hid (fun w1 hw => by
    have h := (h.below hw).right
    rw [right_fine h1 h2 hn] at h
    exact h)
  have hbig : (sgV wd (val B64 xs)).natAbs < Big := sgV_lt h2 hn
  have C1 : Hid (∀ w1, Below w.heap.size w w1 → Calls Tryz.prog 28 #[v] w1 fun e w' => ∃ n a k c, e = .returned (.agg #[.bool n, .slice a k c]) ∧ IntV w' (.agg #[.bool n, .slice a k c]) (sgV wd (val B64 xs)) ∧ Below w1.heap.size w1 w') := Lib.hid (fun w1 hw => sigR v wd _ h1 h2 hn w1 (h.below hw).v)
  have C2 : Hid (∀ v w1, IntV w1 v (sgV wd (val B64 xs)) → Calls Tryz.prog 26 #[v] w1 fun e w' => ∃ n a k c, e = .returned (.agg #[.bool n, .slice a k c]) ∧ IntV w' (.agg #[.bool n, .slice a k c]) (sgV wd (val B64 xs)) ∧ Below w1.heap.size w1 w') := Lib.hid (fun v w1 hv => normR v _ w1 hbig hv)
  generalize sgV wd (val B64 xs) = z at *
  obtain ⟨u, rfl, s, -, -⟩ := h
  obtain ⟨ao, cap, rfl⟩ := s.shape
  generalize xs.length = kk at *
  obtain ⟨W, eW, g1, g2, bel, hsz⟩ := alloc2 w (Obj.cells #[.int .i64 (wd : Int), .slice ao kk cap] 25) (Obj.cells #[.bool false, .slice none 0 0] 37)
  have G1 := Lib.hid g1; have G2 := Lib.hid g2; have BL := Lib.hid bel
  obtain ⟨c0, c1, f0, f1, _⟩ := blk2 g1
  clear s g1 g2 bel hn hbig
  go_enter Tryz.func11, Tryz.ntmps11
  go_wp2_with fail
  try rw [eW]
  refine (RT.out _ BL.out).mono ?_
  rintro e w2 ⟨rfl, hb⟩
  have B2 := Lib.hid (below_of BL.out hb)
  have GA := Lib.hid (car hb G1.out); have GB := Lib.hid (car hb G2.out)
  obtain ⟨d0, d1, -, -, _⟩ := blk2 GA.out
  clear hb c0 c1 f0 f1
  go_wp2_with fail
  refine (C1.out _ B2.out).mono ?_
  rintro e w3 ⟨n3, a3, k3, c3, rfl, hz, hb⟩
  have CC := Lib.hid (C2.out _ w3 hz)
  have B3 := Lib.hid (below_of B2.out hb)
  have GC := Lib.hid (car hb GB.out)
  clear hz hb d0 d1
  go_wp2_with fail
  refine CC.out.mono ?_
  rintro e w4 ⟨n4, a4, k4, c4, rfl, hi, hb⟩
  have B4 := Lib.hid (below_of B3.out hb)
  have GS := Lib.hid (car hb GC.out)
  have HI := Lib.hid hi
  obtain ⟨q0, q1, r0, r1, _⟩ := blk2 GS.out
  clear hi hb
  go_wp2
  exact bodyPost_ret (results_ie rfl rfl rfl (set2_row _ _ GS.out)) rfl ⟨_, _, _, _, rfl, HI.out.far GS.out, (B4.out.setCell (by show w.heap.size ≤ w.heap.size + 1; omega) _).setCell (by show w.heap.size ≤ w.heap.size + 1; omega) _⟩
end Go.Proofs.YtehdfkafdpfdnaaGreatDoor

/- tribunalref09: kind, check, for orders (gen9re.py). -/
namespace Go.Proofs.YtehdfkafdpfdnaaGreatDoor
open Go.RowKit Mth

end Go.Proofs.YtehdfkafdpfdnaaGreatDoor
