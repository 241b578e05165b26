/- 9RD 9RE. -/
import Derived.Test.YtccofiakblmkhaaGreatE9NA9
import Derived.Test.YtccofiakblmkhaaGreatE9LiftV
import Derived.Test.YtccofiakblmkhaaGreatE9N7
import Derived.Deep.QuietTactic
import Derived.BigQuiet
set_option linter.unusedVariables false
set_option linter.unusedSimpArgs false
/- bits, tribunalref09: From, Of, Unsigned, Signed in one form (gen9rd.py). -/
namespace Go.Proofs.YtccofiakblmkhaaGreat
open Go.RowKit Mth

/-- a vector and an error: in one form, whether there is one or none -/
def ResN (w w' : World) (e : Ending) (x er : Int) (n : Nat) : Prop := ∃ a k c, e = .returned (.tuple #[.agg #[.int .i64 x, .slice a k c], .int .i64 er]) ∧ SlN w' a k c n ∧ Below w.heap.size w w'
/-- a number and an error -/
def ResI (w w' : World) (e : Ending) (z er : Int) : Prop := ∃ n a k c, e = .returned (.tuple #[.agg #[.bool n, .slice a k c], .int .i64 er]) ∧ IntV w' (.agg #[.bool n, .slice a k c]) z ∧ Below w.heap.size w w'
def frX (x : Int) : Int := if isW x then x else 0
def frE (x : Int) : Int := if isW x then 0 else 55
def frN (x : Int) (z : Int) : Nat := if isW x then vecN x.toNat z else 0
theorem results_ie {fn : Func} {tmps : Array Value} {w : World} {g : Nat} {x0 x1 x2 : Value} {t s : Nat} (h : fn.results = #[.cell t 26, .tmp s]) (h1 : tmps.getD t undef = .pointer (some ⟨g, 0, none⟩)) (h2 : tmps.getD s undef = x2) (hb : w.heap[g]? = some (.cells #[x0, x1] 26 (0, 0))) :
    (results fn tmps).run Tryz.prog w = .ok (.tuple #[.agg #[x0, x1], x2]) w := by
  obtain ⟨c0, c1, _⟩ := blk2 hb
  rw [Array.getD_eq_getD_getElem?] at h1 h2
  simp [results, h, h1, h2, go_sem, c0, c1]
theorem from_form (x : Int) (va : Value) (z : Int) (w : World) (ha : IntV w va z) : Calls Tryz.prog 14 #[.int .i64 x, va] w fun e w' => ResN w w' e (frX x) (frE x) (frN x z) := by
  unfold frX frE frN
  cases hx : isW x
  · exact (from_bad x hx va z w ha).mono fun e w' ⟨he, hb⟩ => ⟨none, 0, 0, he, slN_nil w', hb⟩
  · have h : 1 ≤ x ∧ x ≤ 4096 := by unfold isW at hx; simpa using hx
    obtain ⟨wd, rfl⟩ := Int.eq_ofNat_of_zero_le (show 0 ≤ x by omega)
    exact (fromK wd (by omega) (by omega) va z w ha).mono fun e w' ⟨a, k, c, he, hk, hb⟩ => ⟨a, k, c, he, hk.n, hb⟩
set_option maxHeartbeats 8000000 in
set_option maxRecDepth 100000 in
theorem rfrom_bad (x : Int) (hx : isW x = false) (va : Value) (z : Int) (w : World) (ha : IntV w va z) : Calls Tryz.prog 15 #[.int .i64 x, va] w fun e w' => ResN w w' e 0 55 0 := by
  obtain ⟨n0, a0, k0, c0, rfl⟩ := ha.shape
  obtain ⟨W, eW, g1, g2, bel, hsz⟩ := alloc2 w (Obj.cells #[.bool n0, .slice a0 k0 c0] 26) (Obj.cells #[.int .i64 0, .slice none 0 0] 28)
  have G2 := Lib.hid g2; have BL := Lib.hid bel
  obtain ⟨q0, q1, r0, r1, _⟩ := blk2 g2
  have hc : x < 1 ∨ (1 ≤ x ∧ 4096 < x) := by
    unfold isW at hx
    simp only [Bool.and_eq_false_iff, decide_eq_false_iff_not] at hx
    omega
  have EW := Lib.hid eW
  clear ha g1 g2 bel hx eW
  rcases hc with hc | ⟨hc, hc'⟩
  all_goals
    go_enter Tryz.func15, Tryz.ntmps15
    go_upto_region 1 with fail
    try rw [EW.out]
    go_wp2
    exact bodyPost_ret (results_bte rfl rfl rfl (set2_row _ _ G2.out)) rfl ⟨none, 0, 0, rfl, slN_nil _, (BL.out.setCell (by show w.heap.size ≤ w.heap.size + 1; omega) _).setCell (by show w.heap.size ≤ w.heap.size + 1; omega) _⟩
set_option maxHeartbeats 8000000 in
set_option maxRecDepth 100000 in
theorem rfrom_good (wd : Nat) (h1 : 1 ≤ wd) (h2 : wd ≤ 4096) (va : Value) (z : Int) (w : World) (ha : IntV w va z) : Calls Tryz.prog 15 #[.int .i64 (wd : Int), va] w fun e w' => ResN w w' e (wd : Int) 0 (vecN wd z) := by
  have hh : z.natAbs < HugeD := Nat.lt_of_lt_of_le ha.huge huge_d
  obtain ⟨n0, a0, k0, c0, rfl⟩ := ha.shape
  obtain ⟨W, eW, g1, g2, bel, hsz⟩ := alloc2 w (Obj.cells #[.bool n0, .slice a0 k0 c0] 26) (Obj.cells #[.int .i64 0, .slice none 0 0] 28)
  have G2 := Lib.hid g2; have BL := Lib.hid bel
  have FR := Lib.hid (from9 _ z W (ha.below bel))
  have MD : Hid (∀ v w1, ZV w1 v z → Calls Tryz.prog 37 #[.int .i64 (wd : Int), v] w1 fun e w' => ResV w1 w' e (wd : Int) (vecN wd z)) := Lib.hid (fun v w1 hv => rMod_any wd h2 v z w1 hv hh)
  generalize vecN wd z = m at *
  obtain ⟨c0, c1, f0, f1, _⟩ := blk2 g1
  clear ha g1 g2 bel hh
  go_enter Tryz.func15, Tryz.ntmps15
  go_wp2_with fail
  try rw [eW]
  refine FR.out.mono ?_
  rintro e w2 ⟨n2, a2, k2, c2, rfl, hz, hb⟩
  have MM := Lib.hid (MD.out _ w2 hz)
  have B2 := Lib.hid (below_of BL.out hb)
  have GR := Lib.hid (car hb G2.out)
  clear hz hb
  go_wp2_with fail
  refine MM.out.mono ?_
  rintro e w3 ⟨a3, k3, c3, rfl, hs, hb⟩
  have B3 := Lib.hid (below_of B2.out hb)
  have GS := Lib.hid (car hb GR.out)
  have HS := Lib.hid hs
  obtain ⟨q0, q1, r0, r1, _⟩ := blk2 GS.out
  clear hs hb
  go_wp2
  exact bodyPost_ret (results_bte rfl rfl rfl (set2_row _ _ GS.out)) rfl ⟨_, _, _, rfl, HS.out.far GS.out (fun z e => by cases e), (B3.out.setCell (by show w.heap.size ≤ w.heap.size + 1; omega) _).setCell (by show w.heap.size ≤ w.heap.size + 1; omega) _⟩
theorem rfrom_form (x : Int) (va : Value) (z : Int) (w : World) (ha : IntV w va z) : Calls Tryz.prog 15 #[.int .i64 x, va] w fun e w' => ResN w w' e (frX x) (frE x) (frN x z) := by
  unfold frX frE frN
  cases hx : isW x
  · exact rfrom_bad x hx va z w ha
  · have h : 1 ≤ x ∧ x ≤ 4096 := by unfold isW at hx; simpa using hx
    obtain ⟨wd, rfl⟩ := Int.eq_ofNat_of_zero_le (show 0 ≤ x by omega)
    exact rfrom_good wd (by omega) (by omega) va z w ha
set_option maxHeartbeats 8000000 in
set_option maxRecDepth 100000 in
theorem rof_form (x : Int) (n : Nat) (hn : n < B64) (w : World) : Calls Tryz.prog 13 #[.int .i64 x, .int .u64 (n : Int)] w fun e w' => ResN w w' e (frX x) (frE x) (frN x (n : Int)) := by
  obtain ⟨W, eW, gW, bW, hWs⟩ := alloc1n w (Obj.cells #[.int .i64 0, .slice none 0 0] 28)
  obtain ⟨V, eV, gV, bV, hVs⟩ := alloc1n W (Obj.cells #[.int .u64 (n : Int)] 22)
  have hw : W.heap.size = w.heap.size + 1 := by rw [← eW]; simp
  have hsl : Sl V .u64 (.slice (some ⟨W.heap.size, 0, none⟩) 1 1) [n] := ⟨_, 1, rfl, Nat.le_refl _, by unfold maxLen; omega, by simp, (fun e => by cases e), fun _ => ⟨W.heap.size, 0, rfl, hVs, fun j hj => by
    obtain rfl : j = 0 := by simpa using hj
    rw [cell_of_row _ _ _ _ _ (0, 0) gV]; rfl⟩⟩
  have FR := Lib.hid (rfrom_form x _ (n : Int) V (intV_of hsl (fun j => by
    match j with
    | 0 => exact hn
    | j + 1 => show 0 < B64; have := B64_pos; omega) (by simp) (by simp [val])))
  rw [hw] at FR
  have BV := Lib.hid (below_of bW bV)
  have GR := Lib.hid (car bV gW)
  generalize frX x = fx at *
  generalize frE x = fe at *
  generalize frN x (n : Int) = fn at *
  clear gW bW gV bV hsl
  go_enter Tryz.func13, Tryz.ntmps13
  go_wp2_with fail
  try rw [eW]
  try rw [eV]
  refine FR.out.mono ?_
  rintro e w3 ⟨a3, k3, c3, rfl, hs, hb⟩
  have B3 := Lib.hid (below_of BV.out hb)
  have GS := Lib.hid (car hb GR.out)
  have HS := Lib.hid hs
  obtain ⟨q0, q1, r0, r1, _⟩ := blk2 GS.out
  clear hs hb
  go_wp2
  exact bodyPost_ret (results_bte rfl rfl rfl (set2_row _ _ GS.out)) rfl ⟨_, _, _, rfl, HS.out.far GS.out (fun z e => by cases e), (B3.out.setCell (Nat.le_refl _) _).setCell (Nat.le_refl _) _⟩
set_option maxHeartbeats 8000000 in
set_option maxRecDepth 100000 in
theorem of_form (x : Int) (n : Nat) (hn : n < B64) (w : World) : Calls Tryz.prog 12 #[.int .i64 x, .int .u64 (n : Int)] w fun e w' => ResN w w' e (frX x) (frE x) (frN x (n : Int)) := by
  obtain ⟨W, eW, gW, bW, hWs⟩ := alloc1n w (Obj.cells #[.int .i64 0, .slice none 0 0] 28)
  have OF := Lib.hid (of_any n hn W)
  have FR : Hid (∀ w1 va, IntV w1 va (n : Int) → Calls Tryz.prog 14 #[.int .i64 x, va] w1 fun e w' => ResN w1 w' e (frX x) (frE x) (frN x (n : Int))) := Lib.hid (fun w1 va ha => from_form x va n w1 ha)
  have GW := Lib.hid gW; have BW := Lib.hid bW
  generalize frX x = fx at *
  generalize frE x = fe at *
  generalize frN x (n : Int) = fn at *
  clear gW bW
  have EW := Lib.hid eW
  clear eW
  go_enter Tryz.func12, Tryz.ntmps12
  go_wp2_with fail
  try rw [EW.out]
  refine OF.out.mono ?_
  rintro e w2 ⟨u, rfl, hb2, ys, s, l, t, ev⟩
  have hl : ys.length ≤ 4000000 := small_limbs (wd := 64) t ev (by unfold B64 at hn; exact hn) (by omega)
  have FF := Lib.hid (FR.out w2 _ (intV_of s l hl ev))
  have B2 := Lib.hid (below_of BW.out hb2)
  have G2 := Lib.hid ((hb2.block _ hWs).trans GW.out)
  obtain ⟨ao, cap, rfl⟩ := s.shape
  clear s l t ev hl hb2
  go_wp2_with fail
  refine FF.out.mono ?_
  rintro e w3 ⟨a3, k3, c3, rfl, hs, hb⟩
  have B3 := Lib.hid (below_of B2.out hb)
  have GS := Lib.hid (car hb G2.out)
  have HS := Lib.hid hs
  obtain ⟨q0, q1, r0, r1, _⟩ := blk2 GS.out
  clear hs hb
  go_wp2
  exact bodyPost_ret (results_bte rfl rfl rfl (set2_row _ _ GS.out)) rfl ⟨_, _, _, rfl, HS.out.far GS.out (fun z e => by cases e), (B3.out.setCell (Nat.le_refl _) _).setCell (Nat.le_refl _) _⟩
def usZ (x : Int) (n : Nat) : Int := if rightF x n then (n : Int) else 0
def sgZ (x : Int) (n : Nat) : Int := if rightF x n then sgV x.toNat n else 0
def rgE (x : Int) (n : Nat) : Int := if rightF x n then 0 else 90
theorem BvA.rright {w : World} {v : Value} {x : Int} {xs : List Nat} (h : BvA w v x xs) : Calls Tryz.prog 23 #[v] w fun e w' => e = .returned (.bool (rightF x (val B64 xs))) ∧ Below w.heap.size w w' := by
  obtain ⟨u, rfl, h1, h2, h3⟩ := h; exact rright_any x u xs w h1 h2
theorem normR (v : Value) (z : Int) (w : World) (hz : z.natAbs < Big) (h : IntV w v z) : Calls Tryz.prog 39 #[v] w fun e w' => ∃ n a k c, e = .returned (.agg #[.bool n, .slice a k c]) ∧ IntV w' (.agg #[.bool n, .slice a k c]) z ∧ Below w.heap.size w w' := (normI_any v z w h).mono fun e w' ⟨v', he, hi, hb⟩ => by
  have hv := hi.intV hz
  obtain ⟨n, a, k, c, rfl⟩ := hv.shape
  exact ⟨n, a, k, c, he, hv, hb⟩
theorem toR (v : Value) (z : Int) (w : World) (hz : z.natAbs < Big) (h : ZV w v z) : Calls Tryz.prog 41 #[v] w fun e w' => ∃ n a k c, e = .returned (.agg #[.bool n, .slice a k c]) ∧ IntV w' (.agg #[.bool n, .slice a k c]) z ∧ Below w.heap.size w w' := (to_any2 v z w h).mono fun e w' ⟨v', he, hi, hb⟩ => by
  have hv := hi.intV hz
  obtain ⟨n, a, k, c, rfl⟩ := hv.shape
  exact ⟨n, a, k, c, he, hv, hb⟩
theorem unsR (v : Value) (wd n : Nat) (w : World) (h : BvV w v wd n) : Calls Tryz.prog 40 #[v] w fun e w' => ∃ n' a k c, e = .returned (.agg #[.bool n', .slice a k c]) ∧ IntV w' (.agg #[.bool n', .slice a k c]) (n : Int) ∧ Below w.heap.size w w' := (unsigned_any v wd n w h).mono fun e w' ⟨v', he, hv, hb⟩ => by
  obtain ⟨n, a, k, c, rfl⟩ := hv.shape
  exact ⟨n, a, k, c, he, hv, hb⟩
theorem sigR (v : Value) (wd n : Nat) (h1 : 1 ≤ wd) (h2 : wd ≤ 4096) (hn : n < 2 ^ wd) (w : World) (h : BvV w v wd n) : Calls Tryz.prog 43 #[v] w fun e w' => ∃ n' a k c, e = .returned (.agg #[.bool n', .slice a k c]) ∧ IntV w' (.agg #[.bool n', .slice a k c]) (sgV wd n) ∧ Below w.heap.size w w' := (signed_any v wd n h1 h2 hn w h).mono fun e w' ⟨v', he, hv, hb⟩ => by
  obtain ⟨n, a, k, c, rfl⟩ := hv.shape
  exact ⟨n, a, k, c, he, hv, hb⟩
theorem sgV_lt {wd n : Nat} (h2 : wd ≤ 4096) (hn : n < 2 ^ wd) : (sgV wd n).natAbs < Big := by
  have := (two_big h2).1
  unfold sgV
  split <;> omega
set_option maxHeartbeats 8000000 in
set_option maxRecDepth 100000 in
theorem uns_bad (v : Value) (x : Int) (xs : List Nat) (hr : rightF x (val B64 xs) = false) (w : World) (h : BvA w v x xs) : Calls Tryz.prog 16 #[v] w fun e w' => ResI w w' e 0 90 := by
  have RT : Hid (∀ w1, Below w.heap.size w w1 → Calls Tryz.prog 22 #[v] w1 fun e w' => e = .returned (.bool false) ∧ Below w1.heap.size w1 w') := Lib.hid (fun w1 hw => by
    have h := (h.below hw).right
    rw [hr] at h
    exact h)
  obtain ⟨u, rfl, s, -, -⟩ := h
  obtain ⟨ao, cap, rfl⟩ := s.shape
  generalize xs.length = kk at *
  obtain ⟨W, eW, g1, g2, bel, hsz⟩ := alloc2 w (Obj.cells #[.int .i64 x, .slice ao kk cap] 28) (Obj.cells #[.bool false, .slice none 0 0] 26)
  have G2 := Lib.hid g2; have BL := Lib.hid bel
  obtain ⟨c0, c1, f0, f1, _⟩ := blk2 g1
  have EW := Lib.hid eW
  clear s g1 g2 bel hr eW
  go_enter Tryz.func16, Tryz.ntmps16
  go_wp2_with fail
  try rw [EW.out]
  refine (RT.out _ BL.out).mono ?_
  rintro e w2 ⟨rfl, hb⟩
  have B2 := Lib.hid (below_of BL.out hb)
  have GS := Lib.hid (car hb G2.out)
  obtain ⟨q0, q1, r0, r1, _⟩ := blk2 GS.out
  clear hb
  go_wp2
  refine bodyPost_ret (results_ie rfl rfl rfl (set2_row _ _ GS.out)) rfl ⟨_, _, _, _, rfl, ?_, (B2.out.setCell (by show w.heap.size ≤ w.heap.size + 1; omega) _).setCell (by show w.heap.size ≤ w.heap.size + 1; omega) _⟩
  exact ⟨false, _, [], rfl, sl_nil _ _, lim_nil (by have := B64_pos; omega), by simp, rfl⟩
set_option maxHeartbeats 8000000 in
set_option maxRecDepth 100000 in
theorem uns_good (v : Value) (wd : Nat) (xs : List Nat) (h1 : 1 ≤ wd) (h2 : wd ≤ 4096) (hn : val B64 xs < 2 ^ wd) (w : World) (h : BvA w v (wd : Int) xs) : Calls Tryz.prog 16 #[v] w fun e w' => ResI w w' e (((val B64 xs : Nat) : Int)) 0 := by
  have RT : Hid (∀ w1, Below w.heap.size w w1 → Calls Tryz.prog 22 #[v] w1 fun e w' => e = .returned (.bool true) ∧ Below w1.heap.size w1 w') := Lib.hid (fun w1 hw => by
    have h := (h.below hw).right
    rw [right_fine h1 h2 hn] at h
    exact h)
  have hbig : (((val B64 xs : Nat) : Int)).natAbs < Big := (show val B64 xs < Big from Nat.lt_trans hn (two_big h2).1)
  have C1 : Hid (∀ w1, Below w.heap.size w w1 → Calls Tryz.prog 40 #[v] w1 fun e w' => ∃ n a k c, e = .returned (.agg #[.bool n, .slice a k c]) ∧ IntV w' (.agg #[.bool n, .slice a k c]) (((val B64 xs : Nat) : Int)) ∧ Below w1.heap.size w1 w') := Lib.hid (fun w1 hw => unsR v wd _ w1 (h.below hw).v)
  have C2 : Hid (∀ v w1, IntV w1 v (((val B64 xs : Nat) : Int)) → Calls Tryz.prog 39 #[v] w1 fun e w' => ∃ n a k c, e = .returned (.agg #[.bool n, .slice a k c]) ∧ IntV w' (.agg #[.bool n, .slice a k c]) (((val B64 xs : Nat) : Int)) ∧ Below w1.heap.size w1 w') := Lib.hid (fun v w1 hv => normR v _ w1 hbig hv)
  generalize ((val B64 xs : Nat) : Int) = z at *
  obtain ⟨u, rfl, s, -, -⟩ := h
  obtain ⟨ao, cap, rfl⟩ := s.shape
  generalize xs.length = kk at *
  obtain ⟨W, eW, g1, g2, bel, hsz⟩ := alloc2 w (Obj.cells #[.int .i64 (wd : Int), .slice ao kk cap] 28) (Obj.cells #[.bool false, .slice none 0 0] 26)
  have G1 := Lib.hid g1; have G2 := Lib.hid g2; have BL := Lib.hid bel
  obtain ⟨c0, c1, f0, f1, _⟩ := blk2 g1
  clear s g1 g2 bel hn hbig
  go_enter Tryz.func16, Tryz.ntmps16
  go_wp2_with fail
  try rw [eW]
  refine (RT.out _ BL.out).mono ?_
  rintro e w2 ⟨rfl, hb⟩
  have B2 := Lib.hid (below_of BL.out hb)
  have GA := Lib.hid (car hb G1.out); have GB := Lib.hid (car hb G2.out)
  obtain ⟨d0, d1, -, -, _⟩ := blk2 GA.out
  clear hb c0 c1 f0 f1
  go_wp2_with fail
  refine (C1.out _ B2.out).mono ?_
  rintro e w3 ⟨n3, a3, k3, c3, rfl, hz, hb⟩
  have CC := Lib.hid (C2.out _ w3 hz)
  have B3 := Lib.hid (below_of B2.out hb)
  have GC := Lib.hid (car hb GB.out)
  clear hz hb d0 d1
  go_wp2_with fail
  refine CC.out.mono ?_
  rintro e w4 ⟨n4, a4, k4, c4, rfl, hi, hb⟩
  have B4 := Lib.hid (below_of B3.out hb)
  have GS := Lib.hid (car hb GC.out)
  have HI := Lib.hid hi
  obtain ⟨q0, q1, r0, r1, _⟩ := blk2 GS.out
  clear hi hb
  go_wp2
  exact bodyPost_ret (results_ie rfl rfl rfl (set2_row _ _ GS.out)) rfl ⟨_, _, _, _, rfl, HI.out.far GS.out, (B4.out.setCell (by show w.heap.size ≤ w.heap.size + 1; omega) _).setCell (by show w.heap.size ≤ w.heap.size + 1; omega) _⟩
theorem uns_form (v : Value) (x : Int) (xs : List Nat) (w : World) (h : BvA w v x xs) : Calls Tryz.prog 16 #[v] w fun e w' => ResI w w' e (usZ x (val B64 xs)) (rgE x (val B64 xs)) := by
  unfold usZ rgE
  cases hr : rightF x (val B64 xs)
  · exact uns_bad v x xs hr w h
  · obtain ⟨wd, rfl, h1, h2, h3⟩ := right_nat hr
    exact uns_good v wd xs h1 h2 h3 w h
set_option maxHeartbeats 8000000 in
set_option maxRecDepth 100000 in
theorem sig_bad (v : Value) (x : Int) (xs : List Nat) (hr : rightF x (val B64 xs) = false) (w : World) (h : BvA w v x xs) : Calls Tryz.prog 18 #[v] w fun e w' => ResI w w' e 0 90 := by
  have RT : Hid (∀ w1, Below w.heap.size w w1 → Calls Tryz.prog 22 #[v] w1 fun e w' => e = .returned (.bool false) ∧ Below w1.heap.size w1 w') := Lib.hid (fun w1 hw => by
    have h := (h.below hw).right
    rw [hr] at h
    exact h)
  obtain ⟨u, rfl, s, -, -⟩ := h
  obtain ⟨ao, cap, rfl⟩ := s.shape
  generalize xs.length = kk at *
  obtain ⟨W, eW, g1, g2, bel, hsz⟩ := alloc2 w (Obj.cells #[.int .i64 x, .slice ao kk cap] 28) (Obj.cells #[.bool false, .slice none 0 0] 26)
  have G2 := Lib.hid g2; have BL := Lib.hid bel
  obtain ⟨c0, c1, f0, f1, _⟩ := blk2 g1
  have EW := Lib.hid eW
  clear s g1 g2 bel hr eW
  go_enter Tryz.func18, Tryz.ntmps18
  go_wp2_with fail
  try rw [EW.out]
  refine (RT.out _ BL.out).mono ?_
  rintro e w2 ⟨rfl, hb⟩
  have B2 := Lib.hid (below_of BL.out hb)
  have GS := Lib.hid (car hb G2.out)
  obtain ⟨q0, q1, r0, r1, _⟩ := blk2 GS.out
  clear hb
  go_wp2
  refine bodyPost_ret (results_ie rfl rfl rfl (set2_row _ _ GS.out)) rfl ⟨_, _, _, _, rfl, ?_, (B2.out.setCell (by show w.heap.size ≤ w.heap.size + 1; omega) _).setCell (by show w.heap.size ≤ w.heap.size + 1; omega) _⟩
  exact ⟨false, _, [], rfl, sl_nil _ _, lim_nil (by have := B64_pos; omega), by simp, rfl⟩
set_option maxHeartbeats 8000000 in
set_option maxRecDepth 100000 in
theorem sig_good (v : Value) (wd : Nat) (xs : List Nat) (h1 : 1 ≤ wd) (h2 : wd ≤ 4096) (hn : val B64 xs < 2 ^ wd) (w : World) (h : BvA w v (wd : Int) xs) : Calls Tryz.prog 18 #[v] w fun e w' => ResI w w' e (sgV wd (val B64 xs)) 0 := by
  have RT : Hid (∀ w1, Below w.heap.size w w1 → Calls Tryz.prog 22 #[v] w1 fun e w' => e = .returned (.bool true) ∧ Below w1.heap.size w1 w') := Lib.hid (fun w1 hw => by
    have h := (h.below hw).right
    rw [right_fine h1 h2 hn] at h
    exact h)
  have hbig : (sgV wd (val B64 xs)).natAbs < Big := sgV_lt h2 hn
  have C1 : Hid (∀ w1, Below w.heap.size w w1 → Calls Tryz.prog 43 #[v] w1 fun e w' => ∃ n a k c, e = .returned (.agg #[.bool n, .slice a k c]) ∧ IntV w' (.agg #[.bool n, .slice a k c]) (sgV wd (val B64 xs)) ∧ Below w1.heap.size w1 w') := Lib.hid (fun w1 hw => sigR v wd _ h1 h2 hn w1 (h.below hw).v)
  have C2 : Hid (∀ v w1, IntV w1 v (sgV wd (val B64 xs)) → Calls Tryz.prog 39 #[v] w1 fun e w' => ∃ n a k c, e = .returned (.agg #[.bool n, .slice a k c]) ∧ IntV w' (.agg #[.bool n, .slice a k c]) (sgV wd (val B64 xs)) ∧ Below w1.heap.size w1 w') := Lib.hid (fun v w1 hv => normR v _ w1 hbig hv)
  generalize sgV wd (val B64 xs) = z at *
  obtain ⟨u, rfl, s, -, -⟩ := h
  obtain ⟨ao, cap, rfl⟩ := s.shape
  generalize xs.length = kk at *
  obtain ⟨W, eW, g1, g2, bel, hsz⟩ := alloc2 w (Obj.cells #[.int .i64 (wd : Int), .slice ao kk cap] 28) (Obj.cells #[.bool false, .slice none 0 0] 26)
  have G1 := Lib.hid g1; have G2 := Lib.hid g2; have BL := Lib.hid bel
  obtain ⟨c0, c1, f0, f1, _⟩ := blk2 g1
  clear s g1 g2 bel hn hbig
  go_enter Tryz.func18, Tryz.ntmps18
  go_wp2_with fail
  try rw [eW]
  refine (RT.out _ BL.out).mono ?_
  rintro e w2 ⟨rfl, hb⟩
  have B2 := Lib.hid (below_of BL.out hb)
  have GA := Lib.hid (car hb G1.out); have GB := Lib.hid (car hb G2.out)
  obtain ⟨d0, d1, -, -, _⟩ := blk2 GA.out
  clear hb c0 c1 f0 f1
  go_wp2_with fail
  refine (C1.out _ B2.out).mono ?_
  rintro e w3 ⟨n3, a3, k3, c3, rfl, hz, hb⟩
  have CC := Lib.hid (C2.out _ w3 hz)
  have B3 := Lib.hid (below_of B2.out hb)
  have GC := Lib.hid (car hb GB.out)
  clear hz hb d0 d1
  go_wp2_with fail
  refine CC.out.mono ?_
  rintro e w4 ⟨n4, a4, k4, c4, rfl, hi, hb⟩
  have B4 := Lib.hid (below_of B3.out hb)
  have GS := Lib.hid (car hb GC.out)
  have HI := Lib.hid hi
  obtain ⟨q0, q1, r0, r1, _⟩ := blk2 GS.out
  clear hi hb
  go_wp2
  exact bodyPost_ret (results_ie rfl rfl rfl (set2_row _ _ GS.out)) rfl ⟨_, _, _, _, rfl, HI.out.far GS.out, (B4.out.setCell (by show w.heap.size ≤ w.heap.size + 1; omega) _).setCell (by show w.heap.size ≤ w.heap.size + 1; omega) _⟩
theorem sig_form (v : Value) (x : Int) (xs : List Nat) (w : World) (h : BvA w v x xs) : Calls Tryz.prog 18 #[v] w fun e w' => ResI w w' e (sgZ x (val B64 xs)) (rgE x (val B64 xs)) := by
  unfold sgZ rgE
  cases hr : rightF x (val B64 xs)
  · exact sig_bad v x xs hr w h
  · obtain ⟨wd, rfl, h1, h2, h3⟩ := right_nat hr
    exact sig_good v wd xs h1 h2 h3 w h
theorem BvA.u {w : World} {v : Value} {x : Int} {xs : List Nat} (h : BvA w v x xs) : Calls Tryz.prog 42 #[v] w fun e w' => ResZ9 w w' e (val B64 xs : Nat) := by
  obtain ⟨u, rfl, h1, h2, h3⟩ := h; exact rU_any x u xs w h1 h2 h3
set_option maxHeartbeats 8000000 in
set_option maxRecDepth 100000 in
theorem runs_bad (v : Value) (x : Int) (xs : List Nat) (hr : rightF x (val B64 xs) = false) (w : World) (h : BvA w v x xs) : Calls Tryz.prog 17 #[v] w fun e w' => ResI w w' e 0 90 := by
  have RT : Hid (∀ w1, Below w.heap.size w w1 → Calls Tryz.prog 23 #[v] w1 fun e w' => e = .returned (.bool false) ∧ Below w1.heap.size w1 w') := Lib.hid (fun w1 hw => by
    have h := (h.below hw).rright
    rw [hr] at h
    exact h)
  obtain ⟨u, rfl, s, -, -⟩ := h
  obtain ⟨ao, cap, rfl⟩ := s.shape
  generalize xs.length = kk at *
  obtain ⟨W, eW, g1, g2, bel, hsz⟩ := alloc2 w (Obj.cells #[.int .i64 x, .slice ao kk cap] 28) (Obj.cells #[.bool false, .slice none 0 0] 26)
  have G2 := Lib.hid g2; have BL := Lib.hid bel
  obtain ⟨c0, c1, f0, f1, _⟩ := blk2 g1
  have EW := Lib.hid eW
  clear s g1 g2 bel hr eW
  go_enter Tryz.func17, Tryz.ntmps17
  go_wp2_with fail
  try rw [EW.out]
  refine (RT.out _ BL.out).mono ?_
  rintro e w2 ⟨rfl, hb⟩
  have B2 := Lib.hid (below_of BL.out hb)
  have GS := Lib.hid (car hb G2.out)
  obtain ⟨q0, q1, r0, r1, _⟩ := blk2 GS.out
  clear hb
  go_wp2
  refine bodyPost_ret (results_ie rfl rfl rfl (set2_row _ _ GS.out)) rfl ⟨_, _, _, _, rfl, ?_, (B2.out.setCell (by show w.heap.size ≤ w.heap.size + 1; omega) _).setCell (by show w.heap.size ≤ w.heap.size + 1; omega) _⟩
  exact ⟨false, _, [], rfl, sl_nil _ _, lim_nil (by have := B64_pos; omega), by simp, rfl⟩
set_option maxHeartbeats 8000000 in
set_option maxRecDepth 100000 in
theorem runs_good (v : Value) (wd : Nat) (xs : List Nat) (h1 : 1 ≤ wd) (h2 : wd ≤ 4096) (hn : val B64 xs < 2 ^ wd) (w : World) (h : BvA w v (wd : Int) xs) : Calls Tryz.prog 17 #[v] w fun e w' => ResI w w' e (((val B64 xs : Nat) : Int)) 0 := by
  have RT : Hid (∀ w1, Below w.heap.size w w1 → Calls Tryz.prog 23 #[v] w1 fun e w' => e = .returned (.bool true) ∧ Below w1.heap.size w1 w') := Lib.hid (fun w1 hw => by
    have h := (h.below hw).rright
    rw [right_fine h1 h2 hn] at h
    exact h)
  have hbig : (((val B64 xs : Nat) : Int)).natAbs < Big := (show val B64 xs < Big from Nat.lt_trans hn (two_big h2).1)
  have C1 : Hid (∀ w1, Below w.heap.size w w1 → Calls Tryz.prog 42 #[v] w1 fun e w' => ResZ9 w1 w' e (((val B64 xs : Nat) : Int))) := Lib.hid (fun w1 hw => (h.below hw).u)
  have C2 : Hid (∀ v w1, ZV w1 v (((val B64 xs : Nat) : Int)) → Calls Tryz.prog 41 #[v] w1 fun e w' => ∃ n a k c, e = .returned (.agg #[.bool n, .slice a k c]) ∧ IntV w' (.agg #[.bool n, .slice a k c]) (((val B64 xs : Nat) : Int)) ∧ Below w1.heap.size w1 w') := Lib.hid (fun v w1 hv => toR v _ w1 hbig hv)
  generalize ((val B64 xs : Nat) : Int) = z at *
  obtain ⟨u, rfl, s, -, -⟩ := h
  obtain ⟨ao, cap, rfl⟩ := s.shape
  generalize xs.length = kk at *
  obtain ⟨W, eW, g1, g2, bel, hsz⟩ := alloc2 w (Obj.cells #[.int .i64 (wd : Int), .slice ao kk cap] 28) (Obj.cells #[.bool false, .slice none 0 0] 26)
  have G1 := Lib.hid g1; have G2 := Lib.hid g2; have BL := Lib.hid bel
  obtain ⟨c0, c1, f0, f1, _⟩ := blk2 g1
  clear s g1 g2 bel hn hbig
  go_enter Tryz.func17, Tryz.ntmps17
  go_wp2_with fail
  try rw [eW]
  refine (RT.out _ BL.out).mono ?_
  rintro e w2 ⟨rfl, hb⟩
  have B2 := Lib.hid (below_of BL.out hb)
  have GA := Lib.hid (car hb G1.out); have GB := Lib.hid (car hb G2.out)
  obtain ⟨d0, d1, -, -, _⟩ := blk2 GA.out
  clear hb c0 c1 f0 f1
  go_wp2_with fail
  refine (C1.out _ B2.out).mono ?_
  rintro e w3 ⟨n3, a3, k3, c3, rfl, hz, hb⟩
  have CC := Lib.hid (C2.out _ w3 hz)
  have B3 := Lib.hid (below_of B2.out hb)
  have GC := Lib.hid (car hb GB.out)
  clear hz hb d0 d1
  go_wp2_with fail
  refine CC.out.mono ?_
  rintro e w4 ⟨n4, a4, k4, c4, rfl, hi, hb⟩
  have B4 := Lib.hid (below_of B3.out hb)
  have GS := Lib.hid (car hb GC.out)
  have HI := Lib.hid hi
  obtain ⟨q0, q1, r0, r1, _⟩ := blk2 GS.out
  clear hi hb
  go_wp2
  exact bodyPost_ret (results_ie rfl rfl rfl (set2_row _ _ GS.out)) rfl ⟨_, _, _, _, rfl, HI.out.far GS.out, (B4.out.setCell (by show w.heap.size ≤ w.heap.size + 1; omega) _).setCell (by show w.heap.size ≤ w.heap.size + 1; omega) _⟩
theorem runs_form (v : Value) (x : Int) (xs : List Nat) (w : World) (h : BvA w v x xs) : Calls Tryz.prog 17 #[v] w fun e w' => ResI w w' e (usZ x (val B64 xs)) (rgE x (val B64 xs)) := by
  unfold usZ rgE
  cases hr : rightF x (val B64 xs)
  · exact runs_bad v x xs hr w h
  · obtain ⟨wd, rfl, h1, h2, h3⟩ := right_nat hr
    exact runs_good v wd xs h1 h2 h3 w h
set_option maxHeartbeats 8000000 in
set_option maxRecDepth 100000 in
theorem rsig_bad (v : Value) (x : Int) (xs : List Nat) (hr : rightF x (val B64 xs) = false) (w : World) (h : BvA w v x xs) : Calls Tryz.prog 19 #[v] w fun e w' => ResI w w' e 0 90 := by
  have RT : Hid (∀ w1, Below w.heap.size w w1 → Calls Tryz.prog 23 #[v] w1 fun e w' => e = .returned (.bool false) ∧ Below w1.heap.size w1 w') := Lib.hid (fun w1 hw => by
    have h := (h.below hw).rright
    rw [hr] at h
    exact h)
  obtain ⟨u, rfl, s, -, -⟩ := h
  obtain ⟨ao, cap, rfl⟩ := s.shape
  generalize xs.length = kk at *
  obtain ⟨W, eW, g1, g2, bel, hsz⟩ := alloc2 w (Obj.cells #[.int .i64 x, .slice ao kk cap] 28) (Obj.cells #[.bool false, .slice none 0 0] 26)
  have G2 := Lib.hid g2; have BL := Lib.hid bel
  obtain ⟨c0, c1, f0, f1, _⟩ := blk2 g1
  have EW := Lib.hid eW
  clear s g1 g2 bel hr eW
  go_enter Tryz.func19, Tryz.ntmps19
  go_wp2_with fail
  try rw [EW.out]
  refine (RT.out _ BL.out).mono ?_
  rintro e w2 ⟨rfl, hb⟩
  have B2 := Lib.hid (below_of BL.out hb)
  have GS := Lib.hid (car hb G2.out)
  obtain ⟨q0, q1, r0, r1, _⟩ := blk2 GS.out
  clear hb
  go_wp2
  refine bodyPost_ret (results_ie rfl rfl rfl (set2_row _ _ GS.out)) rfl ⟨_, _, _, _, rfl, ?_, (B2.out.setCell (by show w.heap.size ≤ w.heap.size + 1; omega) _).setCell (by show w.heap.size ≤ w.heap.size + 1; omega) _⟩
  exact ⟨false, _, [], rfl, sl_nil _ _, lim_nil (by have := B64_pos; omega), by simp, rfl⟩
set_option maxHeartbeats 8000000 in
set_option maxRecDepth 100000 in
theorem rsig_good (v : Value) (wd : Nat) (xs : List Nat) (h1 : 1 ≤ wd) (h2 : wd ≤ 4096) (hn : val B64 xs < 2 ^ wd) (w : World) (h : BvA w v (wd : Int) xs) : Calls Tryz.prog 19 #[v] w fun e w' => ResI w w' e (sgV wd (val B64 xs)) 0 := by
  have RT : Hid (∀ w1, Below w.heap.size w w1 → Calls Tryz.prog 23 #[v] w1 fun e w' => e = .returned (.bool true) ∧ Below w1.heap.size w1 w') := Lib.hid (fun w1 hw => by
    have h := (h.below hw).rright
    rw [right_fine h1 h2 hn] at h
    exact h)
  have hbig : (sgV wd (val B64 xs)).natAbs < Big := sgV_lt h2 hn
  have C1 : Hid (∀ w1, Below w.heap.size w w1 → Calls Tryz.prog 44 #[v] w1 fun e w' => ResZ9 w1 w' e (sgV wd (val B64 xs))) := Lib.hid (fun w1 hw => rS_any v wd _ h1 h2 hn w1 (h.below hw).v)
  have C2 : Hid (∀ v w1, ZV w1 v (sgV wd (val B64 xs)) → Calls Tryz.prog 41 #[v] w1 fun e w' => ∃ n a k c, e = .returned (.agg #[.bool n, .slice a k c]) ∧ IntV w' (.agg #[.bool n, .slice a k c]) (sgV wd (val B64 xs)) ∧ Below w1.heap.size w1 w') := Lib.hid (fun v w1 hv => toR v _ w1 hbig hv)
  generalize sgV wd (val B64 xs) = z at *
  obtain ⟨u, rfl, s, -, -⟩ := h
  obtain ⟨ao, cap, rfl⟩ := s.shape
  generalize xs.length = kk at *
  obtain ⟨W, eW, g1, g2, bel, hsz⟩ := alloc2 w (Obj.cells #[.int .i64 (wd : Int), .slice ao kk cap] 28) (Obj.cells #[.bool false, .slice none 0 0] 26)
  have G1 := Lib.hid g1; have G2 := Lib.hid g2; have BL := Lib.hid bel
  obtain ⟨c0, c1, f0, f1, _⟩ := blk2 g1
  clear s g1 g2 bel hn hbig
  go_enter Tryz.func19, Tryz.ntmps19
  go_wp2_with fail
  try rw [eW]
  refine (RT.out _ BL.out).mono ?_
  rintro e w2 ⟨rfl, hb⟩
  have B2 := Lib.hid (below_of BL.out hb)
  have GA := Lib.hid (car hb G1.out); have GB := Lib.hid (car hb G2.out)
  obtain ⟨d0, d1, -, -, _⟩ := blk2 GA.out
  clear hb c0 c1 f0 f1
  go_wp2_with fail
  refine (C1.out _ B2.out).mono ?_
  rintro e w3 ⟨n3, a3, k3, c3, rfl, hz, hb⟩
  have CC := Lib.hid (C2.out _ w3 hz)
  have B3 := Lib.hid (below_of B2.out hb)
  have GC := Lib.hid (car hb GB.out)
  clear hz hb d0 d1
  go_wp2_with fail
  refine CC.out.mono ?_
  rintro e w4 ⟨n4, a4, k4, c4, rfl, hi, hb⟩
  have B4 := Lib.hid (below_of B3.out hb)
  have GS := Lib.hid (car hb GC.out)
  have HI := Lib.hid hi
  obtain ⟨q0, q1, r0, r1, _⟩ := blk2 GS.out
  clear hi hb
  go_wp2
  exact bodyPost_ret (results_ie rfl rfl rfl (set2_row _ _ GS.out)) rfl ⟨_, _, _, _, rfl, HI.out.far GS.out, (B4.out.setCell (by show w.heap.size ≤ w.heap.size + 1; omega) _).setCell (by show w.heap.size ≤ w.heap.size + 1; omega) _⟩
theorem rsig_form (v : Value) (x : Int) (xs : List Nat) (w : World) (h : BvA w v x xs) : Calls Tryz.prog 19 #[v] w fun e w' => ResI w w' e (sgZ x (val B64 xs)) (rgE x (val B64 xs)) := by
  unfold sgZ rgE
  cases hr : rightF x (val B64 xs)
  · exact rsig_bad v x xs hr w h
  · obtain ⟨wd, rfl, h1, h2, h3⟩ := right_nat hr
    exact rsig_good v wd xs h1 h2 h3 w h
end Go.Proofs.YtccofiakblmkhaaGreat

/- tribunalref09: kind, check, for orders (gen9re.py). -/
namespace Go.Proofs.YtccofiakblmkhaaGreat
open Go.RowKit Mth

set_option maxHeartbeats 16000000 in
set_option maxRecDepth 100000 in
theorem kind_in (op : Int) (h1 : 68 ≤ op) (h2 : op ≤ 75) (w : World) : Calls Tryz.prog 85 #[.int .i64 op] w fun e w' => e = .returned (.tuple #[.int .i64 2, .int .i64 2, .int .i64 0]) ∧ w' = w := by
  have d41 : (op == 41) = false := beq_eq_false_iff_ne.2 (by omega)
  have d51 : (op == 51) = false := beq_eq_false_iff_ne.2 (by omega)
  have d42 : (op == 42) = false := beq_eq_false_iff_ne.2 (by omega)
  have d63 : (op == 63) = false := beq_eq_false_iff_ne.2 (by omega)
  have d64 : (op == 64) = false := beq_eq_false_iff_ne.2 (by omega)
  have d65 : (op == 65) = false := beq_eq_false_iff_ne.2 (by omega)
  have d66 : (op == 66) = false := beq_eq_false_iff_ne.2 (by omega)
  have d67 : (op == 67) = false := beq_eq_false_iff_ne.2 (by omega)
  have d43 : (op == 43) = false := beq_eq_false_iff_ne.2 (by omega)
  have d44 : (op == 44) = false := beq_eq_false_iff_ne.2 (by omega)
  have c1 : ¬ op ≤ 62 := by omega
  have c2 : 45 ≤ op := by omega
  go_enter Tryz.func85, Tryz.ntmps85
  go_wp2
  go_ret3
  exact ⟨rfl, rfl⟩
def KindO (w : World) (e : Ending) (w' : World) : Prop := ∃ k n m : Int, e = .returned (.tuple #[.int .i64 k, .int .i64 n, .int .i64 m]) ∧ k ≠ 2 ∧ w' = w
set_option maxHeartbeats 16000000 in
set_option maxRecDepth 100000 in
theorem kind_out (op : Int) (h : op < 68 ∨ 75 < op) (w : World) : Calls Tryz.prog 85 #[.int .i64 op] w (KindO w) := by
  have hh : ¬ (68 ≤ op ∧ op ≤ 75) := by omega
  rcases (show op = 41 ∨ op = 51 ∨ op = 42 ∨ op = 63 ∨ op = 64 ∨ op = 65 ∨ op = 66 ∨ op = 67 ∨ op = 43 ∨ op = 44 ∨ ((45 ≤ op ∧ op ≤ 62) ∧ op ≠ 51) ∨ (op < 41) ∨ (75 < op) by omega) with rfl | rfl | rfl | rfl | rfl | rfl | rfl | rfl | rfl | rfl | ⟨⟨c1, c2⟩, c3⟩ | c1 | c1
  · clear h hh
    go_enter Tryz.func85, Tryz.ntmps85
    go_wp2
    go_ret3
    exact ⟨_, _, _, rfl, by omega, rfl⟩
  · clear h hh
    go_enter Tryz.func85, Tryz.ntmps85
    go_wp2
    go_ret3
    exact ⟨_, _, _, rfl, by omega, rfl⟩
  · clear h hh
    go_enter Tryz.func85, Tryz.ntmps85
    go_wp2
    go_ret3
    exact ⟨_, _, _, rfl, by omega, rfl⟩
  · clear h hh
    go_enter Tryz.func85, Tryz.ntmps85
    go_wp2
    go_ret3
    exact ⟨_, _, _, rfl, by omega, rfl⟩
  · clear h hh
    go_enter Tryz.func85, Tryz.ntmps85
    go_wp2
    go_ret3
    exact ⟨_, _, _, rfl, by omega, rfl⟩
  · clear h hh
    go_enter Tryz.func85, Tryz.ntmps85
    go_wp2
    go_ret3
    exact ⟨_, _, _, rfl, by omega, rfl⟩
  · clear h hh
    go_enter Tryz.func85, Tryz.ntmps85
    go_wp2
    go_ret3
    exact ⟨_, _, _, rfl, by omega, rfl⟩
  · clear h hh
    go_enter Tryz.func85, Tryz.ntmps85
    go_wp2
    go_ret3
    exact ⟨_, _, _, rfl, by omega, rfl⟩
  · clear h hh
    go_enter Tryz.func85, Tryz.ntmps85
    go_wp2
    go_ret3
    exact ⟨_, _, _, rfl, by omega, rfl⟩
  · clear h hh
    go_enter Tryz.func85, Tryz.ntmps85
    go_wp2
    go_ret3
    exact ⟨_, _, _, rfl, by omega, rfl⟩
  · clear h hh
    have d41 : (op == 41) = false := beq_eq_false_iff_ne.2 (by omega)
    have d51 : (op == 51) = false := beq_eq_false_iff_ne.2 (by omega)
    have d42 : (op == 42) = false := beq_eq_false_iff_ne.2 (by omega)
    have d63 : (op == 63) = false := beq_eq_false_iff_ne.2 (by omega)
    have d64 : (op == 64) = false := beq_eq_false_iff_ne.2 (by omega)
    have d65 : (op == 65) = false := beq_eq_false_iff_ne.2 (by omega)
    have d66 : (op == 66) = false := beq_eq_false_iff_ne.2 (by omega)
    have d67 : (op == 67) = false := beq_eq_false_iff_ne.2 (by omega)
    have d43 : (op == 43) = false := beq_eq_false_iff_ne.2 (by omega)
    have d44 : (op == 44) = false := beq_eq_false_iff_ne.2 (by omega)
    go_enter Tryz.func85, Tryz.ntmps85
    go_wp2
    go_ret3
    exact ⟨_, _, _, rfl, by omega, rfl⟩
  · clear h hh
    have d41 : (op == 41) = false := beq_eq_false_iff_ne.2 (by omega)
    have d51 : (op == 51) = false := beq_eq_false_iff_ne.2 (by omega)
    have d42 : (op == 42) = false := beq_eq_false_iff_ne.2 (by omega)
    have d63 : (op == 63) = false := beq_eq_false_iff_ne.2 (by omega)
    have d64 : (op == 64) = false := beq_eq_false_iff_ne.2 (by omega)
    have d65 : (op == 65) = false := beq_eq_false_iff_ne.2 (by omega)
    have d66 : (op == 66) = false := beq_eq_false_iff_ne.2 (by omega)
    have d67 : (op == 67) = false := beq_eq_false_iff_ne.2 (by omega)
    have d43 : (op == 43) = false := beq_eq_false_iff_ne.2 (by omega)
    have d44 : (op == 44) = false := beq_eq_false_iff_ne.2 (by omega)
    have e1 : ¬ 45 ≤ op := by omega
    have e2 : ¬ 68 ≤ op := by omega
    go_enter Tryz.func85, Tryz.ntmps85
    go_wp2
    go_ret3
    exact ⟨_, _, _, rfl, by omega, rfl⟩
  · clear h hh
    have d41 : (op == 41) = false := beq_eq_false_iff_ne.2 (by omega)
    have d51 : (op == 51) = false := beq_eq_false_iff_ne.2 (by omega)
    have d42 : (op == 42) = false := beq_eq_false_iff_ne.2 (by omega)
    have d63 : (op == 63) = false := beq_eq_false_iff_ne.2 (by omega)
    have d64 : (op == 64) = false := beq_eq_false_iff_ne.2 (by omega)
    have d65 : (op == 65) = false := beq_eq_false_iff_ne.2 (by omega)
    have d66 : (op == 66) = false := beq_eq_false_iff_ne.2 (by omega)
    have d67 : (op == 67) = false := beq_eq_false_iff_ne.2 (by omega)
    have d43 : (op == 43) = false := beq_eq_false_iff_ne.2 (by omega)
    have d44 : (op == 44) = false := beq_eq_false_iff_ne.2 (by omega)
    have e1 : ¬ op ≤ 62 := by omega
    have e2 : ¬ op ≤ 75 := by omega
    have e3 : 45 ≤ op := by omega
    have e4 : 68 ≤ op := by omega
    go_enter Tryz.func85, Tryz.ntmps85
    go_wp2
    go_ret3
    exact ⟨_, _, _, rfl, by omega, rfl⟩
set_option maxHeartbeats 16000000 in
set_option maxRecDepth 100000 in
theorem check_out (op : Int) (h : op < 68 ∨ 75 < op) (pv av : Value) (w : World) : Calls Tryz.prog 51 #[.int .i64 op, pv, av, .int .i64 2] w fun e w' => e = .returned (.int .i64 50) ∧ w' = w := by
  have KO := Lib.hid (kind_out op h w)
  clear h
  go_enter Tryz.func51, Tryz.ntmps51
  go_wp2_with fail
  refine KO.out.mono ?_
  rintro e w1 ⟨k, n, m, rfl, hk, rfl⟩
  have dk : (k != 2) = true := bne_iff_ne.2 hk
  clear hk
  go_wp2
  go_ret
  exact ⟨rfl, rfl⟩
set_option maxHeartbeats 16000000 in
set_option maxRecDepth 100000 in
theorem check_in (op : Int) (h1 : 68 ≤ op) (h2 : op ≤ 75) (av : Value) (x y : Int) (xs ys : List Nat) (j : Nat) (er : Int) (w : World) (h : BvLX w av [(x, xs), (y, ys)])
    (hj : (j = 0 ∧ rightF x (val B64 xs) = false ∧ er = 90) ∨ (j = 1 ∧ rightF x (val B64 xs) = true ∧ rightF y (val B64 ys) = false ∧ er = 90) ∨ (j = 2 ∧ rightF x (val B64 xs) = true ∧ rightF y (val B64 ys) = true ∧ ((x ≠ y ∧ er = 52) ∨ (x = y ∧ er = 0)))) :
    Calls Tryz.prog 51 #[.int .i64 op, .slice none 0 0, av, .int .i64 2] w fun e w' => e = .returned (.int .i64 er) ∧ Below w.heap.size w w' := by
  have KI := Lib.hid (kind_in op h1 h2 w)
  have dd : ((2 : Int) == 2) = true := rfl
  have d42 : (op == 42) = false := beq_eq_false_iff_ne.2 (by omega)
  have d63 : (op == 63) = false := beq_eq_false_iff_ne.2 (by omega)
  have n41 : (op != 41) = true := bne_iff_ne.2 (by omega)
  have HJ := Lib.hid hj
  have HV := Lib.hid h
  obtain ⟨ao, cap, rfl, hc⟩ := h
  obtain ⟨b, off, rfl, hlt, hc⟩ := hc (by simp)
  obtain ⟨u0, k1, k2, k3, k4, k5⟩ := hc 0 (x, xs) rfl
  obtain ⟨u1, l1, l2, l3, l4, l5⟩ := hc 1 (y, ys) rfl
  have R0 : Hid (∀ w1, Below w.heap.size w w1 → Calls Tryz.prog 23 #[.agg #[.int .i64 x, u0]] w1 fun e w' => e = .returned (.bool (rightF x (val B64 xs))) ∧ Below w1.heap.size w1 w') := Lib.hid (fun w1 hw => rright_any x u0 xs w1 (k3.below hw) k4)
  have R1 : Hid (∀ w1, Below w.heap.size w w1 → Calls Tryz.prog 23 #[.agg #[.int .i64 y, u1]] w1 fun e w' => e = .returned (.bool (rightF y (val B64 ys))) ∧ Below w1.heap.size w1 w') := Lib.hid (fun w1 hw => rright_any y u1 ys w1 (l3.below hw) l4)
  dsimp only at k1 k2 l1 l2
  simp only [Nat.zero_mul, Nat.add_zero, Nat.one_mul] at k1 k2 l1 l2
  have CL : Hid (∀ w1, Below w.heap.size w w1 → w1.cell? ⟨b, off, none⟩ = some (.int .i64 x) ∧ w1.cell? ⟨b, off + 1, none⟩ = some u0 ∧ w1.cell? ⟨b, off + 2, none⟩ = some (.int .i64 y) ∧ w1.cell? ⟨b, off + 2 + 1, none⟩ = some u1) := Lib.hid (fun w1 hw =>
    ⟨(hw.cell (p := ⟨b, off, none⟩) hlt).trans k1, (hw.cell (p := ⟨b, off + 1, none⟩) hlt).trans k2, (hw.cell (p := ⟨b, off + 2, none⟩) hlt).trans l1, (hw.cell (p := ⟨b, off + 2 + 1, none⟩) hlt).trans l2⟩)
  obtain ⟨o0, c0, rfl⟩ := k3.shape
  obtain ⟨o1, c1, rfl⟩ := l3.shape
  generalize rightF x (val B64 xs) = r0 at *
  generalize rightF y (val B64 ys) = r1 at *
  generalize xs.length = kx at *
  generalize ys.length = ky at *
  clear k1 k2 k3 k4 k5 l1 l2 l3 l4 l5 hc hj HV hlt
  simp only [List.length_cons, List.length_nil] at *
  go_enter Tryz.func51, Tryz.ntmps51
  go_wp2_with fail
  refine KI.out.mono ?_
  rintro e w1 ⟨rfl, hw1⟩
  obtain rfl : w = w1 := hw1.symm
  go_wp2_with fail
  go_loopw [12] (fun i wr => i = .int .i64 0 ∧ w = wr) (fun _ _ => 0)
  case atStart => exact ⟨rfl, rfl⟩
  case round =>
    obtain ⟨rfl, rfl⟩ := hrel
    go_wp2_with fail
    go_quiet (fail)
    go_wp2_with fail
    go_loopw [13] (fun i wr => ∃ k : Nat, k ≤ 2 ∧ k ≤ j ∧ i = .int .i64 (k : Int) ∧ Below w.heap.size w wr) (fun i _ => 2 - (intOf i).toNat)
    case atStart => exact ⟨0, by omega, Nat.zero_le _, rfl, bdrawn (Below.refl _ _) _⟩
    case round =>
      obtain ⟨k, hk1, hk2, rfl, hb⟩ := hrel
      obtain ⟨p0, p1, q0, q1⟩ := CL.out _ hb
      have HB := Lib.hid hb
      clear hb
      rcases (show k = 0 ∨ k = 1 ∨ k = 2 by omega) with rfl | rfl | rfl
      · go_wp2_with fail
        refine (R0.out _ HB.out).mono ?_
        rintro e w3 ⟨rfl, hb3⟩
        have H3 := Lib.hid (below_of HB.out hb3)
        clear hb3
        have hj := HJ.out
        cases r0
        · have he : er = 90 := by rcases hj with ⟨-, -, h⟩ | ⟨-, h, -⟩ | ⟨-, h, -⟩ <;> first | exact h | cases h
          subst he
          clear hj
          go_wp2
          go_ret
          exact ⟨rfl, H3.out⟩
        · have hj1 : 1 ≤ j := by rcases hj with ⟨-, h, -⟩ | ⟨h, -⟩ | ⟨h, -⟩ <;> first | omega | cases h
          clear hj
          go_wp2_with fail
          go_roundw
          case rel => exact ⟨1, by omega, hj1, rfl, H3.out⟩
          case measure => (simp [intOf]; try omega)
      · go_wp2_with fail
        refine (R1.out _ HB.out).mono ?_
        rintro e w3 ⟨rfl, hb3⟩
        have H3 := Lib.hid (below_of HB.out hb3)
        clear hb3
        have hj := HJ.out
        cases r1
        · have he : er = 90 := by rcases hj with ⟨h, -⟩ | ⟨-, -, -, h⟩ | ⟨-, -, h, -⟩ <;> first | exact h | omega | cases h
          subst he
          clear hj
          go_wp2
          go_ret
          exact ⟨rfl, H3.out⟩
        · have hj1 : 2 ≤ j := by rcases hj with ⟨h, -⟩ | ⟨-, -, h, -⟩ | ⟨h, -⟩ <;> first | omega | cases h
          clear hj
          go_wp2_with fail
          go_roundw
          case rel => exact ⟨2, by omega, hj1, rfl, H3.out⟩
          case measure => (simp [intOf]; try omega)
      · have hj := HJ.out
        have hx : (x ≠ y ∧ er = 52) ∨ (x = y ∧ er = 0) := by rcases hj with ⟨h, -⟩ | ⟨h, -⟩ | ⟨-, -, -, h⟩ <;> first | omega | exact h
        clear hj
        rcases hx with ⟨hne, rfl⟩ | ⟨rfl, rfl⟩
        · have dx : (x != y) = true := bne_iff_ne.2 hne
          clear hne
          go_wp2_with fail
          go_quiet (fail)
          go_wp2
          go_ret
          exact ⟨rfl, bdrawn HB.out _⟩
        · have dx : (x != x) = false := bne_self_eq_false x
          go_wp2_with fail
          go_quiet (fail)
          go_wp2
          go_ret
          exact ⟨rfl, bdrawn HB.out _⟩
end Go.Proofs.YtccofiakblmkhaaGreat
