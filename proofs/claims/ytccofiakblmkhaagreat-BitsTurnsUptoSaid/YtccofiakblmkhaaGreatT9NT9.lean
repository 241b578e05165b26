/- 9TA 9TB 9TC 9TD 9TE 9TF. -/
import Derived.Test.YtccofiakblmkhaaGreatT9N2
import Derived.Test.YtccofiakblmkhaaGreatT9ZB5
import Derived.Test.YtccofiakblmkhaaGreatT9N3
import Derived.IntWalk
import Derived.Test.YtccofiakblmkhaaGreatT9N7
import Derived.Test.YtccofiakblmkhaaGreatT9N4
import Derived.Test.YtccofiakblmkhaaGreatT99IC
import Derived.Test.YtccofiakblmkhaaGreatT99ID
import Derived.Test.YtccofiakblmkhaaGreatT9NB9
import Derived.Test.YtccofiakblmkhaaGreatT9N9
set_option linter.unusedVariables false
set_option linter.unusedSimpArgs false
/- bits: up, down, joined, amount. -/
namespace Go.Proofs.YtccofiakblmkhaaGreat
open Go.RowKit Mth

/-- limbs in any form that are not many -/
def NmB (w : World) (v : Value) (n : Nat) : Prop := ∃ xs, Sl w .u64 v xs ∧ Lim B64 xs ∧ xs.length ≤ 4000000 ∧ val B64 xs = n
theorem NmB.below {w w' : World} {v : Value} {n : Nat} (h : NmB w v n) (hb : Below w.heap.size w w') : NmB w' v n := by
  obtain ⟨xs, h1, h2⟩ := h; exact ⟨xs, h1.below hb, h2⟩
theorem NmB.shape {w : World} {v : Value} {n : Nat} (h : NmB w v n) : ∃ a k c, v = .slice a k c := by
  obtain ⟨xs, h1, -⟩ := h
  obtain ⟨a, c, rfl⟩ := h1.shape
  exact ⟨a, xs.length, c, rfl⟩
theorem nmb_drew {w : World} {v : Value} {n : Nat} (h : NmB w v n) : NmB w.drew v n := h.below (Below.refl _ _).drew
theorem nmb_call {w w' : World} {v : Value} {n : Nat} (hb : Below w.heap.size w w') (h : NmB w v n) : NmB w' v n := h.below hb
/-- twice the widest vector's bits -/
def w8 : Nat := 8192
theorem nmb_of {w : World} {v : Value} {n : Nat} (h : Num w v n) (hn : n < 2 ^ w8) : NmB w v n := by
  obtain ⟨xs, s, l, t, e⟩ := h
  exact ⟨xs, s, l, small_limbs t e hn (Nat.le_of_eq rfl), e⟩
theorem big_8192 : 2 ^ w8 ≤ Big := by
  unfold Big
  rw [b64_two]
  exact Nat.pow_le_pow_right (by omega) (by unfold w8 maxL; omega)
def ResM (w w' : World) (e : Ending) (n : Nat) : Prop := ∃ a k c, e = .returned (.slice a k c) ∧ NmB w' (.slice a k c) n ∧ Below w.heap.size w w'
structure LtE (n : Nat) : Prop where
  out : n < 2 ^ w8
theorem lte_big {n : Nat} (h : LtE n) : ¬ Big ≤ n := fun h2 => absurd (Nat.lt_of_lt_of_le h.out big_8192) (by omega)
set_option maxHeartbeats 1000000 in
set_option maxRecDepth 100000 in
theorem up_any (v : Value) (m k : Nat) (hk : k ≤ 8192) (w : World) (h : NmB w v m) (hm : LtE (m * 2 ^ k)) : Calls Tryz.prog 182 #[v, .int .i64 (k : Int)] w fun e w' => ResM w w' e (m * 2 ^ k) := by
  have SH : Hid (Calls Tryz.prog 105 #[v, .int .i64 (k : Int)] w fun e w' => ∃ v', e = .returned (.tuple #[v', .int .i64 0]) ∧ NmB w' v' (m * 2 ^ k) ∧ Below w.heap.size w w') := Lib.hid (by
    obtain ⟨xs, s, l, hl, ev⟩ := h
    have hlt : ¬ Big ≤ m := fun h2 => lte_big hm (Nat.le_trans h2 (Nat.le_mul_of_pos_right _ (two_pos k)))
    have hh := shl_any v xs (k : Int) w s l ⟨by omega, by omega⟩
    obtain ⟨e1, e2⟩ := shl_fine (n := k) (ev ▸ hlt)
    rw [ev] at e1 e2 hh
    rw [e1, e2] at hh
    unfold cutN cutE at hh
    rw [if_neg (lte_big hm), if_neg (lte_big hm)] at hh
    exact hh.mono fun e w' ⟨v', he, hn, hb⟩ => ⟨v', he, nmb_of hn hm.out, hb⟩)
  generalize m * 2 ^ k = n at *
  obtain ⟨a, c, d, rfl⟩ := h.shape
  clear h hm
  go_enter Tryz.func182, Tryz.ntmps182
  go_wp2_with fail
  refine SH.out.mono ?_
  rintro e w2 ⟨v2, rfl, hn, hb⟩
  obtain ⟨a2, k2, c2, rfl⟩ := hn.shape
  have HN := Lib.hid hn; have HB := Lib.hid hb
  clear hn hb
  go_wp2
  go_ret
  exact ⟨_, _, _, rfl, HN.out, HB.out⟩
set_option maxHeartbeats 1000000 in
set_option maxRecDepth 100000 in
theorem down_any (v : Value) (m k : Nat) (hk : k ≤ 8192) (w : World) (h : NmB w v m) (hm : LtE m) : Calls Tryz.prog 164 #[v, .int .i64 (k : Int)] w fun e w' => ResM w w' e (m / 2 ^ k) := by
  have SH : Hid (Calls Tryz.prog 192 #[v, .int .i64 (k : Int)] w fun e w' => ∃ v', e = .returned (.tuple #[v', .int .i64 0]) ∧ NmB w' v' (m / 2 ^ k) ∧ Below w.heap.size w w') := Lib.hid (by
    obtain ⟨xs, s, l, hl, ev⟩ := h
    have hh := shr_any v xs (k : Int) w s l ⟨by omega, by omega⟩
    obtain ⟨e1, e2⟩ := shr_fine (n := k) (ev ▸ lte_big hm)
    rw [ev] at e1 e2 hh
    rw [e1, e2] at hh
    exact hh.mono fun e w' ⟨v', he, hn, hb⟩ => ⟨v', he, nmb_of hn (Nat.lt_of_le_of_lt (Nat.div_le_self _ _) hm.out), hb⟩)
  generalize m / 2 ^ k = n at *
  obtain ⟨a, c, d, rfl⟩ := h.shape
  clear h hm
  go_enter Tryz.func164, Tryz.ntmps164
  go_wp2_with fail
  refine SH.out.mono ?_
  rintro e w2 ⟨v2, rfl, hn, hb⟩
  obtain ⟨a2, k2, c2, rfl⟩ := hn.shape
  have HN := Lib.hid hn; have HB := Lib.hid hb
  clear hn hb
  go_wp2
  go_ret
  exact ⟨_, _, _, rfl, HN.out, HB.out⟩
theorem add2_at {W : World} {g : Nat} {v1 v2 : Value} {m n : Nat} (hg : W.heap[g]? = some (.cells #[v1, v2] 24 (0, 0))) (h1 : NmB W v1 m) (h2 : NmB W v2 n) (hmn : LtE (m + n)) :
    Calls Tryz.prog 191 #[.slice (some ⟨g, 0, none⟩) 2 2] W fun e w' => ∃ v', e = .returned (.tuple #[v', .int .i64 0]) ∧ NmB w' v' (m + n) ∧ Below W.heap.size W w' := by
  obtain ⟨xs, s1, l1, -, e1⟩ := h1
  obtain ⟨ys, s2, l2, -, e2⟩ := h2
  refine (add_any _ _ _ (natList_at hg s1 s2) (pair_lim l1 l2)).mono ?_
  rintro e w' ⟨v', h1, h2, h3⟩
  rw [(add2_N xs ys).1, e1, e2] at h2
  rw [(add2_N xs ys).2, e1, e2] at h1
  unfold cutN at h2
  unfold cutE at h1
  rw [if_neg (lte_big hmn)] at h1 h2
  exact ⟨v', h1, nmb_of h2 hmn.out, h3⟩
set_option maxHeartbeats 2000000 in
set_option maxRecDepth 100000 in
theorem joined_any (va vb : Value) (m n k : Nat) (hk : k ≤ 8192) (w : World) (ha : NmB w va m) (hb : NmB w vb n) (hmn : LtE (m * 2 ^ k + n)) : Calls Tryz.prog 162 #[va, vb, .int .i64 (k : Int)] w fun e w' => ResM w w' e (m * 2 ^ k + n) := by
  have UP := Lib.hid (up_any va m k hk w ha ⟨Nat.lt_of_le_of_lt (Nat.le_add_right _ _) hmn.out⟩)
  have AD : Hid (∀ W g v1, W.heap[g]? = some (.cells #[v1, vb] 24 (0, 0)) → NmB W v1 (m * 2 ^ k) → NmB W vb n → Calls Tryz.prog 191 #[.slice (some ⟨g, 0, none⟩) 2 2] W fun e w' => ∃ v', e = .returned (.tuple #[v', .int .i64 0]) ∧ NmB w' v' (m * 2 ^ k + n) ∧ Below W.heap.size W w') := Lib.hid (fun W g v1 hg h1 h2 => add2_at hg h1 h2 hmn)
  have HB := Lib.hid hb
  generalize m * 2 ^ k + n = z at *
  generalize m * 2 ^ k = y at *
  obtain ⟨a1, k1, c1, rfl⟩ := ha.shape
  obtain ⟨a2, k2, c2, rfl⟩ := hb.shape
  clear ha hb hmn
  go_enter Tryz.func162, Tryz.ntmps162
  go_wp2_with fail
  refine UP.out.mono ?_
  rintro e w2 ⟨a3, k3, c3, rfl, hn, hb⟩
  obtain ⟨V, eV, gV, bV, hVs⟩ := alloc1n w2 (Obj.cells #[.slice a3 k3 c3, .slice a2 k2 c2] 24)
  have AA := Lib.hid (AD.out V _ _ gV (hn.below bV) ((HB.out.below hb).below bV))
  have BV := Lib.hid (below_of hb bV)
  clear hn hb gV bV
  go_wp2_with fail
  try rw [eV]
  refine AA.out.mono ?_
  rintro e w3 ⟨v3, rfl, hn, hb⟩
  obtain ⟨a4, k4, c4, rfl⟩ := hn.shape
  have HN := Lib.hid hn; have B3 := Lib.hid (below_of BV.out hb)
  clear hn hb
  go_wp2
  go_ret
  exact ⟨_, _, _, rfl, HN.out, B3.out⟩
set_option maxHeartbeats 1000000 in
set_option maxRecDepth 100000 in
theorem amount_any (v : Value) (m : Nat) (w : World) (h : NmB w v m) : Calls Tryz.prog 99 #[v] w fun e w' => ∃ v', e = .returned v' ∧ IntV w' v' (m : Int) ∧ Below w.heap.size w w' := by
  obtain ⟨W, eW, gW, bW, hWs⟩ := alloc1n w (Obj.cells #[.bool false, .slice none 0 0] 26)
  obtain ⟨xs, s, l, hl, e⟩ := h
  have HI := Lib.hid (intV_of (s.below bW) l hl e)
  have GW := Lib.hid gW; have BW := Lib.hid bW
  obtain ⟨q0, q1, r0, r1, _⟩ := blk2 gW
  obtain ⟨a, c, rfl⟩ := s.shape
  have EW := Lib.hid eW
  clear s l hl e gW bW eW
  go_enter Tryz.func99, Tryz.ntmps99
  go_upto_region 1 with fail
  try rw [EW.out]
  go_wp2
  exact bodyPost_ret (results_it rfl rfl (set2_row _ _ GW.out)) rfl ⟨_, rfl, HI.out.far GW.out, (BW.out.setCell (Nat.le_refl _) _).setCell (Nat.le_refl _) _⟩
end Go.Proofs.YtccofiakblmkhaaGreat

/- bits: params, widths, concat, extract, rotL, rotR (gen9t.py). -/
namespace Go.Proofs.YtccofiakblmkhaaGreat
open Go.RowKit Mth

/-- a list of params in memory -/
def PaL (w : World) (pv : Value) (ps : List Int) : Prop := ∃ po cap, pv = .slice po ps.length cap ∧ (ps ≠ [] → ∃ b off, po = some ⟨b, off, none⟩ ∧ b < w.heap.size ∧ ∀ i p, ps[i]? = some p → w.cell? ⟨b, off + i, none⟩ = some (.int .i64 p))
theorem PaL.below {w w' : World} {pv : Value} {ps : List Int} (h : PaL w pv ps) (hb : Below w.heap.size w w') : PaL w' pv ps := by
  obtain ⟨po, cap, rfl, h⟩ := h
  refine ⟨po, cap, rfl, fun hne => ?_⟩
  obtain ⟨b, off, rfl, hlt, h⟩ := h hne
  exact ⟨b, off, rfl, Nat.lt_of_lt_of_le hlt hb.size, fun i p hp => (hb.cell (p := ⟨b, off + i, none⟩) hlt).trans (h i p hp)⟩
theorem PaL.shape {w : World} {pv : Value} {ps : List Int} (h : PaL w pv ps) : ∃ po pn pc, pv = .slice po pn pc := by obtain ⟨po, cap, h, -⟩ := h; exact ⟨po, _, cap, h⟩
theorem pal_one {W : World} {g : Nat} {p : Int} (hg : W.heap[g]? = some (.cells #[.int .i64 p] 3 (0, 0))) : PaL W (.slice (some ⟨g, 0, none⟩) 1 1) [p] :=
  ⟨_, 1, rfl, fun _ => ⟨g, 0, rfl, (Array.getElem?_eq_some_iff.1 hg).1, fun i q hq => by
    match i, hq with
    | 0, hq => cases hq; rw [cell_of_row _ _ _ _ _ (0, 0) hg]; rfl⟩⟩
theorem pal_two {W : World} {g : Nat} {p q : Int} (hg : W.heap[g]? = some (.cells #[.int .i64 p, .int .i64 q] 3 (0, 0))) : PaL W (.slice (some ⟨g, 0, none⟩) 2 2) [p, q] :=
  ⟨_, 2, rfl, fun _ => ⟨g, 0, rfl, (Array.getElem?_eq_some_iff.1 hg).1, fun i r hr => by
    match i, hr with
    | 0, hr => cases hr; rw [cell_of_row _ _ _ _ _ (0, 0) hg]; rfl
    | 1, hr => cases hr; rw [cell_of_row _ _ _ _ _ (0, 0) hg]; rfl⟩⟩
set_option maxHeartbeats 1000000 in
set_option maxRecDepth 100000 in
theorem inRange_yes (x : Int) (h0 : 0 ≤ x) (h1 : x ≤ 4096) (w : World) : Calls Tryz.prog 163 #[.int .i64 x] w fun e w' => e = .returned (.bool true) ∧ w' = w := by
  go_enter Tryz.func163, Tryz.ntmps163
  go_wp2
  go_ret
  exact ⟨rfl, rfl⟩
set_option maxHeartbeats 2000000 in
set_option maxRecDepth 100000 in
theorem isCount_yes (pv : Value) (p : Int) (h0 : 0 ≤ p) (h1 : p ≤ 4096) (w : World) (h : PaL w pv [p]) : Calls Tryz.prog 138 #[pv] w fun e w' => e = .returned (.bool true) ∧ Below w.heap.size w w' := by
  obtain ⟨po, cap, rfl, hc⟩ := h
  obtain ⟨b, off, rfl, hlt, hc⟩ := hc (by simp)
  have c0 := hc 0 p rfl
  rw [Nat.add_zero] at c0
  have IR := Lib.hid (inRange_yes p h0 h1 w)
  simp only [List.length_cons, List.length_nil]
  clear hc h0 h1
  go_enter Tryz.func138, Tryz.ntmps138
  go_wp2_with fail
  refine IR.out.mono ?_
  rintro e w2 ⟨rfl, hw⟩
  obtain rfl : w = w2 := hw.symm
  go_wp2
  go_ret
  exact ⟨rfl, Below.refl _ _⟩
set_option maxHeartbeats 2000000 in
set_option maxRecDepth 100000 in
theorem areEnds_yes (pv : Value) (p q : Int) (h0 : 0 ≤ q) (h1 : q ≤ p) (h2 : p ≤ 4096) (w : World) (h : PaL w pv [p, q]) : Calls Tryz.prog 111 #[pv] w fun e w' => e = .returned (.bool true) ∧ Below w.heap.size w w' := by
  obtain ⟨po, cap, rfl, hc⟩ := h
  obtain ⟨b, off, rfl, hlt, hc⟩ := hc (by simp)
  have c0 := hc 0 p rfl
  have c1 := hc 1 q rfl
  rw [Nat.add_zero] at c0
  have IP : Hid (∀ n, Calls Tryz.prog 163 #[.int .i64 p] (w.drewN n) fun e w' => e = .returned (.bool true) ∧ ∃ m, w' = w.drewN m) := Lib.hid (fun n => (inRange_yes p (by omega) h2 (w.drewN n)).mono fun e w' h => ⟨h.1, n, h.2⟩)
  have IQ : Hid (∀ n, Calls Tryz.prog 163 #[.int .i64 q] (w.drewN n) fun e w' => e = .returned (.bool true) ∧ ∃ m, w' = w.drewN m) := Lib.hid (fun n => (inRange_yes q h0 (by omega) (w.drewN n)).mono fun e w' h => ⟨h.1, n, h.2⟩)
  simp only [List.length_cons, List.length_nil]
  clear hc h0 h2
  go_enter Tryz.func111, Tryz.ntmps111
  go_wp2_with fail
  go_quiet (first | (go_at_call 163; first | exact IP.out _ | exact IQ.out _))
  go_wp2
  go_ret
  exact ⟨rfl, bdrawn (Below.refl _ _) _⟩
theorem first_nm (pv av : Value) (L : List (Nat × Nat)) (wd n : Nat) (w : World) (hp : ∃ po pn pc, pv = .slice po pn pc) (h : BvL w av L) (h0 : L[0]? = some (wd, n)) :
    Calls Tryz.prog 83 #[.agg #[pv, av]] w fun e w' => ∃ a k c, e = .returned (.agg #[.int .i64 (wd : Int), .slice a k c]) ∧ NmB w' (.slice a k c) n ∧ Below w.heap.size w w' := (first_any pv av L wd n w hp h h0).mono fun e w' ⟨v', he, hv, hb⟩ => by
  obtain ⟨u, xs, rfl, s, l, f, e1⟩ := hv
  obtain ⟨a, c, rfl⟩ := s.shape
  exact ⟨a, xs.length, c, he, ⟨xs, s, l, f, e1⟩, hb⟩
theorem last_nm (pv av : Value) (L : List (Nat × Nat)) (k wd n : Nat) (w : World) (hp : ∃ po pn pc, pv = .slice po pn pc) (h : BvL w av L) (hk : L.length = k + 1) (hk2 : k ≤ 1048576) (h0 : L[k]? = some (wd, n)) :
    Calls Tryz.prog 84 #[.agg #[pv, av]] w fun e w' => ∃ a k c, e = .returned (.agg #[.int .i64 (wd : Int), .slice a k c]) ∧ NmB w' (.slice a k c) n ∧ Below w.heap.size w w' := (last_any pv av L k wd n w hp h hk hk2 h0).mono fun e w' ⟨v', he, hv, hb⟩ => by
  obtain ⟨u, xs, rfl, s, l, f, e1⟩ := hv
  obtain ⟨a, c, rfl⟩ := s.shape
  exact ⟨a, xs.length, c, he, ⟨xs, s, l, f, e1⟩, hb⟩
theorem field1_bits (x : Int) (ao : Option Addr) (k c : Nat) (W : World) : Sem.run Tryz.prog (Instr.field 28 (.agg #[.int .i64 x, .slice ao k c]) 1) W = .ok (.slice ao k c) W := by kernel_rfl
set_option maxHeartbeats 16000000 in
set_option maxRecDepth 100000 in
theorem concat_is (pv av : Value) (wd wd' m n : Nat) (h2 : wd' ≤ 4096) (hmn : LtE (m * 2 ^ wd' + n)) (w : World) (hp : ∃ po pn pc, pv = .slice po pn pc) (h : BvL w av [(wd, m), (wd', n)]) :
    Calls Tryz.prog 110 #[.agg #[pv, av]] w fun e w' => ∃ v', e = .returned v' ∧ IntV w' v' (((m * 2 ^ wd' + n : Nat) : Int)) ∧ Below w.heap.size w w' := by
  obtain ⟨po, pn, pc, rfl⟩ := hp
  obtain ⟨ao, cap, rfl⟩ := h.shape
  have HV : Hid (BvL w (.slice ao 2 cap) [(wd, m), (wd', n)]) := Lib.hid h
  clear h
  obtain ⟨W, eW, g1, g2, bel, hsz⟩ := alloc2 w (Obj.cells #[.slice po pn pc, .slice ao 2 cap] 92) (Obj.cells #[.bool false, .slice none 0 0] 26)
  have G2 := Lib.hid g2
  have hWs : w.heap.size + 1 < W.heap.size := hsz
  have G1 := Lib.hid g1; have BL := Lib.hid bel
  have SHP : Hid (∃ qo qn qc, (.slice po pn pc : Value) = .slice qo qn qc) := Lib.hid ⟨_, _, _, rfl⟩
  have FI : Hid (∀ w1, Below W.heap.size W w1 → Calls Tryz.prog 83 #[.agg #[.slice po pn pc, .slice ao 2 cap]] w1 fun e w' => ∃ a k c, e = .returned (.agg #[.int .i64 (wd : Int), .slice a k c]) ∧ NmB w' (.slice a k c) m ∧ Below w1.heap.size w1 w') := Lib.hid (fun w1 hw => first_nm _ _ [(wd, m), (wd', n)] wd m w1 SHP.out (HV.out.below (below_of bel hw)) rfl)
  have LA : Hid (∀ w1, Below W.heap.size W w1 → Calls Tryz.prog 84 #[.agg #[.slice po pn pc, .slice ao 2 cap]] w1 fun e w' => ∃ a k c, e = .returned (.agg #[.int .i64 (wd' : Int), .slice a k c]) ∧ NmB w' (.slice a k c) n ∧ Below w1.heap.size w1 w') := Lib.hid (fun w1 hw => last_nm _ _ [(wd, m), (wd', n)] 1 wd' n w1 SHP.out (HV.out.below (below_of bel hw)) rfl (by omega) rfl)
  have JN : Hid (∀ va vb w1, NmB w1 va m → NmB w1 vb n → Calls Tryz.prog 162 #[va, vb, .int .i64 (wd' : Int)] w1 fun e w' => ResM w1 w' e (m * 2 ^ wd' + n)) := Lib.hid (fun va vb w1 ha hb => joined_any va vb m n wd' (by omega) w1 ha hb hmn)
  have AM : Hid (∀ v w1, NmB w1 v (m * 2 ^ wd' + n) → Calls Tryz.prog 99 #[v] w1 fun e w' => ∃ v', e = .returned v' ∧ IntV w' v' ((m * 2 ^ wd' + n : Nat) : Int) ∧ Below w1.heap.size w1 w') := Lib.hid (fun v w1 hv => amount_any v _ w1 hv)
  generalize m * 2 ^ wd' + n = z at *
  have STAY : Hid (∀ w', Below W.heap.size W w' → w'.cell? ⟨w.heap.size, 0, none⟩ = some (.slice po pn pc) ∧ w'.cell? ⟨w.heap.size, 1, none⟩ = some (.slice ao 2 cap)) := Lib.hid (fun w' hb => by
    obtain ⟨e0, e1, -, -, _⟩ := blk2 (car hb G1.out)
    exact ⟨e0, e1⟩)
  have STAY2 : Hid (∀ w' y0 y1, Below W.heap.size W w' → ((w'.setCell ⟨w.heap.size + 1, 0, none⟩ y0).setCell ⟨w.heap.size + 1, 1, none⟩ y1).cell? ⟨w.heap.size, 0, none⟩ = some (.slice po pn pc) ∧ ((w'.setCell ⟨w.heap.size + 1, 0, none⟩ y0).setCell ⟨w.heap.size + 1, 1, none⟩ y1).cell? ⟨w.heap.size, 1, none⟩ = some (.slice ao 2 cap)) := Lib.hid (fun w' y0 y1 hb => by
    obtain ⟨e0, e1, -, -, _⟩ := blk2 (blk_far2 (R := w.heap.size + 1) (y0 := y0) (y1 := y1) (car hb G1.out) (by omega))
    exact ⟨e0, e1⟩)
  have hk0 := Below.refl W.heap.size W
  have hfl0 := field0_bits
  have hfl1 := field1_bits
  clear g1 bel g2
  clear hmn
  go_enter Tryz.func110, Tryz.ntmps110
  go_upto_region 1 with fail
  try rw [eW]
  go_region_held3 (fun w' => w'.cell? ⟨w.heap.size, 0, none⟩ = some (.slice po pn pc) ∧ w'.cell? ⟨w.heap.size, 1, none⟩ = some (.slice ao 2 cap))
    ((first | (refine STAY.out _ ?_; first | exact hk5 | exact hk5.drew | exact hk4 | exact hk4.drew | exact hk3 | exact hk3.drew | exact hk2 | exact hk2.drew | exact hk1 | exact hk1.drew | exact hk0 | exact hk0.drew) | exact STAY2.out _ _ _ hk5 | exact STAY2.out _ _ _ hk5.drew))
    (first
    | (have tk := TK4; go_at_call 99; (with_reducible refine Calls.mono (AM.out _ _ (by first | exact M4.out | exact nmb_drew M4.out)) ?_); rintro e u5 ⟨v5, rfl, hn, hb⟩; have hk5 : Below W.heap.size W u5 := (by first | exact below_of hk4 hb | exact below_of hk4.drew hb); have TK5 : True := trivial; have I5 := Lib.hid hn; obtain ⟨n5, a5, k5, c5, rfl⟩ := hn.shape; have GR := Lib.hid (car hk5 G2.out); obtain ⟨q0, q1, r0, r1, _⟩ := blk2 GR.out; have hz5 := hk5.size; clear hn hb)
    | (have tk := TK3; go_at_call 162; (with_reducible refine Calls.mono (JN.out _ _ _ (by first | exact M1.out | exact nmb_drew M1.out) (by first | exact M2.out | exact nmb_drew M2.out)) ?_); rintro e u4 ⟨a4, k4, c4, rfl, hn, hb⟩; have hk4 : Below W.heap.size W u4 := (by first | exact below_of hk3 hb | exact below_of hk3.drew hb); have TK4 : True := trivial; have M4 := Lib.hid hn; clear hn hb)
    | (have tk := TK2; go_at_call 84; (with_reducible refine Calls.mono (LA.out _ (by first | exact hk2 | exact hk2.drew)) ?_); rintro e u3 ⟨a3, k3, c3, rfl, hn, hb⟩; have hk3 : Below W.heap.size W u3 := (by first | exact below_of hk2 hb | exact below_of hk2.drew hb); have TK3 : True := trivial; (first | (have M' := Lib.hid (nmb_call hb M1.out)) | (have M' := Lib.hid (nmb_call hb (nmb_drew M1.out)))); clear M1; have M1 := M'; clear M'; (first | (have M' := Lib.hid (nmb_call hb M2.out)) | (have M' := Lib.hid (nmb_call hb (nmb_drew M2.out)))); clear M2; have M2 := M'; clear M'; have M3 := Lib.hid hn; clear hn hb)
    | (have tk := TK1; go_at_call 84; (with_reducible refine Calls.mono (LA.out _ (by first | exact hk1 | exact hk1.drew)) ?_); rintro e u2 ⟨a2, k2, c2, rfl, hn, hb⟩; have hk2 : Below W.heap.size W u2 := (by first | exact below_of hk1 hb | exact below_of hk1.drew hb); have TK2 : True := trivial; (first | (have M' := Lib.hid (nmb_call hb M1.out)) | (have M' := Lib.hid (nmb_call hb (nmb_drew M1.out)))); clear M1; have M1 := M'; clear M'; have M2 := Lib.hid hn; clear hn hb)
    | (go_at_call 83; (with_reducible refine Calls.mono (FI.out _ (by first | exact hk0 | exact hk0.drew)) ?_); rintro e u1 ⟨a1, k1, c1, rfl, hn, hb⟩; have hk1 : Below W.heap.size W u1 := (by first | exact below_of hk0 hb | exact below_of hk0.drew hb); have TK1 : True := trivial; have M1 := Lib.hid hn; clear hn hb))
  all_goals
    go_wp2
    exact bodyPost_ret (results_it rfl rfl (set2_row _ _ GR.out)) rfl ⟨_, rfl, I5.out.far GR.out, ((below_of BL.out hk5).setCell (by show w.heap.size ≤ w.heap.size + 1; omega) _).setCell (by show w.heap.size ≤ w.heap.size + 1; omega) _⟩
set_option maxHeartbeats 16000000 in
set_option maxRecDepth 100000 in
theorem extract_is (pv av : Value) (wd m : Nat) (p0 : Int) (lo : Nat) (h2 : lo ≤ 4096) (hm : LtE m) (w : World) (hp : PaL w pv [p0, (lo : Int)]) (h : BvL w av [(wd, m)]) :
    Calls Tryz.prog 113 #[.agg #[pv, av]] w fun e w' => ∃ v', e = .returned v' ∧ IntV w' v' (((m / 2 ^ lo : Nat) : Int)) ∧ Below w.heap.size w w' := by
  have hpS := hp.shape
  have HP := Lib.hid hp
  obtain ⟨po, pc, rfl, hpc⟩ := hp
  obtain ⟨pb, poff, rfl, hplt, hpc⟩ := hpc (by simp)
  have pc0 := hpc 0 p0 rfl
  have pc1 := hpc 1 (lo : Int) rfl
  rw [Nat.add_zero] at pc0
  clear hpc hpS
  obtain ⟨ao, cap, rfl⟩ := h.shape
  have HV : Hid (BvL w (.slice ao 1 cap) [(wd, m)]) := Lib.hid h
  clear h
  obtain ⟨W, eW, g1, g2, bel, hsz⟩ := alloc2 w (Obj.cells #[.slice (some ⟨pb, poff, none⟩) 2 pc, .slice ao 1 cap] 92) (Obj.cells #[.bool false, .slice none 0 0] 26)
  have G2 := Lib.hid g2
  have hWs : w.heap.size + 1 < W.heap.size := hsz
  have G1 := Lib.hid g1; have BL := Lib.hid bel
  have SHP : Hid (∃ qo qn qc, (.slice (some ⟨pb, poff, none⟩) 2 pc : Value) = .slice qo qn qc) := Lib.hid ⟨_, _, _, rfl⟩
  have FI : Hid (∀ w1, Below W.heap.size W w1 → Calls Tryz.prog 83 #[.agg #[.slice (some ⟨pb, poff, none⟩) 2 pc, .slice ao 1 cap]] w1 fun e w' => ∃ a k c, e = .returned (.agg #[.int .i64 (wd : Int), .slice a k c]) ∧ NmB w' (.slice a k c) m ∧ Below w1.heap.size w1 w') := Lib.hid (fun w1 hw => first_nm _ _ [(wd, m)] wd m w1 SHP.out (HV.out.below (below_of bel hw)) rfl)
  have DN : Hid (∀ v w1, NmB w1 v m → Calls Tryz.prog 164 #[v, .int .i64 (lo : Int)] w1 fun e w' => ResM w1 w' e (m / 2 ^ lo)) := Lib.hid (fun v w1 hv => down_any v m lo (by omega) w1 hv hm)
  have AM : Hid (∀ v w1, NmB w1 v (m / 2 ^ lo) → Calls Tryz.prog 99 #[v] w1 fun e w' => ∃ v', e = .returned v' ∧ IntV w' v' ((m / 2 ^ lo : Nat) : Int) ∧ Below w1.heap.size w1 w') := Lib.hid (fun v w1 hv => amount_any v _ w1 hv)
  generalize m / 2 ^ lo = z at *
  have PC0 : Hid (∀ w', Below W.heap.size W w' → w'.cell? ⟨pb, poff, none⟩ = some (.int .i64 p0)) := Lib.hid (fun w' hb => ((below_of bel hb).cell (p := ⟨pb, poff, none⟩) hplt).trans pc0)
  have PC1 : Hid (∀ w', Below W.heap.size W w' → w'.cell? ⟨pb, poff + 1, none⟩ = some (.int .i64 (lo : Int))) := Lib.hid (fun w' hb => ((below_of bel hb).cell (p := ⟨pb, poff + 1, none⟩) hplt).trans pc1)
  have STAY : Hid (∀ w', Below W.heap.size W w' → w'.cell? ⟨w.heap.size, 0, none⟩ = some (.slice (some ⟨pb, poff, none⟩) 2 pc) ∧ w'.cell? ⟨w.heap.size, 1, none⟩ = some (.slice ao 1 cap) ∧ w'.cell? ⟨pb, poff, none⟩ = some (.int .i64 p0) ∧ w'.cell? ⟨pb, poff + 1, none⟩ = some (.int .i64 (lo : Int))) := Lib.hid (fun w' hb => by
    obtain ⟨e0, e1, -, -, _⟩ := blk2 (car hb G1.out)
    exact ⟨e0, e1, PC0.out _ hb, PC1.out _ hb⟩)
  have STAY2 : Hid (∀ w' y0 y1, Below W.heap.size W w' → ((w'.setCell ⟨w.heap.size + 1, 0, none⟩ y0).setCell ⟨w.heap.size + 1, 1, none⟩ y1).cell? ⟨w.heap.size, 0, none⟩ = some (.slice (some ⟨pb, poff, none⟩) 2 pc) ∧ ((w'.setCell ⟨w.heap.size + 1, 0, none⟩ y0).setCell ⟨w.heap.size + 1, 1, none⟩ y1).cell? ⟨w.heap.size, 1, none⟩ = some (.slice ao 1 cap) ∧ ((w'.setCell ⟨w.heap.size + 1, 0, none⟩ y0).setCell ⟨w.heap.size + 1, 1, none⟩ y1).cell? ⟨pb, poff, none⟩ = some (.int .i64 p0) ∧ ((w'.setCell ⟨w.heap.size + 1, 0, none⟩ y0).setCell ⟨w.heap.size + 1, 1, none⟩ y1).cell? ⟨pb, poff + 1, none⟩ = some (.int .i64 (lo : Int))) := Lib.hid (fun w' y0 y1 hb => by
    obtain ⟨e0, e1, -, -, _⟩ := blk2 (blk_far2 (R := w.heap.size + 1) (y0 := y0) (y1 := y1) (car hb G1.out) (by omega))
    exact ⟨e0, e1, (World.cell?_setCell_other (w := w'.setCell ⟨w.heap.size + 1, 0, none⟩ y0) (a := ⟨w.heap.size + 1, 1, none⟩) (b := ⟨pb, poff, none⟩) (v := y1) (fun e => by have := congrArg Addr.block e; simp only at this; omega)).trans ((World.cell?_setCell_other (w := w') (a := ⟨w.heap.size + 1, 0, none⟩) (b := ⟨pb, poff, none⟩) (v := y0) (fun e => by have := congrArg Addr.block e; simp only at this; omega)).trans (PC0.out _ hb)), (World.cell?_setCell_other (w := w'.setCell ⟨w.heap.size + 1, 0, none⟩ y0) (a := ⟨w.heap.size + 1, 1, none⟩) (b := ⟨pb, poff + 1, none⟩) (v := y1) (fun e => by have := congrArg Addr.block e; simp only at this; omega)).trans ((World.cell?_setCell_other (w := w') (a := ⟨w.heap.size + 1, 0, none⟩) (b := ⟨pb, poff + 1, none⟩) (v := y0) (fun e => by have := congrArg Addr.block e; simp only at this; omega)).trans (PC1.out _ hb))⟩)
  have hk0 := Below.refl W.heap.size W
  have hfl0 := field0_bits
  have hfl1 := field1_bits
  clear g1 bel g2
  clear hm
  go_enter Tryz.func113, Tryz.ntmps113
  go_upto_region 1 with fail
  try rw [eW]
  go_region_held3 (fun w' => w'.cell? ⟨w.heap.size, 0, none⟩ = some (.slice (some ⟨pb, poff, none⟩) 2 pc) ∧ w'.cell? ⟨w.heap.size, 1, none⟩ = some (.slice ao 1 cap) ∧ w'.cell? ⟨pb, poff, none⟩ = some (.int .i64 p0) ∧ w'.cell? ⟨pb, poff + 1, none⟩ = some (.int .i64 (lo : Int)))
    ((first | (refine STAY.out _ ?_; first | exact hk3 | exact hk3.drew | exact hk2 | exact hk2.drew | exact hk1 | exact hk1.drew | exact hk0 | exact hk0.drew) | exact STAY2.out _ _ _ hk3 | exact STAY2.out _ _ _ hk3.drew))
    (first
    | (have tk := TK2; go_at_call 99; (with_reducible refine Calls.mono (AM.out _ _ (by first | exact M2.out | exact nmb_drew M2.out)) ?_); rintro e u3 ⟨v3, rfl, hn, hb⟩; have hk3 : Below W.heap.size W u3 := (by first | exact below_of hk2 hb | exact below_of hk2.drew hb); have TK3 : True := trivial; have I3 := Lib.hid hn; obtain ⟨n3, a3, k3, c3, rfl⟩ := hn.shape; have GR := Lib.hid (car hk3 G2.out); obtain ⟨q0, q1, r0, r1, _⟩ := blk2 GR.out; have hz3 := hk3.size; clear hn hb)
    | (have tk := TK1; go_at_call 164; (with_reducible refine Calls.mono (DN.out _ _ (by first | exact M1.out | exact nmb_drew M1.out)) ?_); rintro e u2 ⟨a2, k2, c2, rfl, hn, hb⟩; have hk2 : Below W.heap.size W u2 := (by first | exact below_of hk1 hb | exact below_of hk1.drew hb); have TK2 : True := trivial; have M2 := Lib.hid hn; clear hn hb)
    | (go_at_call 83; (with_reducible refine Calls.mono (FI.out _ (by first | exact hk0 | exact hk0.drew)) ?_); rintro e u1 ⟨a1, k1, c1, rfl, hn, hb⟩; have hk1 : Below W.heap.size W u1 := (by first | exact below_of hk0 hb | exact below_of hk0.drew hb); have TK1 : True := trivial; have M1 := Lib.hid hn; clear hn hb))
  all_goals
    go_wp2
    exact bodyPost_ret (results_it rfl rfl (set2_row _ _ GR.out)) rfl ⟨_, rfl, I3.out.far GR.out, ((below_of BL.out hk3).setCell (by show w.heap.size ≤ w.heap.size + 1; omega) _).setCell (by show w.heap.size ≤ w.heap.size + 1; omega) _⟩
set_option maxHeartbeats 16000000 in
set_option maxRecDepth 100000 in
theorem together_is (pv av : Value) (wd wd' m n : Nat) (h1 : wd ≤ 4096) (h2 : wd' ≤ 4096) (w : World) (hp : ∃ po pn pc, pv = .slice po pn pc) (h : BvL w av [(wd, m), (wd', n)]) :
    Calls Tryz.prog 109 #[.agg #[pv, av]] w fun e w' => e = .returned (.int .i64 ((wd : Int) + (wd' : Int))) ∧ Below w.heap.size w w' := by
  obtain ⟨po, pn, pc, rfl⟩ := hp
  obtain ⟨ao, cap, rfl⟩ := h.shape
  have HV : Hid (BvL w (.slice ao 2 cap) [(wd, m), (wd', n)]) := Lib.hid h
  clear h
  obtain ⟨W, eW, g1, bel, hsz⟩ := alloc1n w (Obj.cells #[.slice po pn pc, .slice ao 2 cap] 92)
  have G1 := Lib.hid g1; have BL := Lib.hid bel
  have SHP : Hid (∃ qo qn qc, (.slice po pn pc : Value) = .slice qo qn qc) := Lib.hid ⟨_, _, _, rfl⟩
  have FI : Hid (∀ w1, Below W.heap.size W w1 → Calls Tryz.prog 83 #[.agg #[.slice po pn pc, .slice ao 2 cap]] w1 fun e w' => ∃ a k c, e = .returned (.agg #[.int .i64 (wd : Int), .slice a k c]) ∧ NmB w' (.slice a k c) m ∧ Below w1.heap.size w1 w') := Lib.hid (fun w1 hw => first_nm _ _ [(wd, m), (wd', n)] wd m w1 SHP.out (HV.out.below (below_of bel hw)) rfl)
  have LA : Hid (∀ w1, Below W.heap.size W w1 → Calls Tryz.prog 84 #[.agg #[.slice po pn pc, .slice ao 2 cap]] w1 fun e w' => ∃ a k c, e = .returned (.agg #[.int .i64 (wd' : Int), .slice a k c]) ∧ NmB w' (.slice a k c) n ∧ Below w1.heap.size w1 w') := Lib.hid (fun w1 hw => last_nm _ _ [(wd, m), (wd', n)] 1 wd' n w1 SHP.out (HV.out.below (below_of bel hw)) rfl (by omega) rfl)
  have STAY : Hid (∀ w', Below W.heap.size W w' → w'.cell? ⟨w.heap.size, 0, none⟩ = some (.slice po pn pc) ∧ w'.cell? ⟨w.heap.size, 1, none⟩ = some (.slice ao 2 cap)) := Lib.hid (fun w' hb => by
    obtain ⟨e0, e1, -, -, _⟩ := blk2 (car hb G1.out)
    exact ⟨e0, e1⟩)
  have hk0 := Below.refl W.heap.size W
  have hfl0 := field0_bits
  have hfl1 := field1_bits
  clear g1 bel
  have hwr : IntKind.i64.wrap ((wd : Int) + (wd' : Int)) = (wd : Int) + (wd' : Int) := IntWalk.i64_in _ (by omega)
  go_enter Tryz.func109, Tryz.ntmps109
  go_upto_region 1 with fail
  try rw [eW]
  go_region_held3 (fun w' => w'.cell? ⟨w.heap.size, 0, none⟩ = some (.slice po pn pc) ∧ w'.cell? ⟨w.heap.size, 1, none⟩ = some (.slice ao 2 cap))
    ((first | (refine STAY.out _ ?_; first | exact hk2 | exact hk2.drew | exact hk1 | exact hk1.drew | exact hk0 | exact hk0.drew)))
    (first
    | (have tk := TK1; go_at_call 84; (with_reducible refine Calls.mono (LA.out _ (by first | exact hk1 | exact hk1.drew)) ?_); rintro e u2 ⟨a2, k2, c2, rfl, hn, hb⟩; have hk2 : Below W.heap.size W u2 := (by first | exact below_of hk1 hb | exact below_of hk1.drew hb); have TK2 : True := trivial; have M2 := Lib.hid hn; clear hn hb)
    | (go_at_call 83; (with_reducible refine Calls.mono (FI.out _ (by first | exact hk0 | exact hk0.drew)) ?_); rintro e u1 ⟨a1, k1, c1, rfl, hn, hb⟩; have hk1 : Below W.heap.size W u1 := (by first | exact below_of hk0 hb | exact below_of hk0.drew hb); have TK1 : True := trivial; have M1 := Lib.hid hn; clear hn hb))
  all_goals
    go_wp2
    go_ret
    exact ⟨rfl, below_of BL.out (by first | exact hk2 | exact hk2.drew)⟩
set_option maxHeartbeats 16000000 in
set_option maxRecDepth 100000 in
theorem extended_is (pv av : Value) (wd m : Nat) (p0 : Int) (h1 : wd ≤ 4096) (h2 : 0 ≤ p0) (h3 : p0 ≤ 4096) (w : World) (hp : PaL w pv [p0]) (h : BvL w av [(wd, m)]) :
    Calls Tryz.prog 139 #[.agg #[pv, av]] w fun e w' => e = .returned (.int .i64 ((wd : Int) + p0)) ∧ Below w.heap.size w w' := by
  have hpS := hp.shape
  have HP := Lib.hid hp
  obtain ⟨po, pc, rfl, hpc⟩ := hp
  obtain ⟨pb, poff, rfl, hplt, hpc⟩ := hpc (by simp)
  have pc0 := hpc 0 p0 rfl
  rw [Nat.add_zero] at pc0
  clear hpc hpS
  obtain ⟨ao, cap, rfl⟩ := h.shape
  have HV : Hid (BvL w (.slice ao 1 cap) [(wd, m)]) := Lib.hid h
  clear h
  obtain ⟨W, eW, g1, bel, hsz⟩ := alloc1n w (Obj.cells #[.slice (some ⟨pb, poff, none⟩) 1 pc, .slice ao 1 cap] 92)
  have G1 := Lib.hid g1; have BL := Lib.hid bel
  have SHP : Hid (∃ qo qn qc, (.slice (some ⟨pb, poff, none⟩) 1 pc : Value) = .slice qo qn qc) := Lib.hid ⟨_, _, _, rfl⟩
  have FI : Hid (∀ w1, Below W.heap.size W w1 → Calls Tryz.prog 83 #[.agg #[.slice (some ⟨pb, poff, none⟩) 1 pc, .slice ao 1 cap]] w1 fun e w' => ∃ a k c, e = .returned (.agg #[.int .i64 (wd : Int), .slice a k c]) ∧ NmB w' (.slice a k c) m ∧ Below w1.heap.size w1 w') := Lib.hid (fun w1 hw => first_nm _ _ [(wd, m)] wd m w1 SHP.out (HV.out.below (below_of bel hw)) rfl)
  have PC0 : Hid (∀ w', Below W.heap.size W w' → w'.cell? ⟨pb, poff, none⟩ = some (.int .i64 p0)) := Lib.hid (fun w' hb => ((below_of bel hb).cell (p := ⟨pb, poff, none⟩) hplt).trans pc0)
  have STAY : Hid (∀ w', Below W.heap.size W w' → w'.cell? ⟨w.heap.size, 0, none⟩ = some (.slice (some ⟨pb, poff, none⟩) 1 pc) ∧ w'.cell? ⟨w.heap.size, 1, none⟩ = some (.slice ao 1 cap) ∧ w'.cell? ⟨pb, poff, none⟩ = some (.int .i64 p0)) := Lib.hid (fun w' hb => by
    obtain ⟨e0, e1, -, -, _⟩ := blk2 (car hb G1.out)
    exact ⟨e0, e1, PC0.out _ hb⟩)
  have hk0 := Below.refl W.heap.size W
  have hfl0 := field0_bits
  have hfl1 := field1_bits
  clear g1 bel
  have hwr : IntKind.i64.wrap ((wd : Int) + p0) = (wd : Int) + p0 := IntWalk.i64_in _ (by omega)
  go_enter Tryz.func139, Tryz.ntmps139
  go_upto_region 1 with fail
  try rw [eW]
  go_region_held3 (fun w' => w'.cell? ⟨w.heap.size, 0, none⟩ = some (.slice (some ⟨pb, poff, none⟩) 1 pc) ∧ w'.cell? ⟨w.heap.size, 1, none⟩ = some (.slice ao 1 cap) ∧ w'.cell? ⟨pb, poff, none⟩ = some (.int .i64 p0))
    ((first | (refine STAY.out _ ?_; first | exact hk1 | exact hk1.drew | exact hk0 | exact hk0.drew)))
    (first
    | (go_at_call 83; (with_reducible refine Calls.mono (FI.out _ (by first | exact hk0 | exact hk0.drew)) ?_); rintro e u1 ⟨a1, k1, c1, rfl, hn, hb⟩; have hk1 : Below W.heap.size W u1 := (by first | exact below_of hk0 hb | exact below_of hk0.drew hb); have TK1 : True := trivial; have M1 := Lib.hid hn; clear hn hb))
  all_goals
    go_wp2
    go_ret
    exact ⟨rfl, below_of BL.out (by first | exact hk1 | exact hk1.drew)⟩
end Go.Proofs.YtccofiakblmkhaaGreat

/- bits: rotated, rotL, rotR (gen9t.py). -/
namespace Go.Proofs.YtccofiakblmkhaaGreat
open Go.RowKit Mth

def rotZ (wd m n : Nat) : Nat := m * 2 ^ n + m / 2 ^ (wd - n)
set_option maxHeartbeats 16000000 in
set_option maxRecDepth 100000 in
theorem rotated_is (pv av : Value) (wd m n : Nat) (h2 : wd ≤ 4096) (hn : n ≤ wd) (hm : LtE (rotZ wd m n)) (w : World) (hp : ∃ po pn pc, pv = .slice po pn pc) (h : BvL w av [(wd, m)]) :
    Calls Tryz.prog 186 #[.agg #[pv, av], .int .i64 (n : Int)] w fun e w' => ∃ v', e = .returned v' ∧ IntV w' v' ((rotZ wd m n : Nat) : Int) ∧ Below w.heap.size w w' := by
  obtain ⟨po, pn, pc, rfl⟩ := hp
  obtain ⟨ao, cap, rfl⟩ := h.shape
  have hm1 : LtE m := ⟨Nat.lt_of_le_of_lt (Nat.le_trans (Nat.le_mul_of_pos_right _ (two_pos n)) (Nat.le_add_right _ _)) hm.out⟩
  obtain ⟨W, eW, g1, g2, bel, hsz⟩ := alloc2 w (Obj.cells #[.slice po pn pc, .slice ao 1 cap] 92) (Obj.cells #[.bool false, .slice none 0 0] 26)
  have G2 := Lib.hid g2; have BL := Lib.hid bel
  have hWs : w.heap.size + 1 < W.heap.size := hsz
  have FI := Lib.hid (first_nm (.slice po pn pc) _ [(wd, m)] wd m W ⟨_, _, _, rfl⟩ (h.below bel) rfl)
  have DN : Hid (∀ v w1, NmB w1 v m → Calls Tryz.prog 164 #[v, .int .i64 ((wd : Int) - (n : Int))] w1 fun e w' => ResM w1 w' e (m / 2 ^ (wd - n))) := Lib.hid (fun v w1 hv => by
    have h := down_any v m (wd - n) (by omega) w1 hv hm1
    rw [show ((wd - n : Nat) : Int) = (wd : Int) - (n : Int) by omega] at h
    exact h)
  have JN : Hid (∀ va vb w1, NmB w1 va m → NmB w1 vb (m / 2 ^ (wd - n)) → Calls Tryz.prog 162 #[va, vb, .int .i64 (n : Int)] w1 fun e w' => ResM w1 w' e (rotZ wd m n)) := Lib.hid (fun va vb w1 ha hb => joined_any va vb m _ n (by omega) w1 ha hb hm)
  have AM : Hid (∀ v w1, NmB w1 v (rotZ wd m n) → Calls Tryz.prog 99 #[v] w1 fun e w' => ∃ v', e = .returned v' ∧ IntV w' v' ((rotZ wd m n : Nat) : Int) ∧ Below w1.heap.size w1 w') := Lib.hid (fun v w1 hv => amount_any v _ w1 hv)
  have hwr : IntKind.i64.wrap ((wd : Int) - (n : Int)) = (wd : Int) - (n : Int) := IntWalk.i64_in _ (by omega)
  have hwr2 : wrap64 ((wd : Int) - (n : Int)) = (wd : Int) - (n : Int) := IntWalk.wrap64_in _ (by omega)
  generalize rotZ wd m n = z at *
  generalize m / 2 ^ (wd - n) = y at *
  obtain ⟨c0, c1, -, -, _⟩ := blk2 g1
  clear h g1 g2 bel hm hm1
  go_enter Tryz.func186, Tryz.ntmps186
  go_wp2_with fail
  try rw [eW]
  refine FI.out.mono ?_
  rintro e u1 ⟨a1, k1, c1', rfl, hn1, hb1⟩
  obtain ⟨V, eV, gV, bV, hVs⟩ := alloc1n u1 (Obj.cells #[.int .i64 (wd : Int), .slice a1 k1 c1'] 28)
  have MV := Lib.hid (hn1.below bV)
  have BV := Lib.hid (below_of BL.out (below_of hb1 bV))
  have GA := Lib.hid gV; have GB := Lib.hid (car bV (car hb1 G2.out))
  have hu1 : W.heap.size ≤ u1.heap.size := hb1.size
  have EV := Lib.hid eV
  clear hn1 hb1 gV bV eV c0 c1
  go_upto_region 2 with fail
  try rw [EV.out]
  have STAY : Hid (∀ w', Below V.heap.size V w' → w'.cell? ⟨u1.heap.size, 0, none⟩ = some (.int .i64 (wd : Int)) ∧ w'.cell? ⟨u1.heap.size, 1, none⟩ = some (.slice a1 k1 c1')) := Lib.hid (fun w' hb => by
    obtain ⟨e0, e1, -, -, _⟩ := blk2 (car hb GA.out)
    exact ⟨e0, e1⟩)
  have STAY2 : Hid (∀ w' y0 y1, Below V.heap.size V w' → ((w'.setCell ⟨w.heap.size + 1, 0, none⟩ y0).setCell ⟨w.heap.size + 1, 1, none⟩ y1).cell? ⟨u1.heap.size, 0, none⟩ = some (.int .i64 (wd : Int)) ∧ ((w'.setCell ⟨w.heap.size + 1, 0, none⟩ y0).setCell ⟨w.heap.size + 1, 1, none⟩ y1).cell? ⟨u1.heap.size, 1, none⟩ = some (.slice a1 k1 c1')) := Lib.hid (fun w' y0 y1 hb => by
    obtain ⟨e0, e1, -, -, _⟩ := blk2 (blk_far2 (R := w.heap.size + 1) (y0 := y0) (y1 := y1) (car hb GA.out) (by omega))
    exact ⟨e0, e1⟩)
  have hk0 := Below.refl V.heap.size V
  go_region_held3 (fun w' => w'.cell? ⟨u1.heap.size, 0, none⟩ = some (.int .i64 (wd : Int)) ∧ w'.cell? ⟨u1.heap.size, 1, none⟩ = some (.slice a1 k1 c1'))
    ((first | (refine STAY.out _ ?_; first | exact hk3 | exact hk3.drew | exact hk2 | exact hk2.drew | exact hk1 | exact hk1.drew | exact hk0 | exact hk0.drew) | exact STAY2.out _ _ _ hk3 | exact STAY2.out _ _ _ hk3.drew))
    (first
    | (have tk := TK2; go_at_call 99; (with_reducible refine Calls.mono (AM.out _ _ (by first | exact M2.out | exact nmb_drew M2.out)) ?_); rintro e u4 ⟨v4, rfl, hn, hb⟩; have hk3 : Below V.heap.size V u4 := (by first | exact below_of hk2 hb | exact below_of hk2.drew hb); have I3 := Lib.hid hn; obtain ⟨n3, a3, k3, c3, rfl⟩ := hn.shape; have GR := Lib.hid (car hk3 GB.out); obtain ⟨q0, q1, r0, r1, _⟩ := blk2 GR.out; have hz3 := hk3.size; clear hn hb)
    | (have tk := TK1; go_at_call 162; (with_reducible refine Calls.mono (JN.out _ _ _ (MV.out.below (by first | exact hk1 | exact hk1.drew)) (by first | exact M1.out | exact nmb_drew M1.out)) ?_); rintro e u3 ⟨a3', k3', c3', rfl, hn, hb⟩; have hk2 : Below V.heap.size V u3 := (by first | exact below_of hk1 hb | exact below_of hk1.drew hb); have TK2 : True := trivial; have M2 := Lib.hid hn; clear hn hb)
    | (go_at_call 164; (with_reducible refine Calls.mono (DN.out _ _ (MV.out.below (by first | exact hk0 | exact hk0.drew))) ?_); rintro e u2 ⟨a2, k2, c2, rfl, hn, hb⟩; have hk1 : Below V.heap.size V u2 := (by first | exact below_of hk0 hb | exact below_of hk0.drew hb); have TK1 : True := trivial; have M1 := Lib.hid hn; clear hn hb))
  all_goals
    go_wp2
    exact bodyPost_ret (results_it rfl rfl (set2_row _ _ GR.out)) rfl ⟨_, rfl, I3.out.far GR.out, ((below_of BV.out hk3).setCell (by show w.heap.size ≤ w.heap.size + 1; omega) _).setCell (by show w.heap.size ≤ w.heap.size + 1; omega) _⟩
theorem mod_nat (p wd : Nat) : ((p : Int) % (wd : Int)) = ((p % wd : Nat) : Int) := by rw [Int.natCast_emod]
theorem tmod_nat (p wd : Nat) : ((p : Int).tmod (wd : Int)) = ((p % wd : Nat) : Int) := by rw [Int.tmod_eq_emod_of_nonneg (by omega), Int.natCast_emod]
set_option maxHeartbeats 16000000 in
set_option maxRecDepth 100000 in
theorem rotL_is (pv av : Value) (wd m p q : Nat) (hq : p % wd = q) (h1 : 1 ≤ wd) (h2 : wd ≤ 4096) (hp4 : p ≤ 4096) (hm : LtE (rotZ wd m (q))) (w : World) (hp : PaL w pv [(p : Int)]) (h : BvL w av [(wd, m)]) :
    Calls Tryz.prog 142 #[.agg #[pv, av]] w fun e w' => ∃ v', e = .returned v' ∧ IntV w' v' (((rotZ wd m q : Nat) : Int)) ∧ Below w.heap.size w w' := by
  have hpS := hp.shape
  have HP := Lib.hid hp
  obtain ⟨po, pc, rfl, hpc⟩ := hp
  obtain ⟨pb, poff, rfl, hplt, hpc⟩ := hpc (by simp)
  have pc0 := hpc 0 (p : Int) rfl
  rw [Nat.add_zero] at pc0
  clear hpc hpS
  obtain ⟨ao, cap, rfl⟩ := h.shape
  have HV : Hid (BvL w (.slice ao 1 cap) [(wd, m)]) := Lib.hid h
  clear h
  obtain ⟨W, eW, g1, g2, bel, hsz⟩ := alloc2 w (Obj.cells #[.slice (some ⟨pb, poff, none⟩) 1 pc, .slice ao 1 cap] 92) (Obj.cells #[.bool false, .slice none 0 0] 26)
  have G2 := Lib.hid g2
  have hWs : w.heap.size + 1 < W.heap.size := hsz
  have G1 := Lib.hid g1; have BL := Lib.hid bel
  have SHP : Hid (∃ qo qn qc, (.slice (some ⟨pb, poff, none⟩) 1 pc : Value) = .slice qo qn qc) := Lib.hid ⟨_, _, _, rfl⟩
  have FI : Hid (∀ w1, Below W.heap.size W w1 → Calls Tryz.prog 83 #[.agg #[.slice (some ⟨pb, poff, none⟩) 1 pc, .slice ao 1 cap]] w1 fun e w' => ∃ a k c, e = .returned (.agg #[.int .i64 (wd : Int), .slice a k c]) ∧ NmB w' (.slice a k c) m ∧ Below w1.heap.size w1 w') := Lib.hid (fun w1 hw => first_nm _ _ [(wd, m)] wd m w1 SHP.out (HV.out.below (below_of bel hw)) rfl)
  have RO : Hid (∀ w1, Below W.heap.size W w1 → Calls Tryz.prog 186 #[.agg #[.slice (some ⟨pb, poff, none⟩) 1 pc, .slice ao 1 cap], .int .i64 ((q : Int))] w1 fun e w' => ∃ v', e = .returned v' ∧ IntV w' v' ((rotZ wd m (q) : Nat) : Int) ∧ Below w1.heap.size w1 w') := Lib.hid (fun w1 hw => by
    have h := rotated_is (.slice (some ⟨pb, poff, none⟩) 1 pc) (.slice ao 1 cap) wd m (q) h2 (by have := Nat.mod_lt p (show 0 < wd by omega); omega) hm w1 SHP.out (HV.out.below (below_of bel hw))
    exact h)
  have PC0 : Hid (∀ w', Below W.heap.size W w' → w'.cell? ⟨pb, poff, none⟩ = some (.int .i64 (p : Int))) := Lib.hid (fun w' hb => ((below_of bel hb).cell (p := ⟨pb, poff, none⟩) hplt).trans pc0)
  have STAY : Hid (∀ w', Below W.heap.size W w' → w'.cell? ⟨w.heap.size, 0, none⟩ = some (.slice (some ⟨pb, poff, none⟩) 1 pc) ∧ w'.cell? ⟨w.heap.size, 1, none⟩ = some (.slice ao 1 cap) ∧ w'.cell? ⟨pb, poff, none⟩ = some (.int .i64 (p : Int))) := Lib.hid (fun w' hb => by
    obtain ⟨e0, e1, -, -, _⟩ := blk2 (car hb G1.out)
    exact ⟨e0, e1, PC0.out _ hb⟩)
  have STAY2 : Hid (∀ w' y0 y1, Below W.heap.size W w' → ((w'.setCell ⟨w.heap.size + 1, 0, none⟩ y0).setCell ⟨w.heap.size + 1, 1, none⟩ y1).cell? ⟨w.heap.size, 0, none⟩ = some (.slice (some ⟨pb, poff, none⟩) 1 pc) ∧ ((w'.setCell ⟨w.heap.size + 1, 0, none⟩ y0).setCell ⟨w.heap.size + 1, 1, none⟩ y1).cell? ⟨w.heap.size, 1, none⟩ = some (.slice ao 1 cap) ∧ ((w'.setCell ⟨w.heap.size + 1, 0, none⟩ y0).setCell ⟨w.heap.size + 1, 1, none⟩ y1).cell? ⟨pb, poff, none⟩ = some (.int .i64 (p : Int))) := Lib.hid (fun w' y0 y1 hb => by
    obtain ⟨e0, e1, -, -, _⟩ := blk2 (blk_far2 (R := w.heap.size + 1) (y0 := y0) (y1 := y1) (car hb G1.out) (by omega))
    exact ⟨e0, e1, (World.cell?_setCell_other (w := w'.setCell ⟨w.heap.size + 1, 0, none⟩ y0) (a := ⟨w.heap.size + 1, 1, none⟩) (b := ⟨pb, poff, none⟩) (v := y1) (fun e => by have := congrArg Addr.block e; simp only at this; omega)).trans ((World.cell?_setCell_other (w := w') (a := ⟨w.heap.size + 1, 0, none⟩) (b := ⟨pb, poff, none⟩) (v := y0) (fun e => by have := congrArg Addr.block e; simp only at this; omega)).trans (PC0.out _ hb))⟩)
  have hk0 := Below.refl W.heap.size W
  have hfl0 := field0_bits
  have hfl1 := field1_bits
  clear g1 bel g2
  have hmod : ((p : Int) % (wd : Int)) = (q : Int) := by rw [mod_nat, hq]
  have htmod : ((p : Int).tmod (wd : Int)) = (q : Int) := by rw [tmod_nat, hq]
  have hp0 : (0 : Int) ≤ (p : Int) := by omega
  have hw2 : (1 : Int) ≤ (wd : Int) := by omega
  have hw0 : ((wd : Int) == 0) = false := beq_eq_false_iff_ne.2 (by omega)
  have hwn : ¬ wd = 0 := by omega
  clear hm hq
  go_enter Tryz.func142, Tryz.ntmps142
  go_upto_region 1 with fail
  try rw [eW]
  go_region_held3 (fun w' => w'.cell? ⟨w.heap.size, 0, none⟩ = some (.slice (some ⟨pb, poff, none⟩) 1 pc) ∧ w'.cell? ⟨w.heap.size, 1, none⟩ = some (.slice ao 1 cap) ∧ w'.cell? ⟨pb, poff, none⟩ = some (.int .i64 (p : Int)))
    ((first | (refine STAY.out _ ?_; first | exact hk2 | exact hk2.drew | exact hk1 | exact hk1.drew | exact hk0 | exact hk0.drew) | exact STAY2.out _ _ _ hk2 | exact STAY2.out _ _ _ hk2.drew))
    (first
    | (have tk := TK1; go_at_call 186; (with_reducible refine Calls.mono (RO.out _ (by first | exact hk1 | exact hk1.drew)) ?_); rintro e u2 ⟨v2, rfl, hn, hb⟩; have hk2 : Below W.heap.size W u2 := (by first | exact below_of hk1 hb | exact below_of hk1.drew hb); have TK2 : True := trivial; have I2 := Lib.hid hn; obtain ⟨n2, a2, k2, c2, rfl⟩ := hn.shape; have GR := Lib.hid (car hk2 G2.out); obtain ⟨q0, q1, r0, r1, _⟩ := blk2 GR.out; have hz2 := hk2.size; clear hn hb)
    | (go_at_call 83; (with_reducible refine Calls.mono (FI.out _ (by first | exact hk0 | exact hk0.drew)) ?_); rintro e u1 ⟨a1, k1, c1, rfl, hn, hb⟩; have hk1 : Below W.heap.size W u1 := (by first | exact below_of hk0 hb | exact below_of hk0.drew hb); have TK1 : True := trivial; have M1 := Lib.hid hn; clear hn hb))
  all_goals
    go_wp2
    exact bodyPost_ret (results_it rfl rfl (set2_row _ _ GR.out)) rfl ⟨_, rfl, I2.out.far GR.out, ((below_of BL.out hk2).setCell (by show w.heap.size ≤ w.heap.size + 1; omega) _).setCell (by show w.heap.size ≤ w.heap.size + 1; omega) _⟩
set_option maxHeartbeats 16000000 in
set_option maxRecDepth 100000 in
theorem rotR_is (pv av : Value) (wd m p q : Nat) (hq : p % wd = q) (h1 : 1 ≤ wd) (h2 : wd ≤ 4096) (hp4 : p ≤ 4096) (hm : LtE (rotZ wd m (wd - q))) (w : World) (hp : PaL w pv [(p : Int)]) (h : BvL w av [(wd, m)]) :
    Calls Tryz.prog 143 #[.agg #[pv, av]] w fun e w' => ∃ v', e = .returned v' ∧ IntV w' v' ((rotZ wd m (wd - q) : Nat) : Int) ∧ Below w.heap.size w w' := by
  obtain ⟨po, pc, rfl, hpc⟩ := hp
  obtain ⟨pb, poff, rfl, hplt, hpc⟩ := hpc (by simp)
  have pc0 := hpc 0 (p : Int) rfl
  rw [Nat.add_zero] at pc0
  clear hpc
  obtain ⟨ao, cap, rfl⟩ := h.shape
  have HV : Hid (BvL w (.slice ao 1 cap) [(wd, m)]) := Lib.hid h
  clear h
  obtain ⟨W, eW, g1, g2, bel, hsz⟩ := alloc2 w (Obj.cells #[.slice (some ⟨pb, poff, none⟩) 1 pc, .slice ao 1 cap] 92) (Obj.cells #[.bool false, .slice none 0 0] 26)
  have G1 := Lib.hid g1; have G2 := Lib.hid g2; have BL := Lib.hid bel
  have hWs : w.heap.size + 1 < W.heap.size := hsz
  have SHP : Hid (∃ qo qn qc, (Value.slice (some ⟨pb, poff, none⟩) 1 pc) = .slice qo qn qc) := Lib.hid ⟨_, _, _, rfl⟩
  have FI := Lib.hid (first_nm (.slice (some ⟨pb, poff, none⟩) 1 pc) _ [(wd, m)] wd m W SHP.out (HV.out.below bel) rfl)
  have hqw : q ≤ wd := by have := Nat.mod_lt p (show 0 < wd by omega); omega
  have RO : Hid (∀ w1, Below W.heap.size W w1 → Calls Tryz.prog 186 #[.agg #[.slice (some ⟨pb, poff, none⟩) 1 pc, .slice ao 1 cap], .int .i64 ((wd : Int) - (q : Int))] w1 fun e w' => ∃ v', e = .returned v' ∧ IntV w' v' ((rotZ wd m (wd - q) : Nat) : Int) ∧ Below w1.heap.size w1 w') := Lib.hid (fun w1 hw => by
    have h := rotated_is (.slice (some ⟨pb, poff, none⟩) 1 pc) (.slice ao 1 cap) wd m (wd - q) h2 (by omega) hm w1 SHP.out (HV.out.below (below_of bel hw)) 
    rw [show ((wd - q : Nat) : Int) = (wd : Int) - (q : Int) by omega] at h
    exact h)
  have PC0 : Hid (∀ w', Below W.heap.size W w' → w'.cell? ⟨pb, poff, none⟩ = some (.int .i64 (p : Int))) := Lib.hid (fun w' hb => ((below_of bel hb).cell (p := ⟨pb, poff, none⟩) hplt).trans pc0)
  have htmod : ((p : Int).tmod (wd : Int)) = (q : Int) := by rw [tmod_nat, hq]
  have hwn : ¬ wd = 0 := by omega
  have hwr : IntKind.i64.wrap ((wd : Int) - (q : Int)) = (wd : Int) - (q : Int) := IntWalk.i64_in _ (by omega)
  have hfl0 := field0_bits
  obtain ⟨c0, c1, -, -, _⟩ := blk2 g1
  generalize ((rotZ wd m (wd - q) : Nat) : Int) = z at *
  clear g1 g2 bel hm hq
  go_enter Tryz.func143, Tryz.ntmps143
  go_wp2_with fail
  try rw [eW]
  refine FI.out.mono ?_
  rintro e X ⟨a1, k1, c1', rfl, -, hb⟩
  have BX := Lib.hid hb
  have GA := Lib.hid (car hb G1.out)
  have hWX := hb.size
  clear hb c0 c1
  go_upto_region 2 with fail
  have STAY : Hid (∀ w', Below X.heap.size X w' → w'.cell? ⟨w.heap.size, 0, none⟩ = some (.slice (some ⟨pb, poff, none⟩) 1 pc) ∧ w'.cell? ⟨w.heap.size, 1, none⟩ = some (.slice ao 1 cap) ∧ w'.cell? ⟨pb, poff, none⟩ = some (.int .i64 (p : Int))) := Lib.hid (fun w' hb => by
    obtain ⟨e0, e1, -, -, _⟩ := blk2 (car hb GA.out)
    exact ⟨e0, e1, PC0.out _ (below_of BX.out hb)⟩)
  have STAY2 : Hid (∀ w' y0 y1, Below X.heap.size X w' → ((w'.setCell ⟨w.heap.size + 1, 0, none⟩ y0).setCell ⟨w.heap.size + 1, 1, none⟩ y1).cell? ⟨w.heap.size, 0, none⟩ = some (.slice (some ⟨pb, poff, none⟩) 1 pc) ∧ ((w'.setCell ⟨w.heap.size + 1, 0, none⟩ y0).setCell ⟨w.heap.size + 1, 1, none⟩ y1).cell? ⟨w.heap.size, 1, none⟩ = some (.slice ao 1 cap) ∧ ((w'.setCell ⟨w.heap.size + 1, 0, none⟩ y0).setCell ⟨w.heap.size + 1, 1, none⟩ y1).cell? ⟨pb, poff, none⟩ = some (.int .i64 (p : Int))) := Lib.hid (fun w' y0 y1 hb => by
    obtain ⟨e0, e1, -, -, _⟩ := blk2 (blk_far2 (R := w.heap.size + 1) (y0 := y0) (y1 := y1) (car hb GA.out) (by omega))
    exact ⟨e0, e1, (World.cell?_setCell_other (w := w'.setCell ⟨w.heap.size + 1, 0, none⟩ y0) (a := ⟨w.heap.size + 1, 1, none⟩) (b := ⟨pb, poff, none⟩) (v := y1) (fun e => by have := congrArg Addr.block e; simp only at this; omega)).trans ((World.cell?_setCell_other (w := w') (a := ⟨w.heap.size + 1, 0, none⟩) (b := ⟨pb, poff, none⟩) (v := y0) (fun e => by have := congrArg Addr.block e; simp only at this; omega)).trans (PC0.out _ (below_of BX.out hb)))⟩)
  have hk0 := Below.refl X.heap.size X
  go_region_held3 (fun w' => w'.cell? ⟨w.heap.size, 0, none⟩ = some (.slice (some ⟨pb, poff, none⟩) 1 pc) ∧ w'.cell? ⟨w.heap.size, 1, none⟩ = some (.slice ao 1 cap) ∧ w'.cell? ⟨pb, poff, none⟩ = some (.int .i64 (p : Int)))
    ((first | (refine STAY.out _ ?_; first | exact hk1 | exact hk1.drew | exact hk0 | exact hk0.drew) | exact STAY2.out _ _ _ hk1 | exact STAY2.out _ _ _ hk1.drew))
    (first
    | (go_at_call 186; (with_reducible refine Calls.mono (RO.out _ (below_of BX.out (by first | exact hk0 | exact hk0.drew))) ?_); rintro e u4 ⟨v4, rfl, hn, hb⟩; have hk1 : Below X.heap.size X u4 := (by first | exact below_of hk0 hb | exact below_of hk0.drew hb); have I3 := Lib.hid hn; obtain ⟨n3, a3, k3, c3, rfl⟩ := hn.shape; have GR := Lib.hid (car (below_of BX.out hk1) G2.out); obtain ⟨q0, q1, r0, r1, _⟩ := blk2 GR.out; have hz3 := hk1.size; clear hn hb))
  all_goals
    go_wp2
    exact bodyPost_ret (results_it rfl rfl (set2_row _ _ GR.out)) rfl ⟨_, rfl, I3.out.far GR.out, ((below_of BL.out (below_of BX.out hk1)).setCell (by show w.heap.size ≤ w.heap.size + 1; omega) _).setCell (by show w.heap.size ≤ w.heap.size + 1; omega) _⟩
end Go.Proofs.YtccofiakblmkhaaGreat

/- bits: between (gen9u.py). -/
namespace Go.Proofs.YtccofiakblmkhaaGreat
open Go.RowKit Mth

set_option maxHeartbeats 16000000 in
set_option maxRecDepth 100000 in
theorem between_is (pv av : Value) (wd m : Nat) (p0 p1 : Int) (h2 : wd ≤ 4096) (h0 : 0 ≤ p1) (h3 : p1 ≤ p0) (h4 : p0 < wd) (w : World) (hp : PaL w pv [p0, p1]) (h : BvL w av [(wd, m)]) :
    Calls Tryz.prog 112 #[.agg #[pv, av]] w fun e w' => e = .returned (.int .i64 (p0 - p1 + 1)) ∧ Below w.heap.size w w' := by
  have hpS := hp.shape
  have HP := Lib.hid hp
  obtain ⟨po, pc, rfl, hpc⟩ := hp
  obtain ⟨pb, poff, rfl, hplt, hpc⟩ := hpc (by simp)
  have pc0 := hpc 0 p0 rfl
  have pc1 := hpc 1 p1 rfl
  rw [Nat.add_zero] at pc0
  clear hpc hpS
  obtain ⟨ao, cap, rfl⟩ := h.shape
  have HV : Hid (BvL w (.slice ao 1 cap) [(wd, m)]) := Lib.hid h
  clear h
  obtain ⟨W, eW, g1, bel, hsz⟩ := alloc1n w (Obj.cells #[.slice (some ⟨pb, poff, none⟩) 2 pc, .slice ao 1 cap] 92)
  have G1 := Lib.hid g1; have BL := Lib.hid bel
  have SHP : Hid (∃ qo qn qc, (.slice (some ⟨pb, poff, none⟩) 2 pc : Value) = .slice qo qn qc) := Lib.hid ⟨_, _, _, rfl⟩
  have FI : Hid (∀ w1, Below W.heap.size W w1 → Calls Tryz.prog 83 #[.agg #[.slice (some ⟨pb, poff, none⟩) 2 pc, .slice ao 1 cap]] w1 fun e w' => ∃ a k c, e = .returned (.agg #[.int .i64 (wd : Int), .slice a k c]) ∧ NmB w' (.slice a k c) m ∧ Below w1.heap.size w1 w') := Lib.hid (fun w1 hw => first_nm _ _ [(wd, m)] wd m w1 SHP.out (HV.out.below (below_of bel hw)) rfl)
  have PC0 : Hid (∀ w', Below W.heap.size W w' → w'.cell? ⟨pb, poff, none⟩ = some (.int .i64 p0)) := Lib.hid (fun w' hb => ((below_of bel hb).cell (p := ⟨pb, poff, none⟩) hplt).trans pc0)
  have PC1 : Hid (∀ w', Below W.heap.size W w' → w'.cell? ⟨pb, poff + 1, none⟩ = some (.int .i64 p1)) := Lib.hid (fun w' hb => ((below_of bel hb).cell (p := ⟨pb, poff + 1, none⟩) hplt).trans pc1)
  have STAY : Hid (∀ w', Below W.heap.size W w' → w'.cell? ⟨w.heap.size, 0, none⟩ = some (.slice (some ⟨pb, poff, none⟩) 2 pc) ∧ w'.cell? ⟨w.heap.size, 1, none⟩ = some (.slice ao 1 cap) ∧ w'.cell? ⟨pb, poff, none⟩ = some (.int .i64 p0) ∧ w'.cell? ⟨pb, poff + 1, none⟩ = some (.int .i64 p1)) := Lib.hid (fun w' hb => by
    obtain ⟨e0, e1, -, -, _⟩ := blk2 (car hb G1.out)
    exact ⟨e0, e1, PC0.out _ hb, PC1.out _ hb⟩)
  have hk0 := Below.refl W.heap.size W
  have hfl0 := field0_bits
  have hfl1 := field1_bits
  clear g1 bel
  have hwr : IntKind.i64.wrap (p0 - p1) = p0 - p1 := IntWalk.i64_in _ (by omega)
  have hwr2 : IntKind.i64.wrap (p0 - p1 + 1) = p0 - p1 + 1 := IntWalk.i64_in _ (by omega)
  have hge : decide ((wd : Int) ≤ p0) = false := decide_eq_false (by omega)
  go_enter Tryz.func112, Tryz.ntmps112
  go_upto_region 1 with fail
  try rw [eW]
  go_region_held3 (fun w' => w'.cell? ⟨w.heap.size, 0, none⟩ = some (.slice (some ⟨pb, poff, none⟩) 2 pc) ∧ w'.cell? ⟨w.heap.size, 1, none⟩ = some (.slice ao 1 cap) ∧ w'.cell? ⟨pb, poff, none⟩ = some (.int .i64 p0) ∧ w'.cell? ⟨pb, poff + 1, none⟩ = some (.int .i64 p1))
    ((first | (refine STAY.out _ ?_; first | exact hk1 | exact hk1.drew | exact hk0 | exact hk0.drew)))
    (first
    | (go_at_call 83; (with_reducible refine Calls.mono (FI.out _ (by first | exact hk0 | exact hk0.drew)) ?_); rintro e u1 ⟨a1, k1, c1, rfl, hn, hb⟩; have hk1 : Below W.heap.size W u1 := (by first | exact below_of hk0 hb | exact below_of hk0.drew hb); have TK1 : True := trivial; have M1 := Lib.hid hn; clear hn hb))
  all_goals
    obtain ⟨e0, e1, e2, e3⟩ := STAY.out _ hk1
    go_wp2_with fail
    go_region
    go_wp2
    go_ret
    exact ⟨rfl, below_of BL.out (by first | exact hk1 | exact hk1.drew)⟩
end Go.Proofs.YtccofiakblmkhaaGreat

/- bits: Apply of operators with params, and of mixed widths (gen9v.py). -/
namespace Go.Proofs.YtccofiakblmkhaaGreat
open Go.RowKit Mth

theorem apply_par (kk : Int) (pf f : Nat) (d : Value) (hd : d.oneCell' = true) (hcp : ∀ args W, (callFunc pf args).run Tryz.prog W = .ok (.enter pf args) W) (hcf : ∀ args W, (callFunc f args).run Tryz.prog W = .ok (.enter f args) W)
    (hO : ∀ w1, Calls Tryz.prog 48 #[.int .i64 kk] w1 fun e w' => e = .returned (.tuple #[.agg #[.int .i64 1, .func (.func pf) #[] #[], .bool false, d, .func (.func f) #[] #[]], .bool true]) ∧ Below w1.heap.size w1 w')
    (pv av : Value) (ps : List Int) (wd m wx : Nat) (z : Int) (x1 : 1 ≤ wx) (x2 : wx ≤ 4096) (h1 : 1 ≤ wd) (h2 : wd ≤ 4096) (hm : m < 2 ^ wd) (w : World) (hp : PaL w pv ps) (h : BvL w av [(wd, m)])
    (hP : ∀ w1, PaL w1 pv ps → Calls Tryz.prog pf #[pv] w1 fun e w' => e = .returned (.bool true) ∧ Below w1.heap.size w1 w')
    (hW : ∀ w1, PaL w1 pv ps → BvL w1 av [(wd, m)] → Calls Tryz.prog 50 #[.agg #[.int .i64 1, .func (.func pf) #[] #[], .bool false, d, .func (.func f) #[] #[]], .agg #[pv, av]] w1 fun e w' => e = .returned (.int .i64 (wx : Int)) ∧ Below w1.heap.size w1 w')
    (hN : ∀ w1, PaL w1 pv ps → BvL w1 av [(wd, m)] → Calls Tryz.prog f #[.agg #[pv, av]] w1 fun e w' => ∃ v', e = .returned v' ∧ IntV w' v' z ∧ Below w1.heap.size w1 w') :
    Calls Tryz.prog 25 #[.int .i64 kk, pv, av] w fun e w' => ResBE w w' e wx (vecN wx z) := by
  obtain ⟨ao, cap, hav⟩ := h.shape
  refine resBE_of (vec_lt _ _) (by omega) (apply_gen kk 1 (.func (.func pf) #[] #[]) d false f rfl hd hcf pv av wx z x1 x2 w hp.shape ⟨_, _, _, hav⟩ hO (fun w1 hw => ?_) (fun w1 hw => hW w1 (hp.below hw) (h.below hw)) (fun w1 hw => hN w1 (hp.below hw) (h.below hw)))
  exact fault_p_0 1 d f hd pf hcp pv av w1 hp.shape ao 1 cap hav rfl (fun w2 hw2 => hP w2 ((hp.below hw).below hw2)) (fun w2 hw2 => areRight_fine av _ w2 ((h.below hw).below hw2) (fine_one h1 h2 hm) (by simp)) wd wd m m (fun w2 hw2 => first_any pv av _ wd m w2 hp.shape ((h.below hw).below hw2) rfl) (fun w2 hw2 => last_any pv av _ 0 wd m w2 hp.shape ((h.below hw).below hw2) rfl (by omega) rfl) rfl wx (isW_nat x1 x2) (fun w2 hw2 => hW w2 ((hp.below hw).below hw2) ((h.below hw).below hw2))
theorem apply_parE (kk : Int) (pf f : Nat) (d : Value) (hd : d.oneCell' = true) (hcp : ∀ args W, (callFunc pf args).run Tryz.prog W = .ok (.enter pf args) W) (hcf : ∀ args W, (callFunc f args).run Tryz.prog W = .ok (.enter f args) W)
    (hO : ∀ w1, Calls Tryz.prog 48 #[.int .i64 kk] w1 fun e w' => e = .returned (.tuple #[.agg #[.int .i64 1, .func (.func pf) #[] #[], .bool false, d, .func (.func f) #[] #[]], .bool true]) ∧ Below w1.heap.size w1 w')
    (pv av : Value) (ps : List Int) (wd m  : Nat) (wx : Int) (hx : isW wx = false) (h1 : 1 ≤ wd) (h2 : wd ≤ 4096) (hm : m < 2 ^ wd) (w : World) (hp : PaL w pv ps) (h : BvL w av [(wd, m)])
    (hP : ∀ w1, PaL w1 pv ps → Calls Tryz.prog pf #[pv] w1 fun e w' => e = .returned (.bool true) ∧ Below w1.heap.size w1 w')
    (hW : ∀ w1, PaL w1 pv ps → BvL w1 av [(wd, m)] → Calls Tryz.prog 50 #[.agg #[.int .i64 1, .func (.func pf) #[] #[], .bool false, d, .func (.func f) #[] #[]], .agg #[pv, av]] w1 fun e w' => e = .returned (.int .i64 (wx : Int)) ∧ Below w1.heap.size w1 w')
     :
    Calls Tryz.prog 25 #[.int .i64 kk, pv, av] w fun e w' => e = .returned (.tuple #[BvE, .int .i64 55]) ∧ Below w.heap.size w w' := by
  obtain ⟨ao, cap, hav⟩ := h.shape
  refine apply_err kk 1 55 (.func (.func pf) #[] #[]) d false f rfl hd (by decide) pv av w hp.shape ⟨_, _, _, hav⟩ hO (fun w1 hw => ?_)
  exact fault_p_55 1 d f hd pf hcp pv av w1 hp.shape ao 1 cap hav rfl (fun w2 hw2 => hP w2 ((hp.below hw).below hw2)) (fun w2 hw2 => areRight_fine av _ w2 ((h.below hw).below hw2) (fine_one h1 h2 hm) (by simp)) wd wd m m (fun w2 hw2 => first_any pv av _ wd m w2 hp.shape ((h.below hw).below hw2) rfl) (fun w2 hw2 => last_any pv av _ 0 wd m w2 hp.shape ((h.below hw).below hw2) rfl (by omega) rfl) rfl wx hx (fun w2 hw2 => hW w2 ((hp.below hw).below hw2) ((h.below hw).below hw2))
theorem lte_of {n a b : Nat} (h : n < 2 ^ a) (ha : a ≤ 8192) : LtE n := ⟨Nat.lt_of_lt_of_le h (Nat.pow_le_pow_right (by omega) ha)⟩
theorem concat_lt {wd wd' m n : Nat} (hm : m < 2 ^ wd) (hn : n < 2 ^ wd') : m * 2 ^ wd' + n < 2 ^ (wd + wd') := by
  rw [Nat.pow_add]
  have h := Nat.mul_le_mul_right (2 ^ wd') (show m + 1 ≤ 2 ^ wd from hm)
  rw [Nat.add_mul] at h
  omega
theorem rot_lt {wd m n : Nat} (hm : m < 2 ^ wd) (hn : n ≤ wd) : rotZ wd m n < 2 ^ (wd + n) := by
  unfold rotZ
  have h2 : m / 2 ^ (wd - n) < 2 ^ n := Nat.div_lt_of_lt_mul (by rw [← Nat.pow_add, Nat.sub_add_cancel hn]; exact hm)
  rw [Nat.pow_add]
  have h := Nat.mul_le_mul_right (2 ^ n) (show m + 1 ≤ 2 ^ wd from hm)
  rw [Nat.add_mul] at h
  omega
theorem apply_concat (pv av : Value) (wd wd' m n : Nat) (h1 : 1 ≤ wd) (h1' : 1 ≤ wd') (h2 : wd + wd' ≤ 4096) (hm : m < 2 ^ wd) (hn : n < 2 ^ wd') (w : World) (hp : ∃ po pn pc, pv = .slice po pn pc) (h : BvL w av [(wd, m), (wd', n)]) :
    Calls Tryz.prog 25 #[.int .i64 41, pv, av] w fun e w' => ResBE w w' e (wd + wd') (vecN (wd + wd') ((m * 2 ^ wd' + n : Nat) : Int)) := by
  obtain ⟨ao, cap, hav⟩ := h.shape
  have hWO : ∀ w1, Below w.heap.size w w1 → Calls Tryz.prog 50 #[.agg #[.int .i64 2, .nilFunc, .bool true, (.func (.func 109) #[] #[]), (.func (.func 110) #[] #[])], .agg #[pv, av]] w1 fun e w' => e = .returned (.int .i64 ((wd + wd' : Nat) : Int)) ∧ Below w1.heap.size w1 w' := fun w1 hw =>
    widthOf_fn 2 _ .nilFunc true 109 110 rfl pv av w1 hp ⟨_, _, _, hav⟩ (fun args W => enters_of Tryz.func109 (by kernel_rfl) rfl args W) (fun w2 hw2 => by
      have h := together_is pv av wd wd' m n (by omega) (by omega) w2 hp ((h.below hw).below hw2)
      rw [show ((wd + wd' : Nat) : Int) = (wd : Int) + (wd' : Int) by omega]
      exact h)
  refine resBE_of (vec_lt _ _) (by omega) (apply_gen 41 2 .nilFunc (.func (.func 109) #[] #[]) true 110 rfl rfl (fun args W => enters_of Tryz.func110 (by kernel_rfl) rfl args W) pv av (wd + wd') _ (by omega) h2 w hp ⟨_, _, _, hav⟩ (operatorOf_at 41 (by omega) 2 .nilFunc (.func (.func 109) #[] #[]) true 110 rfl rfl (by kernel_rfl) (by kernel_rfl) (by kernel_rfl) (by kernel_rfl) (by kernel_rfl)) (fun w1 hw => ?_) hWO (fun w1 hw => concat_is pv av wd wd' m n (by omega) (lte_of (a := wd + wd') (b := 0) (concat_lt hm hn) (by omega)) w1 hp (h.below hw)))
  exact fault_n_0m 2 _ 110 rfl pv av w1 hp ao 2 cap hav rfl (fun w2 hw2 => areRight_fine av _ w2 ((h.below hw).below hw2) (fun p hp => by
    simp only [List.mem_cons, List.not_mem_nil, or_false] at hp
    rcases hp with rfl | rfl
    · exact ⟨h1, by omega, hm⟩
    · exact ⟨h1', by omega, hn⟩) (by simp)) ((wd + wd' : Nat) : Int) (isW_nat (by omega) h2) (fun w2 hw2 => hWO w2 (below_of hw hw2))
theorem apply_extract (pv av : Value) (wd m hi lo : Nat) (h1 : 1 ≤ wd) (h2 : wd ≤ 4096) (hm : m < 2 ^ wd) (hl : lo ≤ hi) (hh : hi < wd) (w : World) (hp : PaL w pv [(hi : Int), (lo : Int)]) (h : BvL w av [(wd, m)]) :
    Calls Tryz.prog 25 #[.int .i64 42, pv, av] w fun e w' => ResBE w w' e (hi - lo + 1) (vecN (hi - lo + 1) ((m / 2 ^ lo : Nat) : Int)) :=
  apply_par 42 111 113 (.func (.func 112) #[] #[]) rfl (fun args W => enters_of Tryz.func111 (by kernel_rfl) rfl args W) (fun args W => enters_of Tryz.func113 (by kernel_rfl) rfl args W) (operatorOf_at 42 (by omega) 1 (.func (.func 111) #[] #[]) (.func (.func 112) #[] #[]) false 113 rfl rfl (by kernel_rfl) (by kernel_rfl) (by kernel_rfl) (by kernel_rfl) (by kernel_rfl)) pv av _ wd m (hi - lo + 1) _ (by omega) (by omega) h1 h2 hm w hp h (fun w1 hp1 => areEnds_yes pv _ _ (by omega) (by omega) (by omega) w1 hp1)
    (fun w1 hp1 hb1 => by
      obtain ⟨ao, cap, hav⟩ := hb1.shape
      refine widthOf_fn 1 _ _ false 112 113 rfl pv av w1 hp1.shape ⟨_, _, _, hav⟩ (fun args W => enters_of Tryz.func112 (by kernel_rfl) rfl args W) (fun w2 hw2 => ?_)
      have h := between_is pv av wd m (hi : Int) (lo : Int) h2 (by omega) (by omega) (by omega) w2 (hp1.below hw2) (hb1.below hw2)
      rw [show ((hi - lo + 1 : Nat) : Int) = (hi : Int) - (lo : Int) + 1 by omega]
      exact h)
    (fun w1 hp1 hb1 => extract_is pv av wd m (hi : Int) lo (by omega) (lte_of (a := wd) (b := 0) hm (by omega)) w1 hp1 hb1)
theorem apply_zext (pv av : Value) (wd m p : Nat) (h1 : 1 ≤ wd) (h2 : wd ≤ 4096) (hm : m < 2 ^ wd) (hp4 : wd + p ≤ 4096) (w : World) (hp : PaL w pv [(p : Int)]) (h : BvL w av [(wd, m)]) :
    Calls Tryz.prog 25 #[.int .i64 64, pv, av] w fun e w' => ResBE w w' e (wd + p) (vecN (wd + p) (m : Int)) :=
  apply_par 64 138 140 (.func (.func 139) #[] #[]) rfl (fun args W => enters_of Tryz.func138 (by kernel_rfl) rfl args W) (fun args W => enters_of Tryz.func140 (by kernel_rfl) rfl args W) (operatorOf_at 64 (by omega) 1 (.func (.func 138) #[] #[]) (.func (.func 139) #[] #[]) false 140 rfl rfl (by kernel_rfl) (by kernel_rfl) (by kernel_rfl) (by kernel_rfl) (by kernel_rfl)) pv av _ wd m (wd + p) _ (by omega) (by omega) h1 h2 hm w hp h (fun w1 hp1 => isCount_yes pv _ (by omega) (by omega) w1 hp1)
    (fun w1 hp1 hb1 => by
      obtain ⟨ao, cap, hav⟩ := hb1.shape
      refine widthOf_fn 1 _ _ false 139 140 rfl pv av w1 hp1.shape ⟨_, _, _, hav⟩ (fun args W => enters_of Tryz.func139 (by kernel_rfl) rfl args W) (fun w2 hw2 => ?_)
      have h := extended_is pv av wd m (p : Int) h2 (by omega) (by omega) w2 (hp1.below hw2) (hb1.below hw2)
      rw [show ((wd + p : Nat) : Int) = (wd : Int) + (p : Int) by omega]
      exact h)
    (fun w1 hp1 hb1 => op_u pv av _ wd m w1 hp1.shape hb1 rfl)
theorem apply_zextE (pv av : Value) (wd m p : Nat) (h1 : 1 ≤ wd) (h2 : wd ≤ 4096) (hm : m < 2 ^ wd) (hp4 : p ≤ 4096) (hp5 : 4096 < wd + p) (w : World) (hp : PaL w pv [(p : Int)]) (h : BvL w av [(wd, m)]) :
    Calls Tryz.prog 25 #[.int .i64 64, pv, av] w fun e w' => e = .returned (.tuple #[BvE, .int .i64 55]) ∧ Below w.heap.size w w' :=
  apply_parE 64 138 140 (.func (.func 139) #[] #[]) rfl (fun args W => enters_of Tryz.func138 (by kernel_rfl) rfl args W) (fun args W => enters_of Tryz.func140 (by kernel_rfl) rfl args W) (operatorOf_at 64 (by omega) 1 (.func (.func 138) #[] #[]) (.func (.func 139) #[] #[]) false 140 rfl rfl (by kernel_rfl) (by kernel_rfl) (by kernel_rfl) (by kernel_rfl) (by kernel_rfl)) pv av _ wd m ((wd + p : Nat) : Int) (by simp only [isW, Bool.and_eq_false_iff, decide_eq_false_iff_not]; omega) h1 h2 hm w hp h (fun w1 hp1 => isCount_yes pv _ (by omega) (by omega) w1 hp1)
    (fun w1 hp1 hb1 => by
      obtain ⟨ao, cap, hav⟩ := hb1.shape
      refine widthOf_fn 1 _ _ false 139 140 rfl pv av w1 hp1.shape ⟨_, _, _, hav⟩ (fun args W => enters_of Tryz.func139 (by kernel_rfl) rfl args W) (fun w2 hw2 => ?_)
      have h := extended_is pv av wd m (p : Int) h2 (by omega) (by omega) w2 (hp1.below hw2) (hb1.below hw2)
      rw [show ((wd + p : Nat) : Int) = (wd : Int) + (p : Int) by omega]
      exact h)
theorem apply_sext (pv av : Value) (wd m p : Nat) (h1 : 1 ≤ wd) (h2 : wd ≤ 4096) (hm : m < 2 ^ wd) (hp4 : wd + p ≤ 4096) (w : World) (hp : PaL w pv [(p : Int)]) (h : BvL w av [(wd, m)]) :
    Calls Tryz.prog 25 #[.int .i64 65, pv, av] w fun e w' => ResBE w w' e (wd + p) (vecN (wd + p) (sgV wd m)) :=
  apply_par 65 138 141 (.func (.func 139) #[] #[]) rfl (fun args W => enters_of Tryz.func138 (by kernel_rfl) rfl args W) (fun args W => enters_of Tryz.func141 (by kernel_rfl) rfl args W) (operatorOf_at 65 (by omega) 1 (.func (.func 138) #[] #[]) (.func (.func 139) #[] #[]) false 141 rfl rfl (by kernel_rfl) (by kernel_rfl) (by kernel_rfl) (by kernel_rfl) (by kernel_rfl)) pv av _ wd m (wd + p) _ (by omega) (by omega) h1 h2 hm w hp h (fun w1 hp1 => isCount_yes pv _ (by omega) (by omega) w1 hp1)
    (fun w1 hp1 hb1 => by
      obtain ⟨ao, cap, hav⟩ := hb1.shape
      refine widthOf_fn 1 _ _ false 139 141 rfl pv av w1 hp1.shape ⟨_, _, _, hav⟩ (fun args W => enters_of Tryz.func139 (by kernel_rfl) rfl args W) (fun w2 hw2 => ?_)
      have h := extended_is pv av wd m (p : Int) h2 (by omega) (by omega) w2 (hp1.below hw2) (hb1.below hw2)
      rw [show ((wd + p : Nat) : Int) = (wd : Int) + (p : Int) by omega]
      exact h)
    (fun w1 hp1 hb1 => op_s pv av _ wd m h1 h2 hm w1 hp1.shape hb1 rfl)
theorem apply_sextE (pv av : Value) (wd m p : Nat) (h1 : 1 ≤ wd) (h2 : wd ≤ 4096) (hm : m < 2 ^ wd) (hp4 : p ≤ 4096) (hp5 : 4096 < wd + p) (w : World) (hp : PaL w pv [(p : Int)]) (h : BvL w av [(wd, m)]) :
    Calls Tryz.prog 25 #[.int .i64 65, pv, av] w fun e w' => e = .returned (.tuple #[BvE, .int .i64 55]) ∧ Below w.heap.size w w' :=
  apply_parE 65 138 141 (.func (.func 139) #[] #[]) rfl (fun args W => enters_of Tryz.func138 (by kernel_rfl) rfl args W) (fun args W => enters_of Tryz.func141 (by kernel_rfl) rfl args W) (operatorOf_at 65 (by omega) 1 (.func (.func 138) #[] #[]) (.func (.func 139) #[] #[]) false 141 rfl rfl (by kernel_rfl) (by kernel_rfl) (by kernel_rfl) (by kernel_rfl) (by kernel_rfl)) pv av _ wd m ((wd + p : Nat) : Int) (by simp only [isW, Bool.and_eq_false_iff, decide_eq_false_iff_not]; omega) h1 h2 hm w hp h (fun w1 hp1 => isCount_yes pv _ (by omega) (by omega) w1 hp1)
    (fun w1 hp1 hb1 => by
      obtain ⟨ao, cap, hav⟩ := hb1.shape
      refine widthOf_fn 1 _ _ false 139 141 rfl pv av w1 hp1.shape ⟨_, _, _, hav⟩ (fun args W => enters_of Tryz.func139 (by kernel_rfl) rfl args W) (fun w2 hw2 => ?_)
      have h := extended_is pv av wd m (p : Int) h2 (by omega) (by omega) w2 (hp1.below hw2) (hb1.below hw2)
      rw [show ((wd + p : Nat) : Int) = (wd : Int) + (p : Int) by omega]
      exact h)
theorem apply_rotl (pv av : Value) (wd m p q : Nat) (hq : p % wd = q) (h1 : 1 ≤ wd) (h2 : wd ≤ 4096) (hm : m < 2 ^ wd) (hp4 : p ≤ 4096) (w : World) (hp : PaL w pv [(p : Int)]) (h : BvL w av [(wd, m)]) :
    Calls Tryz.prog 25 #[.int .i64 66, pv, av] w fun e w' => ResBE w w' e wd (vecN wd ((rotZ wd m q : Nat) : Int)) :=
  apply_par 66 138 142 .nilFunc rfl (fun args W => enters_of Tryz.func138 (by kernel_rfl) rfl args W) (fun args W => enters_of Tryz.func142 (by kernel_rfl) rfl args W) (operatorOf_at 66 (by omega) 1 (.func (.func 138) #[] #[]) .nilFunc false 142 rfl rfl (by kernel_rfl) (by kernel_rfl) (by kernel_rfl) (by kernel_rfl) (by kernel_rfl)) pv av _ wd m wd _ h1 (by omega) h1 (by omega) hm w hp h (fun w1 hp1 => isCount_yes pv _ (by omega) (by omega) w1 hp1)
    (fun w1 hp1 hb1 => widthOf_nil 1 _ false 142 rfl pv av _ wd m w1 hp1.shape hb1 rfl)
    (fun w1 hp1 hb1 => rotL_is pv av wd m p q hq h1 h2 hp4 (lte_of (a := wd + q) (b := 0) (rot_lt hm (by have := Nat.mod_lt p (show 0 < wd by omega); omega)) (by have := Nat.mod_lt p (show 0 < wd by omega); omega)) w1 hp1 hb1)
theorem apply_rotr (pv av : Value) (wd m p q : Nat) (hq : p % wd = q) (h1 : 1 ≤ wd) (h2 : wd ≤ 4096) (hm : m < 2 ^ wd) (hp4 : p ≤ 4096) (w : World) (hp : PaL w pv [(p : Int)]) (h : BvL w av [(wd, m)]) :
    Calls Tryz.prog 25 #[.int .i64 67, pv, av] w fun e w' => ResBE w w' e wd (vecN wd ((rotZ wd m (wd - q) : Nat) : Int)) :=
  apply_par 67 138 143 .nilFunc rfl (fun args W => enters_of Tryz.func138 (by kernel_rfl) rfl args W) (fun args W => enters_of Tryz.func143 (by kernel_rfl) rfl args W) (operatorOf_at 67 (by omega) 1 (.func (.func 138) #[] #[]) .nilFunc false 143 rfl rfl (by kernel_rfl) (by kernel_rfl) (by kernel_rfl) (by kernel_rfl) (by kernel_rfl)) pv av _ wd m wd _ h1 (by omega) h1 (by omega) hm w hp h (fun w1 hp1 => isCount_yes pv _ (by omega) (by omega) w1 hp1)
    (fun w1 hp1 hb1 => widthOf_nil 1 _ false 143 rfl pv av _ wd m w1 hp1.shape hb1 rfl)
    (fun w1 hp1 hb1 => rotR_is pv av wd m p q hq h1 h2 hp4 (lte_of (a := wd + (wd - q)) (b := 0) (rot_lt hm (by omega)) (by omega)) w1 hp1 hb1)
end Go.Proofs.YtccofiakblmkhaaGreat

/- BitsTurns: mathematics, and vectors of any length in lists (gen9w.py). -/
namespace Go.Proofs.YtccofiakblmkhaaGreat
open Go.RowKit Mth

theorem vec_small {wd n : Nat} (h : n < 2 ^ wd) : vecN wd (n : Int) = n := by rw [vec_nat, Nat.mod_eq_of_lt h]
theorem rot_math {m P Q a b : Nat} (hP : 0 < P) (hQ : 0 < Q) (ha : m / P = a) (hb : m % P = b) (hm : m < P * Q) :
    (m * Q + a) % (P * Q) = b * Q + a ∧ a < Q ∧ b < P := by
  have h0 : P * a + b = m := by rw [← ha, ← hb]; exact Nat.div_add_mod m P
  have hbP : b < P := by rw [← hb]; exact Nat.mod_lt _ hP
  have haQ : a < Q := by
    rw [← ha]; exact Nat.div_lt_of_lt_mul hm
  refine ⟨?_, haQ, hbP⟩
  have e : m * Q + a = b * Q + a + (P * Q) * a := by rw [← h0, Nat.add_mul, show P * a * Q = P * Q * a by rw [Nat.mul_right_comm]]; omega
  rw [e, Nat.add_mul_mod_self_left]
  apply Nat.mod_eq_of_lt
  have h := Nat.mul_le_mul_right Q (show b + 1 ≤ P from hbP)
  rw [Nat.add_mul] at h
  omega
theorem rot_back {wd m q : Nat} (hq : q ≤ wd) (hm : m < 2 ^ wd) : vecN wd ((rotZ wd (vecN wd ((rotZ wd m q : Nat) : Int)) (wd - q) : Nat) : Int) = m := by
  have e : 2 ^ wd = 2 ^ (wd - q) * 2 ^ q := by rw [← Nat.pow_add, Nat.sub_add_cancel hq]
  have e' : 2 ^ wd = 2 ^ q * 2 ^ (wd - q) := by rw [e, Nat.mul_comm]
  have hP := two_pos (wd - q)
  have hQ := two_pos q
  obtain ⟨r1, r2, r3⟩ := rot_math (m := m) hP hQ rfl rfl (by rw [← e]; exact hm)
  have h0 : 2 ^ (wd - q) * (m / 2 ^ (wd - q)) + m % 2 ^ (wd - q) = m := Nat.div_add_mod m _
  have l1 : vecN wd ((rotZ wd m q : Nat) : Int) = m % 2 ^ (wd - q) * 2 ^ q + m / 2 ^ (wd - q) := by rw [vec_nat]; unfold rotZ; rw [e]; exact r1
  rw [l1, vec_nat]
  generalize m / 2 ^ (wd - q) = a at *
  generalize m % 2 ^ (wd - q) = b at *
  unfold rotZ
  rw [show wd - (wd - q) = q by omega, e']
  have d1 : (b * 2 ^ q + a) / 2 ^ q = b := by rw [Nat.add_comm, Nat.mul_comm, Nat.add_mul_div_left _ _ hQ, Nat.div_eq_of_lt r2, Nat.zero_add]
  have d2 : (b * 2 ^ q + a) % 2 ^ q = a := by rw [Nat.add_comm, Nat.mul_comm, Nat.add_mul_mod_self_left, Nat.mod_eq_of_lt r2]
  have hl : b * 2 ^ q + a < 2 ^ q * 2 ^ (wd - q) := by
    have h := Nat.mul_le_mul_right (2 ^ q) (show b + 1 ≤ 2 ^ (wd - q) from r3)
    rw [Nat.add_mul, Nat.mul_comm (2 ^ (wd - q))] at h
    omega
  obtain ⟨s1, -, -⟩ := rot_math (m := b * 2 ^ q + a) hQ hP d1 d2 hl
  rw [d1, s1, Nat.mul_comm, h0]
theorem cat_back {wd m c : Nat} (hc : c ≤ wd) (h1 : 1 ≤ c) (h2 : c < wd) (hm : m < 2 ^ wd) :
    vecN ((wd - 1 - c + 1) + (c - 1 - 0 + 1)) ((vecN (wd - 1 - c + 1) ((m / 2 ^ c : Nat) : Int) * 2 ^ (c - 1 - 0 + 1) + vecN (c - 1 - 0 + 1) ((m / 2 ^ 0 : Nat) : Int) : Nat) : Int) = m := by
  rw [show wd - 1 - c + 1 = wd - c by omega, show c - 1 - 0 + 1 = c by omega, show wd - c + c = wd by omega]
  have e : 2 ^ wd = 2 ^ c * 2 ^ (wd - c) := by rw [← Nat.pow_add, Nat.add_sub_cancel' hc]
  have hh : m / 2 ^ c < 2 ^ (wd - c) := Nat.div_lt_of_lt_mul (by rw [← e]; exact hm)
  rw [vec_small hh, vec_nat, vec_nat, Nat.pow_zero, Nat.div_one, Nat.mul_comm, Nat.div_add_mod, Nat.mod_eq_of_lt hm]
theorem sext_back {wd m p : Nat} (h1 : 1 ≤ wd) (hm : m < 2 ^ wd) : sgV (wd + p) (vecN (wd + p) (sgV wd m)) = sgV wd m := by
  obtain ⟨a, b⟩ := sgV_range h1 hm
  have h : 2 ^ (wd - 1) ≤ 2 ^ (wd + p - 1) := Nat.pow_le_pow_right (by omega) (by omega)
  exact sgV_vec (by omega) (by omega) (by omega)
theorem bva_one {W : World} {g wd : Nat} {a : Option Addr} {k c : Nat} {xs : List Nat}
    (hg : W.heap[g]? = some (.cells #[.int .i64 (wd : Int), .slice a k c] 28 (0, 0)))
    (h0 : BvA W (.agg #[.int .i64 (wd : Int), .slice a k c]) (wd : Int) xs) : BvL W (.slice (some ⟨g, 0, none⟩) 1 1) [(wd, val B64 xs)] := by
  obtain ⟨u, hu, s, l, f⟩ := h0
  cases hu
  refine ⟨_, 1, rfl, fun _ => ⟨g, 0, rfl, (Array.getElem?_eq_some_iff.1 hg).1, fun i p hp => ?_⟩⟩
  match i, hp with
  | 0, hp =>
    cases hp
    exact ⟨_, xs, by rw [cell_of_row _ _ _ _ _ (0, 0) hg]; rfl, by rw [cell_of_row _ _ _ _ _ (0, 0) hg]; rfl, s, l, f, rfl⟩
theorem BvK.a {w : World} {wd k c n : Nat} {a : Option Addr} (h : BvK w wd a k c n) : ∃ xs, BvA w (.agg #[.int .i64 (wd : Int), .slice a k c]) (wd : Int) xs ∧ val B64 xs = n := by
  obtain ⟨xs, rfl, s, l, t, e, b, f⟩ := h
  exact ⟨xs, ⟨_, rfl, s, l, f⟩, e⟩
theorem unsK {w : World} {wd k c n : Nat} {a : Option Addr} (h1 : 1 ≤ wd) (h2 : wd ≤ 4096) (h : BvK w wd a k c n) : Calls Tryz.prog 16 #[.agg #[.int .i64 (wd : Int), .slice a k c]] w fun e w' => ResI w w' e (n : Int) 0 := by
  have hl := h.lt
  obtain ⟨xs, hA, rfl⟩ := h.a
  exact uns_good _ wd xs h1 h2 hl w hA
theorem sigK {w : World} {wd k c n : Nat} {a : Option Addr} (h1 : 1 ≤ wd) (h2 : wd ≤ 4096) (h : BvK w wd a k c n) : Calls Tryz.prog 18 #[.agg #[.int .i64 (wd : Int), .slice a k c]] w fun e w' => ResI w w' e (sgV wd n) 0 := by
  have hl := h.lt
  obtain ⟨xs, hA, rfl⟩ := h.a
  exact sig_good _ wd xs h1 h2 hl w hA
theorem to_wd {w w' : World} {e : Ending} {a b n m : Nat} (h : ResBE w w' e a n) (hab : a = b) (hnm : n = m) : ResBE w w' e b m := by subst hab; subst hnm; exact h
end Go.Proofs.YtccofiakblmkhaaGreat
