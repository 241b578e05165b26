/- BitsParses: every text. -/
import Derived.Test.YtccofiakblmkhaaGreatP99PF
import Derived.Test.YtccofiakblmkhaaGreatP99M
import Derived.Test.YtccofiakblmkhaaGreatP9N5
set_option linter.unusedVariables false
set_option linter.unusedSimpArgs false
namespace Go.Proofs.YtccofiakblmkhaaGreat
open Go.RowKit Mth

theorem bt_l (l : List UInt8) (i : Nat) : bt ⟨⟨l⟩⟩ i = (l.getD i 0).toNat := by
  unfold bt
  split
  · rename_i h
    rw [List.getD_eq_getElem?_getD, List.getElem?_eq_getElem h]; rfl
  · rename_i h
    rw [List.getD_eq_getElem?_getD, List.getElem?_eq_none (Nat.le_of_not_lt h)]; rfl
theorem hasP_eq (s : ByteArray) (c : UInt8) : hasP s ⟨#[35, c]⟩ = decide (2 ≤ s.size ∧ bt s 0 = 35 ∧ bt s 1 = c.toNat) := by
  obtain ⟨⟨l⟩⟩ := s
  rw [bt_l, bt_l]
  show [35, c].isPrefixOf l = decide (2 ≤ l.length ∧ _)
  match l with
  | [] => simp [List.isPrefixOf]
  | [a] => simp [List.isPrefixOf]
  | a :: d :: r =>
    have e1 : (35 == a) = decide (a.toNat = 35) := by
      by_cases h : a = 35
      · subst h; rfl
      · rw [beq_eq_false_iff_ne.2 (fun e => h e.symm)]
        exact (decide_eq_false (fun e => h (UInt8.toNat_inj.1 (show a.toNat = (35 : UInt8).toNat from e)))).symm
    have e2 : (c == d) = decide (d.toNat = c.toNat) := by
      by_cases h : d = c
      · subst h; simp
      · rw [beq_eq_false_iff_ne.2 (fun e => h e.symm), decide_eq_false (fun e => h (UInt8.toNat_inj.1 e))]
    simp only [List.isPrefixOf, e1, e2, List.length_cons, List.getD_cons_zero, List.getD_cons_succ, Bool.and_true]
    by_cases h1 : a.toNat = 35 <;> by_cases h2 : d.toNat = c.toNat <;> simp [h1, h2]
theorem cutP_eq (s : ByteArray) (c : UInt8) (h : hasP s ⟨#[35, c]⟩ = true) : (cutP s ⟨#[35, c]⟩).size + 2 = s.size ∧ ∀ i, i < (cutP s ⟨#[35, c]⟩).size → bt (cutP s ⟨#[35, c]⟩) i = bt s (i + 2) := by
  have h2 := h
  rw [hasP_eq, decide_eq_true_eq] at h2
  have e : cutP s ⟨#[35, c]⟩ = ⟨⟨s.data.toList.drop 2⟩⟩ := by
    have h' : Lib.hasPrefix s.data.toList (⟨#[35, c]⟩ : ByteArray).data.toList = true := h
    unfold cutP Lib.trimPrefix
    rw [if_pos h']
    rfl
  rw [e]
  obtain ⟨⟨l⟩⟩ := s
  have hl : 2 ≤ l.length := h2.1
  refine ⟨?_, fun i hi => ?_⟩
  · show (l.drop 2).length + 2 = l.length
    rw [List.length_drop]; omega
  · rw [bt_l, bt_l]
    show ((l.drop 2).getD i 0).toNat = _
    rw [List.getD_eq_getElem?_getD, List.getD_eq_getElem?_getD, List.getElem?_drop, Nat.add_comm]
theorem pv_ltb {t : ByteArray} {b : Nat} (hd : ∀ i, i < t.size → dgv (bt t i) < b) : ∀ k, k ≤ t.size → pv t b k < b ^ k
  | 0, _ => by show 0 < 1; omega
  | k + 1, hk => by
    have h := pv_ltb hd k (by omega)
    have h2 := hd k (by omega)
    show pv t b k * b + dgv (bt t k) < b ^ (k + 1)
    rw [Nat.pow_succ]
    have h3 := Nat.mul_le_mul_right b (show pv t b k + 1 ≤ b ^ k from h)
    rw [Nat.add_mul] at h3
    omega
theorem big_16 {n k : Nat} (h : n < 16 ^ k) (hk : k ≤ 4098) : n < Big := by
  refine Nat.lt_of_lt_of_le h ?_
  unfold Big
  rw [b64_two, show (16 : Nat) = 2 ^ 4 by rfl, ← Nat.pow_mul]
  exact Nat.pow_le_pow_right (by omega) (by unfold maxL; omega)
set_option maxHeartbeats 8000000 in
set_option maxRecDepth 100000 in
theorem rparse9_long (s : ByteArray) (hs : 4098 < s.size) (w : World) : Calls Tryz.prog 30 #[.string s] w fun e' w' => ResN w w' e' 0 2 0 := by
  obtain ⟨W, eW, gW, bW, hWs⟩ := alloc1n w (Obj.cells #[.int .i64 0, .slice none 0 0] 28)
  have GW := Lib.hid gW; have BW := Lib.hid bW; have EW := Lib.hid eW
  have hs1 : (4098 : Int) < (s.size : Int) := by omega
  clear gW bW eW hs
  go_enter Tryz.func30, Tryz.ntmps30
  go_upto_region 1 with fail
  rw [EW.out]
  obtain ⟨q0, q1, r0, r1, _⟩ := blk2 GW.out
  go_wp2
  exact bodyPost_ret (results_bte rfl rfl rfl (set2_row _ _ GW.out)) rfl ⟨none, 0, 0, rfl, slN_nil _, (BW.out.setCell (Nat.le_refl _) _).setCell (Nat.le_refl _) _⟩
set_option maxHeartbeats 8000000 in
set_option maxRecDepth 100000 in
theorem rparse9_none (s : ByteArray) (hs : s.size ≤ 4098) (hn : s.size < 3 ∨ (3 ≤ s.size ∧ bt s 0 ≠ 35) ∨ (3 ≤ s.size ∧ bt s 0 = 35 ∧ bt s 1 ≠ 98 ∧ bt s 1 ≠ 120)) (w : World) : Calls Tryz.prog 30 #[.string s] w fun e' w' => ResN w w' e' 0 13 0 := by
  obtain ⟨W, eW, gW, bW, hWs⟩ := alloc1n w (Obj.cells #[.int .i64 0, .slice none 0 0] 28)
  have GW := Lib.hid gW; have BW := Lib.hid bW; have EW := Lib.hid eW
  have hs1 : (s.size : Int) ≤ 4098 := by omega
  clear gW bW eW
  rcases hn with h | ⟨h, h0⟩ | ⟨h, h0, h1, h2⟩
  · have h3 : (s.size : Int) < 3 := by omega
    clear h hs
    go_enter Tryz.func30, Tryz.ntmps30
    go_upto_region 1 with fail
    rw [EW.out]
    obtain ⟨q0, q1, r0, r1, _⟩ := blk2 GW.out
    go_wp2
    exact bodyPost_ret (results_bte rfl rfl rfl (set2_row _ _ GW.out)) rfl ⟨none, 0, 0, rfl, slN_nil _, (BW.out.setCell (Nat.le_refl _) _).setCell (Nat.le_refl _) _⟩
  · have h3 : (3 : Int) ≤ (s.size : Int) := by omega
    have l0 : 0 < s.size := by omega
    have l1 : 1 < s.size := by omega
    have b0 := bt_at l0
    generalize bt s 0 = c0 at *
    have d0 : (((c0 : Nat) : Int) != 35) = true := bne_iff_ne.2 (by omega)
    clear h hs h0
    go_enter Tryz.func30, Tryz.ntmps30
    go_upto_region 1 with fail
    rw [EW.out]
    obtain ⟨q0, q1, r0, r1, _⟩ := blk2 GW.out
    go_wp2
    exact bodyPost_ret (results_bte rfl rfl rfl (set2_row _ _ GW.out)) rfl ⟨none, 0, 0, rfl, slN_nil _, (BW.out.setCell (Nat.le_refl _) _).setCell (Nat.le_refl _) _⟩
  · have h3 : (3 : Int) ≤ (s.size : Int) := by omega
    have l0 : 0 < s.size := by omega
    have l1 : 1 < s.size := by omega
    have b0 := bt_at l0
    have b1 := bt_at l1
    rw [h0] at b0
    generalize bt s 1 = c1 at *
    have d1 : (((c1 : Nat) : Int) != 98) = true := bne_iff_ne.2 (by omega)
    have d2 : (((c1 : Nat) : Int) != 120) = true := bne_iff_ne.2 (by omega)
    clear h hs h0 h1 h2
    go_enter Tryz.func30, Tryz.ntmps30
    go_upto_region 1 with fail
    rw [EW.out]
    obtain ⟨q0, q1, r0, r1, _⟩ := blk2 GW.out
    go_wp2
    exact bodyPost_ret (results_bte rfl rfl rfl (set2_row _ _ GW.out)) rfl ⟨none, 0, 0, rfl, slN_nil _, (BW.out.setCell (Nat.le_refl _) _).setCell (Nat.le_refl _) _⟩
/-- what the digits of a right text say, on both sides -/
theorem fits_ok {t : ByteArray} {e b : Nat} (hb : b = 2 ^ e) (he : 1 ≤ e) (h : okD t b) :
    (e * t.size ≤ 4096 → frX ((e : Int) * (t.size : Int)) = ((e * t.size : Nat) : Int) ∧ frE ((e : Int) * (t.size : Int)) = 0 ∧ frN ((e : Int) * (t.size : Int)) ((pv t b t.size : Nat) : Int) = pv t b t.size) ∧
    (4096 < e * t.size → frX ((e : Int) * (t.size : Int)) = 0 ∧ frE ((e : Int) * (t.size : Int)) = 55 ∧ frN ((e : Int) * (t.size : Int)) ((pv t b t.size : Nat) : Int) = 0) := by
  have h0 := h.1
  have h1 : 1 ≤ e * t.size := Nat.mul_pos he (by omega)
  have hc : (e : Int) * (t.size : Int) = ((e * t.size : Nat) : Int) := by rw [Int.natCast_mul]
  rw [hc]
  have hv : pv t b t.size < 2 ^ (e * t.size) := by
    have := pv_ltb h.2 t.size (Nat.le_refl _)
    rwa [hb, ← Nat.pow_mul, ← hb] at this
  generalize pv t b t.size = v at *
  generalize e * t.size = m at *
  unfold frX frE frN
  refine ⟨fun h2 => ?_, fun h2 => ?_⟩
  · rw [isW_nat h1 h2]
    exact ⟨rfl, rfl, by show vecN m (v : Int) = v; rw [vec_nat, Nat.mod_eq_of_lt hv]⟩
  · have : isW (m : Int) = false := by unfold isW; rw [decide_eq_false (show ¬ (m : Int) ≤ 4096 by omega), Bool.and_false]
    rw [this]
    exact ⟨rfl, rfl, rfl⟩
theorem both_parse (s : ByteArray) : ∃ (x er : Int) (n : Nat), (∀ w, Calls Tryz.prog 29 #[.string s] w fun e' w' => ResN w w' e' x er n) ∧ (∀ w, Calls Tryz.prog 30 #[.string s] w fun e' w' => ResN w w' e' x er n) := by
  by_cases hs : s.size ≤ 4098
  · cases hp : hasP s preB
    · cases hq : hasP s preX
      · refine ⟨0, 13, 0, parse9_none s hs hp hq, rparse9_none s hs ?_⟩
        rw [preB, hasP_eq, decide_eq_false_iff_not] at hp
        rw [preX, hasP_eq, decide_eq_false_iff_not] at hq
        by_cases a : s.size < 3
        · exact .inl a
        · by_cases b : bt s 0 = 35
          · exact .inr (.inr ⟨by omega, b, fun c => hp ⟨by omega, b, c⟩, fun c => hq ⟨by omega, b, c⟩⟩)
          · exact .inr (.inl ⟨by omega, b⟩)
      · obtain ⟨t1, t2⟩ := cutP_eq s 120 hq
        have hh := hq
        rw [preX, hasP_eq, decide_eq_true_eq] at hh
        by_cases hok : okD (cutP s preX) 16
        · have hlt := pv_ltb hok.2 _ (Nat.le_refl _)
          have F := fits_ok (e := 4) (b := 16) rfl (by omega) hok
          exact ⟨_, _, _, parse9_x s hs hp hq _ _ _ (fun w1 => parsed_ok _ 16 4 _ (Or.inr (Or.inr rfl)) (by omega) (by unfold preX at *; omega) hok rfl (big_16 hlt (by unfold preX at *; omega)) w1),
            fun w => rparse9_x s (cutP s preX) hs t1 hok.1 hh.2.1 hh.2.2 t2 w _ _ _ (fun _ => F) (fun h => absurd hok h)⟩
        · refine ⟨0, 13, 0, parse9_x s hs hp hq _ _ _ (fun w1 => parsed_no _ 16 4 (Or.inr (Or.inr rfl)) (by unfold preX at *; omega) hok w1), fun w => ?_⟩
          by_cases h0 : (cutP s preX).size = 0
          · exact rparse9_none s hs (.inl (by unfold preX at *; omega)) w
          · exact rparse9_x s (cutP s preX) hs t1 h0 hh.2.1 hh.2.2 t2 w _ _ _ (fun h => absurd h hok) (fun _ => ⟨rfl, rfl, rfl⟩)
    · obtain ⟨t1, t2⟩ := cutP_eq s 98 hp
      have hh := hp
      rw [preB, hasP_eq, decide_eq_true_eq] at hh
      by_cases hok : okD (cutP s preB) 2
      · have hlt := pv_ltb hok.2 _ (Nat.le_refl _)
        have F := fits_ok (e := 1) (b := 2) rfl (by omega) hok
        exact ⟨_, _, _, parse9_b s hs hp _ _ _ (fun w1 => parsed_ok _ 2 1 _ (Or.inl rfl) (by omega) (by unfold preB at *; omega) hok rfl (big_16 (Nat.lt_of_lt_of_le hlt (Nat.pow_le_pow_left (by omega) _)) (by unfold preB at *; omega)) w1),
          fun w => rparse9_b s (cutP s preB) hs t1 hok.1 hh.2.1 hh.2.2 t2 w _ _ _ (fun _ => F) (fun h => absurd hok h)⟩
      · refine ⟨0, 13, 0, parse9_b s hs hp _ _ _ (fun w1 => parsed_no _ 2 1 (Or.inl rfl) (by unfold preB at *; omega) hok w1), fun w => ?_⟩
        by_cases h0 : (cutP s preB).size = 0
        · exact rparse9_none s hs (.inl (by unfold preB at *; omega)) w
        · exact rparse9_b s (cutP s preB) hs t1 h0 hh.2.1 hh.2.2 t2 w _ _ _ (fun h => absurd h hok) (fun _ => ⟨rfl, rfl, rfl⟩)
  · exact ⟨0, 2, 0, parse9_long s (by omega), rparse9_long s (by omega)⟩
set_option maxHeartbeats 8000000 in
set_option maxRecDepth 100000 in
theorem parses9_walk (s : ByteArray) (w : World) : Calls Tryz.prog 6 #[.string s] w fun e w' => e = .returned (.bool true) ∧ Below w.heap.size w w' := by
  obtain ⟨x, er, n, P1, P2⟩ := both_parse s
  have P1 := Lib.hid P1; have P2 := Lib.hid P2
  have de : (er == er) = true := beq_self_eq_true er
  go_enter Tryz.func6, Tryz.ntmps6
  go_wp2_with fail
  refine (P1.out _).mono ?_
  rintro e w1 ⟨a1, k1, c1, rfl, hs1, hb1⟩
  obtain ⟨V1, eV1, gV, bV, -⟩ := alloc1n w1 (Obj.cells #[.int .i64 x, .slice a1 k1 c1] 28)
  have S1 := Lib.hid (hs1.below bV); have B1 := Lib.hid (below_of hb1 bV); have G1 := Lib.hid gV; have E1 := Lib.hid eV1
  clear hs1 hb1 gV bV eV1
  go_upto_region 2 with fail
  rw [E1.out]
  go_wp2_with fail
  refine (P2.out _).mono ?_
  rintro e w2 ⟨a2, k2, c2, rfl, hs2, hb2⟩
  obtain ⟨V2, eV2, gV, bV, -⟩ := alloc1n w2 (Obj.cells #[.int .i64 x, .slice a2 k2 c2] 28)
  have S2 := Lib.hid (hs2.below bV); have S1' := Lib.hid (S1.out.below (below_to9 bV hb2)); have B2 := Lib.hid (below_of B1.out (below_to9 bV hb2)); have G2 := Lib.hid gV; have G1' := Lib.hid (car bV (car hb2 G1.out)); have E2 := Lib.hid eV2
  clear hs2 hb2 gV bV eV2
  go_upto_region 3 with fail
  rw [E2.out]
  obtain ⟨p0, p1, -, -, _⟩ := blk2 G1'.out
  obtain ⟨q0, q1, -, -, _⟩ := blk2 G2.out
  go_wp2_with fail
  refine (sameN S1'.out S2.out).mono ?_
  rintro e w3 ⟨rfl, hb⟩
  have B3 := Lib.hid (below_of B2.out hb)
  clear hb p0 p1 q0 q1
  go_wp2_with fail
  refine (alive9 _).mono ?_
  rintro e w4 ⟨rfl, hb⟩
  have B4 := Lib.hid (below_of B3.out hb)
  clear hb
  go_wp2
  go_ret
  exact ⟨rfl, B4.out⟩
end Go.Proofs.YtccofiakblmkhaaGreat
