/- Package whole: Parse, of any text; WholeParses: the law's own walk. -/
import Derived.Test.YtckmpnfadpnaeaaGreatDoorPC
import Derived.Test.YtckmpnfadpnaeaaGreatDoorZU
set_option linter.unusedVariables false
set_option linter.unusedSimpArgs false
namespace Go.Proofs.YtckmpnfadpnaeaaGreatDoor
open Go.RowKit Mth

set_option maxHeartbeats 1000000 in
set_option maxRecDepth 100000 in
theorem parse_err (s d : ByteArray) (g : Bool) (N : Nat) (ER : Int) (w : World) (hd : (⟨(Lib.trimPrefix s.data.toList [45]).toArray⟩ : ByteArray) = d) (hg : Lib.hasPrefix s.data.toList [45] = g) (hl : d.size ≤ 1048576) (HK : ParIs d 10 N ER) (h0 : (ER == 0) = false) :
    Calls Tryz.prog 26 #[.string s] w fun e w' => e = .returned (.tuple #[.agg #[.bool false, .slice none 0 0], .int .i64 ER]) ∧ Below w.heap.size w w' := by
  have CP : Hid (∀ w1, Calls Tryz.prog 49 #[.string s, .string ⟨#[45]⟩] w1 fun e w' => e = .returned (.tuple #[.string d, .bool g]) ∧ w' = w1) := Lib.hid (fun w1 => by
    have := Tryz.strings_CutPrefix s ⟨#[45]⟩ w1
    rw [show (⟨#[45]⟩ : ByteArray).data.toList = [45] from rfl, hd, hg] at this
    exact this)
  have P : Hid (∀ w1, Calls Tryz.prog 50 #[.string d, .int .i64 10] w1 fun e w' => ∃ v', e = .returned (.tuple #[v', .int .i64 ER]) ∧ Num w' v' N ∧ Below w1.heap.size w1 w') := Lib.hid (fun w1 => parse_any d 10 N ER w1 hl HK (by omega))
  clear hd hg hl HK
  go_enter Tryz.func26, Tryz.ntmps26
  go_wp2_with fail
  obtain ⟨W, eW, b1, bel, hsz⟩ := alloc1 w (Obj.cells #[Value.bool false, Value.slice none 0 0] 25)
  rw [eW]
  have H1 := Lib.hid b1
  clear eW b1
  refine (CP.out W).mono ?_
  rintro e w1 ⟨rfl, rfl⟩
  go_wp2_with fail
  refine (P.out _).mono ?_
  rintro e w2 ⟨v2, rfl, hn2, hb2⟩
  have hR2 := (hb2.block _ hsz).trans H1.out
  have B2 := Lib.hid (below_of bel hb2)
  obtain ⟨k0, k1, g0, g1, _⟩ := blk2 hR2
  clear hn2 hb2 hsz bel hR2
  go_wp2
  refine bodyPost_ret (v := .tuple #[.agg #[.bool false, .slice none 0 0], .int .i64 ER]) ?_ rfl ⟨rfl, (B2.out.setCell (p := ⟨w.heap.size, 0, none⟩) (Nat.le_refl _) _).setCell (p := ⟨w.heap.size, 1, none⟩) (Nat.le_refl _) _⟩
  simp [results, Tryz.results26, go_sem, *]

theorem parseI_any (s : ByteArray) (N ER : Int) (w : World) (hs : s.size ≤ 20000) (hp : PsIs s N ER) :
    Calls Tryz.prog 26 #[.string s] w fun e w' => ∃ v', e = .returned (.tuple #[v', .int .i64 ER]) ∧ IntK w' v' N ∧ Below w.heap.size w w' := by
  have hl : (psD s).size ≤ 1048576 := Nat.le_trans (psD_size s) (by omega)
  have hb : isB 10 := .inr (.inl rfl)
  have bad : ∀ (M : Nat) (E : Int), ParIs (psD s) 10 M E → (E == 0) = false → ER = E → N = 0 → Calls Tryz.prog 26 #[.string s] w fun e w' => ∃ v', e = .returned (.tuple #[v', .int .i64 ER]) ∧ IntK w' v' N ∧ Below w.heap.size w w' := fun M E hk h0 e1 e2 => by
    subst e1 e2
    exact (parse_err s (psD s) (psG s) M ER w rfl rfl hl hk h0).mono fun e w' ⟨he, hb⟩ => ⟨_, he, intk_zero _, hb⟩
  by_cases h : okD (psD s) 10
  · obtain ⟨e1, e2⟩ := hp.ok h
    by_cases hB : Big ≤ pv (psD s) 10 (psD s).size
    · have hzb := z_big (z := sg (psG s) (pv (psD s) 10 (psD s).size)) (by rw [natAbs_sg]; exact hB)
      refine bad 0 5 ⟨fun h2 => absurd hb h2, fun n en _ h2 => absurd (by rwa [← show 10 = n from Int.ofNat.inj en]) h2, fun n en _ _ => ?_⟩ rfl (by rw [e2, hzb.2]) (by rw [e1, hzb.1])
      obtain rfl : 10 = n := Int.ofNat.inj en
      exact ⟨(cut_big hB).1.symm, (cut_big hB).2.symm⟩
    · have hlt := Nat.lt_of_not_le hB
      have hzf := z_fine (z := sg (psG s) (pv (psD s) 10 (psD s).size)) (by rw [natAbs_sg]; exact hlt)
      have hk : ParIs (psD s) 10 (pv (psD s) 10 (psD s).size) 0 := ⟨fun h2 => absurd hb h2, fun n en _ h2 => absurd (by rwa [← show 10 = n from Int.ofNat.inj en]) h2, fun n en _ _ => by
        obtain rfl : 10 = n := Int.ofNat.inj en
        exact ⟨(cut_small hlt).1.symm, (cut_small hlt).2.symm⟩⟩
      rw [e1, e2, hzf.1, hzf.2]
      exact parse_ok s (psD s) (psG s) _ w rfl rfl hl hk hlt
  · obtain ⟨e1, e2⟩ := hp.no h
    exact bad 0 13 ⟨fun h2 => absurd hb h2, fun _ _ _ _ => ⟨rfl, rfl⟩, fun n en _ h2 => absurd (by rwa [← show 10 = n from Int.ofNat.inj en] at h2) h⟩ rfl e2 e1

set_option maxHeartbeats 4000000 in
set_option maxRecDepth 100000 in
theorem wparses_walk (w : World) (s : ByteArray) (hz : TZ10 w) : Calls Tryz.prog 5 #[.string s] w fun e w' => e = .returned (.bool true) ∧ Below w.heap.size w w' := by
  have HZ := Lib.hid hz
  obtain ⟨N, ER, hp⟩ := ps_ex s
  have HP := Lib.hid hp
  clear hz hp
  by_cases h : s.size ≤ 20000
  · go_enter Tryz.func5, Tryz.ntmps5
    have B_0 := Lib.hid (Below.refl w.heap.size w)
    have hd20 : decide ((20000 : Int) < (s.size : Int)) = false := decide_eq_false (by omega)
    have HSS := Lib.hid h
    clear h
    go_wp2_with fail
    refine (parseI_any s N ER _ HSS.out HP.out).mono ?_
    rintro e w_1 ⟨vC, rfl, iC, hb⟩
    obtain ⟨nC, aC, kC, cC, rfl⟩ := iC.shape
    have B_1 := Lib.hid (below_of B_0.out hb)
    clear B_0
    have JC_1 := Lib.hid iC
    clear hb iC
    obtain ⟨V_2, eV, hV0, belV, hszV⟩ := alloc1 w_1 (Obj.cells #[Value.bool nC, Value.slice aC kC cC] 25)
    have JC_3 := Lib.hid (JC_1.out.below belV)
    have B_3 := Lib.hid (below_of B_1.out belV)
    clear JC_1 B_1
    have GC_3 : Hid (V_2.heap[w_1.heap.size]? = some (Obj.cells #[Value.bool nC, Value.slice aC kC cC] 25)) := Lib.hid hV0
    clear belV hszV hV0
    go_wp2_with fail
    clear eV
    refine (rparse_any2 s N ER _ HSS.out HP.out).mono ?_
    rintro e w_4 ⟨vD, rfl, iD, hb⟩
    obtain ⟨nD, aD, kD, cD, rfl⟩ := iD.shape
    have GC_4 := Lib.hid (blk_below' hb GC_3.out)
    have JC_4 := Lib.hid (JC_3.out.below hb)
    have B_4 := Lib.hid (below_of B_3.out hb)
    clear GC_3 JC_3 B_3
    have JD_4 := Lib.hid iD
    clear hb iD
    obtain ⟨V_5, eV, hV0, belV, hszV⟩ := alloc1 w_4 (Obj.cells #[Value.bool nD, Value.slice aD kD cD] 25)
    have GC_6 := Lib.hid (blk_below' belV GC_4.out)
    have JC_6 := Lib.hid (JC_4.out.below belV)
    have JD_6 := Lib.hid (JD_4.out.below belV)
    have B_6 := Lib.hid (below_of B_4.out belV)
    clear GC_4 JC_4 JD_4 B_4
    have GD_6 : Hid (V_5.heap[w_4.heap.size]? = some (Obj.cells #[Value.bool nD, Value.slice aD kD cD] 25)) := Lib.hid hV0
    clear belV hszV hV0
    obtain ⟨cC0, cC1, dC0, dC1, eC⟩ := blk2 GC_6.out
    obtain ⟨cD0, cD1, dD0, dD1, eD⟩ := blk2 GD_6.out
    go_wp2_with fail
    clear eV
    refine (same_any _ _ N _ JC_6.out JD_6.out).mono ?_
    rintro e w_7 ⟨rfl, hb⟩
    clear cC0 cC1 dC0 dC1 eC cD0 cD1 dD0 dD1 eD
    have GC_7 := Lib.hid (blk_below' hb GC_6.out)
    have GD_7 := Lib.hid (blk_below' hb GD_6.out)
    have JC_7 := Lib.hid (JC_6.out.below hb)
    have JD_7 := Lib.hid (JD_6.out.below hb)
    have B_7 := Lib.hid (below_of B_6.out hb)
    clear GC_6 GD_6 JC_6 JD_6 B_6
    clear hb 
    have hEE : (ER == ER) = true := beq_self_eq_true _
    go_wp2_with fail
    refine (awake_any _ (HZ.out.below B_7.out)).mono ?_
    rintro e w_8 ⟨rfl, hb⟩
    have GC_8 := Lib.hid (blk_below' hb GC_7.out)
    have GD_8 := Lib.hid (blk_below' hb GD_7.out)
    have JC_8 := Lib.hid (JC_7.out.below hb)
    have JD_8 := Lib.hid (JD_7.out.below hb)
    have B_8 := Lib.hid (below_of B_7.out hb)
    clear GC_7 GD_7 JC_7 JD_7 B_7
    clear hb 
    go_wp2
    go_ret
    exact ⟨rfl, B_8.out⟩
  · have hd20 : decide ((20000 : Int) < (s.size : Int)) = true := decide_eq_true (by omega)
    clear h
    go_enter Tryz.func5, Tryz.ntmps5
    go_wp2_with fail
    refine (awake_any _ HZ.out).mono ?_
    rintro e w1 ⟨rfl, hb⟩
    have HB := Lib.hid hb
    clear hb
    go_wp2
    go_ret
    exact ⟨rfl, HB.out⟩
end Go.Proofs.YtckmpnfadpnaeaaGreatDoor
