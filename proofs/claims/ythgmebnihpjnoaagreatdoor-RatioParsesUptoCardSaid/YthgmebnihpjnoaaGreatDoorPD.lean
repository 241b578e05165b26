/- Package whole: Parse, of any text; WholeParses: the law's own walk. -/
import Derived.Test.YthgmebnihpjnoaaGreatDoorPC
import Derived.Test.YthgmebnihpjnoaaGreatDoorZB4
set_option linter.unusedVariables false
set_option linter.unusedSimpArgs false
namespace Go.Proofs.YthgmebnihpjnoaaGreatDoor
open Go.RowKit Mth

set_option maxHeartbeats 1000000 in
set_option maxRecDepth 100000 in
theorem parse_err (s d : ByteArray) (g : Bool) (N : Nat) (ER : Int) (w : World) (hd : (⟨(Lib.trimPrefix s.data.toList [45]).toArray⟩ : ByteArray) = d) (hg : Lib.hasPrefix s.data.toList [45] = g) (hl : d.size ≤ 1048576) (HK : ParIs d 10 N ER) (h0 : (ER == 0) = false) :
    Calls Tryz.prog 77 #[.string s] w fun e w' => e = .returned (.tuple #[.agg #[.bool false, .slice none 0 0], .int .i64 ER]) ∧ Below w.heap.size w w' := by
  have CP : Hid (∀ w1, Calls Tryz.prog 107 #[.string s, .string ⟨#[45]⟩] w1 fun e w' => e = .returned (.tuple #[.string d, .bool g]) ∧ w' = w1) := Lib.hid (fun w1 => by
    have := Tryz.strings_CutPrefix s ⟨#[45]⟩ w1
    rw [show (⟨#[45]⟩ : ByteArray).data.toList = [45] from rfl, hd, hg] at this
    exact this)
  have P : Hid (∀ w1, Calls Tryz.prog 78 #[.string d, .int .i64 10] w1 fun e w' => ∃ v', e = .returned (.tuple #[v', .int .i64 ER]) ∧ Num w' v' N ∧ Below w1.heap.size w1 w') := Lib.hid (fun w1 => parse_any d 10 N ER w1 hl HK (by omega))
  clear hd hg hl HK
  go_enter Tryz.func77, Tryz.ntmps77
  go_wp2_with fail
  obtain ⟨W, eW, b1, bel, hsz⟩ := alloc1 w (Obj.cells #[Value.bool false, Value.slice none 0 0] 25)
  rw [eW]
  have H1 := Lib.hid b1
  clear eW b1
  refine (CP.out W).mono ?_
  rintro e w1 ⟨rfl, rfl⟩
  go_wp2_with fail
  refine (P.out _).mono ?_
  rintro e w2 ⟨v2, rfl, hn2, hb2⟩
  have hR2 := (hb2.block _ hsz).trans H1.out
  have B2 := Lib.hid (below_of bel hb2)
  obtain ⟨k0, k1, g0, g1, _⟩ := blk2 hR2
  clear hn2 hb2 hsz bel hR2
  go_wp2
  refine bodyPost_ret (v := .tuple #[.agg #[.bool false, .slice none 0 0], .int .i64 ER]) ?_ rfl ⟨rfl, (B2.out.setCell (p := ⟨w.heap.size, 0, none⟩) (Nat.le_refl _) _).setCell (p := ⟨w.heap.size, 1, none⟩) (Nat.le_refl _) _⟩
  simp [results, Tryz.results77, go_sem, *]

theorem parseI_any (s : ByteArray) (N ER : Int) (w : World) (hs : s.size ≤ 20000) (hp : PsIs s N ER) :
    Calls Tryz.prog 77 #[.string s] w fun e w' => ∃ v', e = .returned (.tuple #[v', .int .i64 ER]) ∧ IntK w' v' N ∧ Below w.heap.size w w' := by
  have hl : (psD s).size ≤ 1048576 := Nat.le_trans (psD_size s) (by omega)
  have hb : isB 10 := .inr (.inl rfl)
  have bad : ∀ (M : Nat) (E : Int), ParIs (psD s) 10 M E → (E == 0) = false → ER = E → N = 0 → Calls Tryz.prog 77 #[.string s] w fun e w' => ∃ v', e = .returned (.tuple #[v', .int .i64 ER]) ∧ IntK w' v' N ∧ Below w.heap.size w w' := fun M E hk h0 e1 e2 => by
    subst e1 e2
    exact (parse_err s (psD s) (psG s) M ER w rfl rfl hl hk h0).mono fun e w' ⟨he, hb⟩ => ⟨_, he, intk_zero _, hb⟩
  by_cases h : okD (psD s) 10
  · obtain ⟨e1, e2⟩ := hp.ok h
    by_cases hB : Big ≤ pv (psD s) 10 (psD s).size
    · have hzb := z_big (z := sg (psG s) (pv (psD s) 10 (psD s).size)) (by rw [natAbs_sg]; exact hB)
      refine bad 0 5 ⟨fun h2 => absurd hb h2, fun n en _ h2 => absurd (by rwa [← show 10 = n from Int.ofNat.inj en]) h2, fun n en _ _ => ?_⟩ rfl (by rw [e2, hzb.2]) (by rw [e1, hzb.1])
      obtain rfl : 10 = n := Int.ofNat.inj en
      exact ⟨(cut_big hB).1.symm, (cut_big hB).2.symm⟩
    · have hlt := Nat.lt_of_not_le hB
      have hzf := z_fine (z := sg (psG s) (pv (psD s) 10 (psD s).size)) (by rw [natAbs_sg]; exact hlt)
      have hk : ParIs (psD s) 10 (pv (psD s) 10 (psD s).size) 0 := ⟨fun h2 => absurd hb h2, fun n en _ h2 => absurd (by rwa [← show 10 = n from Int.ofNat.inj en]) h2, fun n en _ _ => by
        obtain rfl : 10 = n := Int.ofNat.inj en
        exact ⟨(cut_small hlt).1.symm, (cut_small hlt).2.symm⟩⟩
      rw [e1, e2, hzf.1, hzf.2]
      exact parse_ok s (psD s) (psG s) _ w rfl rfl hl hk hlt
  · obtain ⟨e1, e2⟩ := hp.no h
    exact bad 0 13 ⟨fun h2 => absurd hb h2, fun _ _ _ _ => ⟨rfl, rfl⟩, fun n en _ h2 => absurd (by rwa [← show 10 = n from Int.ofNat.inj en] at h2) h⟩ rfl e2 e1

end Go.Proofs.YthgmebnihpjnoaaGreatDoor
