/- nat: divide, Quo. -/
import Derived.Test.YtafeokkkbiaajabDoorQuoC
namespace Go.Proofs.YtafeokkkbiaajabDoor
open Go.RowKit Mth

theorem of_own (x : Nat) (hx : x < B64) (w : World) :
    Calls Tryd.prog 13 #[.int .u64 x] w fun e w' => ∃ v', e = .returned v' ∧ Own w' w.heap.size v' x ∧ Below w.heap.size w w' := by
  have HX := Lib.hid hx; clear hx
  by_cases h0 : x = 0
  · have hd : ((x : Int) == 0) = true := by rw [h0]; rfl
    have H0 := Lib.hid h0; clear h0
    go_enter Tryd.func13, Tryd.ntmps13
    go_wp2
    go_ret
    exact ⟨_, rfl, .inl ⟨rfl, H0.out⟩, Below.refl _ _⟩
  · have hd : ((x : Int) == 0) = false := by simp; omega
    have H0 := Lib.hid h0; clear h0
    go_enter Tryd.func13, Tryd.ntmps13
    go_wp2
    go_ret
    have hrow : Row (w.alloc (Obj.cells #[Value.int IntKind.u64 (x : Int)] 36)) 36 .u64 w.heap.size [x] := heap_alloc_new w _
    have hb : Below w.heap.size w (w.alloc (Obj.cells #[Value.int IntKind.u64 (x : Int)] 36)) := (Below.refl _ _).alloc (Nat.le_refl _) _
    exact ⟨_, rfl, .inr ⟨_, 1, 1, [x], rfl, hrow, Nat.le_refl _, by simp, Nat.le_refl _, by unfold maxLen; omega, by simp, lim_cons.2 ⟨HX.out, lim_nil (by have := B64_pos; omega)⟩, by simp [Top, tlen, H0.out], by omega, by simp [val]⟩, hb⟩
theorem fresh_own {v : Value} {xs : List Nat} {w : World} (h : Sl w .u64 v xs) (hl : Lim B64 xs) :
    Calls Tryd.prog 31 #[v] w fun e w' => ∃ v', e = .returned v' ∧ Own w' w.heap.size v' (val B64 xs) ∧ Below w.heap.size w w' := by
  have hlen := h.len
  refine (fresh_any h).mono ?_
  rintro e w' ⟨v', h1, h2, h3, h4⟩
  refine ⟨v', h1, ?_, h2⟩
  have hv : val B64 (trimL xs) = val B64 xs := val_trimL _ _
  have hll : (trimL xs).length ≤ 16777216 := by rw [length_trimL]; exact Nat.le_trans (tlen_le xs) hlen
  rcases h4 with ⟨h5, h6⟩ | ⟨h5, h6⟩
  · exact .inl ⟨h5, by rw [← hv, h6]; rfl⟩
  · exact .inr ⟨_, _, _, _, h5, h6, Nat.le_refl _, Nat.le_refl _, Nat.le_refl _, maxLen_24 (by omega), by omega, lim_trimL hl, by rw [List.take_length]; exact top_trimL xs, hll, by rw [List.take_length]; exact hv⟩

set_option maxHeartbeats 2000000 in
set_option maxRecDepth 100000 in
theorem divide_any (va vb : Value) (xs ys : List Nat) (w : World) (ha : Sl w .u64 va xs) (hb : Sl w .u64 vb ys) (la : Lim B64 xs) (lb : Lim B64 ys) (ta : Top xs) (tb : Top ys) (hp : 0 < ys.length) (hal : xs.length ≤ 1000000) :
    Calls Tryd.prog 28 #[va, vb] w fun e w' => ∃ vq vr, e = .returned (.tuple #[vq, vr]) ∧ Own w' w.heap.size vq (val B64 xs / val B64 ys) ∧ Own w' w.heap.size vr (val B64 xs % val B64 ys) ∧ Below w.heap.size w w' := by
  have hal2 := ha.len; have hbl2 := hb.len
  obtain ⟨a0, c0, rfl⟩ := ha.shape
  obtain ⟨a1, c1, rfl⟩ := hb.shape
  by_cases hlt : xs.length < ys.length
  · have hv := val_lt_of_length B64_pos la tb hlt
    have E1 : Hid (val B64 xs / val B64 ys = 0) := Lib.hid (Nat.div_eq_of_lt hv)
    have E2 : Hid (val B64 xs % val B64 ys = val B64 xs) := Lib.hid (Nat.mod_eq_of_lt hv)
    have FR := Lib.hid (fresh_own ha la)
    clear ha hb la lb ta tb hv
    go_enter Tryd.func28, Tryd.ntmps28
    go_wp2_with fail
    refine FR.out.mono ?_
    rintro e w1 ⟨v1, rfl, ho, hb1⟩
    have O := Lib.hid ho; have B := Lib.hid hb1
    clear ho hb1
    go_wp2
    go_ret2
    exact ⟨_, _, rfl, .inl ⟨rfl, E1.out⟩, by rw [E2.out]; exact O.out, B.out⟩
  · by_cases h1 : ys.length = 1
    · have hy := list_one h1
      obtain ⟨bb, boff, bcap, e9, hb1, hb2, hbblt, hbc⟩ := hb.pos hp
      simp only [Value.slice.injEq, true_and] at e9
      obtain ⟨rfl, rfl⟩ := e9
      have hb0 := hbc 0 hp
      rw [Nat.add_zero] at hb0
      generalize hd : ys.getD 0 0 = d at *
      have hdlt : d < B64 := by rw [← hd]; exact lb 0
      have hd0 : 0 < d := by
        have := tlen_top ys (by rw [tb]; omega)
        rw [tb, h1, hd] at this
        omega
      have hyv : val B64 ys = d := by rw [hy]; simp [val]
      have FR := Lib.hid (fresh_any ha)
      have TX := trimL_of_top ta
      rw [TX] at FR
      have HL := Lib.hid la; have HY := Lib.hid hyv; have HD := Lib.hid hdlt; have HD0 := Lib.hid hd0; have H1 := Lib.hid h1
      have hxp : 0 < xs.length := by omega
      unfold maxLen at hb2
      have hxl : ¬ xs.length < 1 := by omega
      rw [h1] at hb1 hlt ⊢
      clear ha hb la lb ta tb hbc hy hd hyv hdlt TX hd0 h1 hlt
      go_enter Tryd.func28, Tryd.ntmps28
      go_wp2_with fail
      refine FR.out.mono ?_
      rintro e w1 ⟨v1, rfl, hbl, _, hcase⟩
      rcases hcase with ⟨_, h0⟩ | ⟨rfl, hrow⟩
      · rw [h0] at hxp; simp at hxp
      · have hbd : w1.cell? ⟨bb, boff, none⟩ = some (.int .u64 (d : Int)) := (hbl.cell (p := ⟨bb, boff, none⟩) hbblt).trans hb0
        have DB := Lib.hid (divideByLimb_any w.heap.size xs.length xs.length d xs w1 hrow HL.out (Nat.le_refl _) (Nat.le_refl _) (maxLen_24 (by omega)) HD0.out HD.out (by omega))
        have B1 := Lib.hid hbl
        clear hrow hbl
        go_wp2_with fail
        refine DB.out.mono ?_
        rintro e w2 ⟨r, R', rfl, hr2, hg2, hT⟩
        have hE := dbT_end hT
        rw [List.take_length] at hE
        have hRl := hT.len
        have B2 := Lib.hid (below_of_grown B1.out hg2 (Nat.le_refl _) B1.out.size)
        have O1 := setV_own (base := w.heap.size) hr2 (Nat.le_refl _) (show xs.length ≤ R'.length by omega) (Nat.le_refl xs.length) (maxLen_24 (by omega)) (by omega) hT.lim (by omega)
        have hsl : Sl w2 .u64 (.slice (some ⟨w.heap.size, 0, none⟩) xs.length xs.length) (R'.take xs.length) := by
          have := hr2.sl (off := 0) (n := xs.length) (cap := xs.length) (by omega) (Nat.le_refl _) (maxLen_24 (by omega)) (by omega)
          rwa [List.drop_zero] at this
        have SV := settle_is hsl
        have hrl := hT.rlt
        generalize setV (some ⟨w.heap.size, 0, none⟩) xs.length (R'.take xs.length) = vq at *
        rw [hE.1] at O1
        have OO := Lib.hid O1; have SS := Lib.hid SV; have HE2 := Lib.hid hE.2; have HRB : Hid (r < B64) := Lib.hid (by have := HD.out; omega)
        clear hr2 hg2 hT hE hRl O1 hsl SV hrl
        go_wp2_with fail
        refine SS.out.mono ?_
        rintro e w3 ⟨rfl, rfl⟩
        go_wp2_with fail
        refine (of_own r HRB.out _).mono ?_
        rintro e w4 ⟨v4, rfl, ho4, hb4⟩
        have O4 := Lib.hid (ho4.mono B2.out.size); have OQ := Lib.hid (OO.out.below hb4); have B4 := Lib.hid (below_step B2.out hb4)
        clear ho4 hb4
        go_wp2
        go_ret2
        refine ⟨_, _, rfl, ?_, ?_, B4.out⟩
        · rw [HY.out]; exact OQ.out
        · rw [HY.out, ← HE2.out]; exact O4.out
    · obtain ⟨m, hm⟩ : ∃ m, ys.length = m + 2 := ⟨ys.length - 2, by omega⟩
      obtain ⟨p, hpx⟩ : ∃ p, xs.length = p + (m + 2) := ⟨xs.length - (m + 2), by omega⟩
      have DL := Lib.hid (divideLong_any _ _ xs ys m p w ha hb la lb tb hm hpx hal)
      have hd1 : ((ys.length : Int) == 1) = false := beq_eq_false_iff_ne.2 (by omega)
      have hxl : ¬ xs.length < ys.length := hlt
      clear ha hb la lb ta tb hm hpx h1 hlt
      go_enter Tryd.func28, Tryd.ntmps28
      go_wp2_with fail
      refine DL.out.mono ?_
      rintro e w1 ⟨vq, vr, rfl, h2, h3, h4⟩
      have H2 := Lib.hid h2; have H3 := Lib.hid h3; have H4 := Lib.hid h4
      clear h2 h3 h4
      go_wp2
      go_ret2
      exact ⟨_, _, rfl, H2.out, H3.out, H4.out⟩

/-- what Quo answers -/
def quoN (a b : Nat) : Nat := if Big ≤ a ∨ Big ≤ b then 0 else a / b
def remN (a b : Nat) : Nat := if Big ≤ a ∨ Big ≤ b then 0 else if b = 0 then 0 else a % b
def quoE (a b : Nat) : Int := if Big ≤ a ∨ Big ≤ b then 5 else if b = 0 then 11 else 0
theorem quo_long {a b : Nat} (h : Big ≤ a ∨ Big ≤ b) : quoN a b = 0 ∧ remN a b = 0 ∧ quoE a b = 5 := ⟨if_pos h, if_pos h, if_pos h⟩
theorem quo_zero {a b : Nat} (h : ¬ (Big ≤ a ∨ Big ≤ b)) (h2 : b = 0) : quoN a b = 0 ∧ remN a b = 0 ∧ quoE a b = 11 := by
  unfold quoN remN quoE; rw [if_neg h, if_neg h, if_neg h, if_pos h2, if_pos h2]; subst h2; simp
theorem quo_fine {a b : Nat} (h : ¬ (Big ≤ a ∨ Big ≤ b)) (h2 : b ≠ 0) : quoN a b = a / b ∧ remN a b = a % b ∧ quoE a b = 0 := by
  unfold quoN remN quoE; rw [if_neg h, if_neg h, if_neg h, if_neg h2, if_neg h2]; exact ⟨rfl, rfl, rfl⟩

set_option maxHeartbeats 2000000 in
set_option maxRecDepth 100000 in
theorem quo_any (v1 v2 : Value) (xs ys : List Nat) (w : World) (h1 : Sl w .u64 v1 xs) (h2 : Sl w .u64 v2 ys) (l1 : Lim B64 xs) (l2 : Lim B64 ys) :
    Calls Tryd.prog 12 #[v1, v2] w fun e w' => ∃ vq vr, e = .returned (.tuple #[vq, vr, .int .i64 (quoE (val B64 xs) (val B64 ys))]) ∧ Own w' w.heap.size vq (quoN (val B64 xs) (val B64 ys)) ∧ Own w' w.heap.size vr (remN (val B64 xs) (val B64 ys)) ∧ Below w.heap.size w w' := by
  have T1 := Lib.hid (trim_any h1); have T2 := Lib.hid (trim_any h2)
  have G1 := Lib.hid (long_iff l1); have G2 := Lib.hid (long_iff l2)
  have e1 : val B64 (trimL xs) = val B64 xs := val_trimL _ _
  have e2 : val B64 (trimL ys) = val B64 ys := val_trimL _ _
  have k1 := lim_trimL l1; have k2 := lim_trimL l2; have p1 := top_trimL xs; have p2 := top_trimL ys
  rw [← e1] at G1 ⊢
  rw [← e2] at G2 ⊢
  clear h1 h2 l1 l2 e1 e2
  generalize trimL xs = ts at *
  generalize trimL ys = us at *
  have K1 := Lib.hid k1; have K2 := Lib.hid k2; have P1 := Lib.hid p1; have P2 := Lib.hid p2
  clear k1 k2 p1 p2
  go_enter Tryd.func12, Tryd.ntmps12
  go_wp2_with fail
  refine T1.out.mono ?_
  rintro e w' ⟨va, rfl, s1, rfl⟩
  go_wp2_with fail
  refine T2.out.mono ?_
  rintro e w' ⟨vb, rfl, s2, rfl⟩
  have S1 := Lib.hid s1; have S2 := Lib.hid s2
  obtain ⟨a0, c0, rfl⟩ := s1.shape
  obtain ⟨a1, c1, rfl⟩ := s2.shape
  clear s1 s2
  by_cases g1 : 4096 < ts.length
  · have hd : decide (4096 < ts.length) = true := decide_eq_true g1
    have E := Lib.hid (quo_long (b := val B64 us) (.inl (G1.out.1 g1)))
    clear g1
    go_wp2_with fail
    refine (tooLong_any S1.out).mono ?_
    rintro e w' ⟨rfl, rfl⟩
    go_wp2
    go_ret3
    exact ⟨_, _, by rw [E.out.2.2]; rfl, by rw [E.out.1]; exact .inl ⟨rfl, rfl⟩, by rw [E.out.2.1]; exact .inl ⟨rfl, rfl⟩, Below.refl _ _⟩
  · have hd : decide (4096 < ts.length) = false := decide_eq_false g1
    by_cases g2 : 4096 < us.length
    · have hd2 : decide (4096 < us.length) = true := decide_eq_true g2
      have E := Lib.hid (quo_long (a := val B64 ts) (.inr (G2.out.1 g2)))
      clear g1 g2
      go_wp2_with fail
      refine (tooLong_any S1.out).mono ?_
      rintro e w' ⟨rfl, rfl⟩
      go_wp2_with fail
      refine (tooLong_any S2.out).mono ?_
      rintro e w' ⟨rfl, rfl⟩
      go_wp2
      go_ret3
      exact ⟨_, _, by rw [E.out.2.2]; rfl, by rw [E.out.1]; exact .inl ⟨rfl, rfl⟩, by rw [E.out.2.1]; exact .inl ⟨rfl, rfl⟩, Below.refl _ _⟩
    · have hd2 : decide (4096 < us.length) = false := decide_eq_false g2
      have NB : Hid (¬ (Big ≤ val B64 ts ∨ Big ≤ val B64 us)) := Lib.hid (fun h => h.elim (fun h => g1 (G1.out.2 h)) (fun h => g2 (G2.out.2 h)))
      have hl1 : ts.length ≤ 4096 := by omega
      have hl2 : us.length ≤ 4096 := by omega
      clear g1 g2
      go_wp2_with fail
      refine (tooLong_any S1.out).mono ?_
      rintro e w' ⟨rfl, rfl⟩
      go_wp2_with fail
      refine (tooLong_any S2.out).mono ?_
      rintro e w' ⟨rfl, rfl⟩
      by_cases h0 : us.length = 0
      · have hd0 := len_eq h0
        have E := Lib.hid (quo_zero NB.out (show val B64 us = 0 by rw [List.eq_nil_of_length_eq_zero h0]; rfl))
        clear h0
        go_wp2
        go_ret3
        exact ⟨_, _, by rw [E.out.2.2]; rfl, by rw [E.out.1]; exact .inl ⟨rfl, rfl⟩, by rw [E.out.2.1]; exact .inl ⟨rfl, rfl⟩, Below.refl _ _⟩
      · have hd0 := len_ne h0
        have E := Lib.hid (quo_fine NB.out (show val B64 us ≠ 0 by have := pos_of_top P2.out (by omega); omega))
        have DV := Lib.hid (divide_any _ _ ts us w S1.out S2.out K1.out K2.out P1.out P2.out (by omega) (by omega))
        clear h0
        go_wp2_with fail
        refine DV.out.mono ?_
        rintro e w1 ⟨vq, vr, rfl, h2, h3, h4⟩
        have H2 := Lib.hid h2; have H3 := Lib.hid h3; have H4 := Lib.hid h4
        clear h2 h3 h4
        go_wp2
        go_ret3
        exact ⟨_, _, by rw [E.out.2.2]; rfl, by rw [E.out.1]; exact H2.out, by rw [E.out.2.1]; exact H3.out, H4.out⟩
end Go.Proofs.YtafeokkkbiaajabDoor
