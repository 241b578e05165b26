/- Package ratio: Parse (written by genrpa.py). -/
import Derived.Test.YthgmebnihpjnoaaGreatDoorRCT
import Derived.Test.YthgmebnihpjnoaaGreatDoorRLW
import Derived.Test.YthgmebnihpjnoaaGreatDoorPD
set_option linter.unusedVariables false
set_option linter.unusedSimpArgs false
namespace Go.Proofs.YthgmebnihpjnoaaGreatDoor
open Go.RowKit Mth

/-- what a text says: numerator, denominator -/
def prX (s : ByteArray) : Int := sg (psG (slL s)) (pv (psD (slL s)) 10 (psD (slL s)).size)
def prY (s : ByteArray) : Nat := pv (slD s) 10 (slD s).size
def prOk (s : ByteArray) : Prop := okD (psD (slL s)) 10 ∧ okD (slD s) 10
def PrsO (w' : World) (s : ByteArray) (v' : Value) (E : Int) : Prop :=
  (¬ prOk s ∧ E = 13 ∧ v' = zRat) ∨ (prOk s ∧ longQ (prX s, prY s) ∧ E = 5 ∧ v' = zRat) ∨ (prOk s ∧ ¬ longQ (prX s, prY s) ∧ prY s = 0 ∧ E = 11 ∧ v' = zRat) ∨
    (prOk s ∧ ¬ longQ (prX s, prY s) ∧ 0 < prY s ∧ E = 0 ∧ FrV w' v' (lowN (prX s) (prY s)) (lowD (prX s) (prY s)))
theorem PrsO.far3 {s : ByteArray} {w : World} {v y0 y1 y2 : Value} {E : Int} {R : Nat} {T : TypeId} {b : Bool} {ao ao' : Option Addr} {k c k' c' : Nat} (h : PrsO w s v E) (hR : w.heap[R]? = some (.cells #[.bool b, .slice ao k c, .slice ao' k' c'] T (0, 0))) : PrsO (((w.setCell ⟨R, 0, none⟩ y0).setCell ⟨R, 1, none⟩ y1).setCell ⟨R, 2, none⟩ y2) s v E := by
  rcases h with h | h | h | ⟨h1, h2, h3, h4, h5⟩
  · exact .inl h
  · exact .inr (.inl h)
  · exact .inr (.inr (.inl h))
  · exact .inr (.inr (.inr ⟨h1, h2, h3, h4, h5.far3 hR⟩))
theorem prs_ans {w : World} {s : ByteArray} {v : Value} {E : Int} (hok : prOk s) (hl : ¬ longQ (prX s, prY s)) (h : AnsV w v E (prX s) (prY s)) : PrsO w s v E := by
  rcases h with ⟨h1, h2, h3⟩ | ⟨_, h2, _⟩ | ⟨h1, _, h3, h4⟩
  · exact .inr (.inr (.inl ⟨hok, hl, h1, h2, h3⟩))
  · exact absurd h2 hl
  · exact .inr (.inr (.inr ⟨hok, hl, h1, h3, h4⟩))
theorem prs_shape {w : World} {s : ByteArray} {v : Value} {E : Int} (h : PrsO w s v E) : ∃ n a k c a' k' c', v = .agg #[.bool n, .slice a k c, .slice a' k' c'] := by
  rcases h with ⟨_, _, e⟩ | ⟨_, _, _, e⟩ | ⟨_, _, _, _, e⟩ | ⟨_, _, _, _, hf⟩
  · exact ⟨_, _, _, _, _, _, _, e⟩
  · exact ⟨_, _, _, _, _, _, _, e⟩
  · exact ⟨_, _, _, _, _, _, _, e⟩
  · exact frv_shape hf
theorem zint_num {w : World} {n : Bool} {a : Option Addr} {k c : Nat} {z : Int} (h : IntK w (.agg #[.bool n, .slice a k c]) z) : n = sgn z ∧ Num w (.slice a k c) z.natAbs := by
  obtain ⟨u, e, hn⟩ := h
  simp only [Value.agg.injEq, Array.mk.injEq, List.cons.injEq, Value.bool.injEq, and_true] at e
  obtain ⟨rfl, rfl⟩ := e
  exact ⟨rfl, hn⟩
theorem parseI_wide (s : ByteArray) (N ER : Int) (w : World) (hs : s.size ≤ 1048576) (hp : PsIs s N ER) :
    Calls Tryz.prog 77 #[.string s] w fun e w' => ∃ v', e = .returned (.tuple #[v', .int .i64 ER]) ∧ IntK w' v' N ∧ Below w.heap.size w w' := by
  have hl : (psD s).size ≤ 1048576 := Nat.le_trans (psD_size s) hs
  have hb : isB 10 := .inr (.inl rfl)
  have bad : ∀ (M : Nat) (E : Int), ParIs (psD s) 10 M E → (E == 0) = false → ER = E → N = 0 → Calls Tryz.prog 77 #[.string s] w fun e w' => ∃ v', e = .returned (.tuple #[v', .int .i64 ER]) ∧ IntK w' v' N ∧ Below w.heap.size w w' := fun M E hk h0 e1 e2 => by
    subst e1 e2
    exact (parse_err s (psD s) (psG s) M ER w rfl rfl hl hk h0).mono fun e w' ⟨he, hb⟩ => ⟨_, he, intk_zero _, hb⟩
  by_cases h : okD (psD s) 10
  · obtain ⟨e1, e2⟩ := hp.ok h
    by_cases hB : Big ≤ pv (psD s) 10 (psD s).size
    · have hzb := z_big (z := sg (psG s) (pv (psD s) 10 (psD s).size)) (by rw [natAbs_sg]; exact hB)
      refine bad 0 5 ⟨fun h2 => absurd hb h2, fun n en _ h2 => absurd (by rwa [← show 10 = n from Int.ofNat.inj en]) h2, fun n en _ _ => ?_⟩ rfl (by rw [e2, hzb.2]) (by rw [e1, hzb.1])
      obtain rfl : 10 = n := Int.ofNat.inj en
      exact ⟨(cut_big hB).1.symm, (cut_big hB).2.symm⟩
    · have hlt := Nat.lt_of_not_le hB
      have hzf := z_fine (z := sg (psG s) (pv (psD s) 10 (psD s).size)) (by rw [natAbs_sg]; exact hlt)
      have hk : ParIs (psD s) 10 (pv (psD s) 10 (psD s).size) 0 := ⟨fun h2 => absurd hb h2, fun n en _ h2 => absurd (by rwa [← show 10 = n from Int.ofNat.inj en]) h2, fun n en _ _ => by
        obtain rfl : 10 = n := Int.ofNat.inj en
        exact ⟨(cut_small hlt).1.symm, (cut_small hlt).2.symm⟩⟩
      rw [e1, e2, hzf.1, hzf.2]
      exact parse_ok s (psD s) (psG s) _ w rfl rfl hl hk hlt
  · obtain ⟨e1, e2⟩ := hp.no h
    exact bad 0 13 ⟨fun h2 => absurd hb h2, fun _ _ _ _ => ⟨rfl, rfl⟩, fun n en _ h2 => absurd (by rwa [← show 10 = n from Int.ofNat.inj en] at h2) h⟩ rfl e2 e1

theorem par_ten (s : ByteArray) : ∃ N ER, ParIs s 10 N ER := by
  have hb : isB 10 := .inr (.inl rfl)
  by_cases h2 : okD s 10
  · exact ⟨_, _, fun h3 => absurd hb h3, fun m e _ h3 => absurd (by rwa [show 10 = m from Int.ofNat.inj e] at h2) h3, fun m e _ _ => by rw [← show 10 = m from Int.ofNat.inj e]; exact ⟨rfl, rfl⟩⟩
  · exact ⟨0, 13, fun h3 => absurd hb h3, fun _ _ _ _ => ⟨rfl, rfl⟩, fun m e _ h3 => absurd (by rwa [← show 10 = m from Int.ofNat.inj e] at h3) h2⟩
theorem big_long {x : Int} {d : Nat} (h : Big ≤ x.natAbs ∨ Big ≤ d) : longQ (x, d) := by
  by_cases hn : longQ (x, d)
  · exact hn
  · exfalso
    unfold longQ at hn
    have hn' : ¬ (BigR ≤ x.natAbs ∨ BigR ≤ d) := hn
    have h1 : x.natAbs < Big := bigR_lt (by omega)
    have h2 : d < Big := bigR_lt (by omega)
    omega
theorem num_small {w : World} {n k c : Nat} {ao : Option Addr} (h : Num w (.slice ao k c) n) (hn : n < Big) : k ≤ 4000000 := by
  obtain ⟨xs, h1, _, h2, h3⟩ := h
  rw [← h3] at hn
  have := top_len h2 hn
  have e := sl_eq_len h1
  omega
set_option maxHeartbeats 8000000 in
set_option maxRecDepth 100000 in
theorem rparse_any3 (s : ByteArray) (w : World) (hs : s.size ≤ 1048575) :
    Calls Tryz.prog 34 #[.string s] w fun e w' => ∃ v' E, e = .returned (.tuple #[v', .int .i64 E]) ∧ PrsO w' s v' E ∧ Below w.heap.size w w' := by
  obtain ⟨W, eW, h1, bW, hzW⟩ := alloc1 w (Obj.cells #[.bool false, .slice none 0 0, .slice none 0 0] 27)
  have HR := Lib.hid h1; have BW := Lib.hid bW
  have CT := Lib.hid (cut_any1 s W (by omega))
  have hle : w.heap.size ≤ w.heap.size := Nat.le_refl _
  have hsz1 : w.heap.size < W.heap.size := by have := (Array.getElem?_eq_some_iff.1 h1).1; exact this
  have HS1 : Hid ((slL s).size ≤ 1048576) := Lib.hid (Nat.le_trans (slL_size s) (by omega))
  have HS2 : Hid ((slD s).size ≤ 1048576) := Lib.hid (by have := slD_size s; omega)
  have LR : Hid ((slI s = -1 ∧ slD s = ⟨#[49]⟩) ∨ (slI s ≠ -1 ∧ slD s = slR s)) := Lib.hid (by
    rcases slI_cases s with h | ⟨i, h, _⟩
    · exact .inl ⟨h, slD_no h⟩
    · exact .inr ⟨by omega, by rw [slD_at h, slR_at h]⟩)
  have OK : Hid (prOk s ↔ okD (psD (slL s)) 10 ∧ okD (slD s) 10) := Lib.hid Iff.rfl
  have PXH : Hid (prX s = sg (psG (slL s)) (pv (psD (slL s)) 10 (psD (slL s)).size)) := Lib.hid rfl
  have PYH : Hid (prY s = pv (slD s) 10 (slD s).size) := Lib.hid rfl
  have PG : Hid (∀ w1, ∃ N E1, PsIs (slL s) N E1 ∧ Calls Tryz.prog 77 #[.string (slL s)] w1 fun e w' => ∃ v', e = .returned (.tuple #[v', .int .i64 E1]) ∧ IntK w' v' N ∧ Below w1.heap.size w1 w') := Lib.hid (fun w1 => by
    obtain ⟨N, E1, hp⟩ := ps_ex (slL s)
    exact ⟨N, E1, hp, parseI_wide (slL s) N E1 w1 HS1.out hp⟩)
  have NG : Hid (∀ w1, ∃ N E2, ParIs (slD s) 10 N E2 ∧ Calls Tryz.prog 78 #[.string (slD s), .int .i64 10] w1 fun e w' => ∃ v', e = .returned (.tuple #[v', .int .i64 E2]) ∧ Num w' v' N ∧ Below w1.heap.size w1 w') := Lib.hid (fun w1 => by
    obtain ⟨N, E2, hp⟩ := par_ten (slD s)
    exact ⟨N, E2, hp, parse_any (slD s) 10 N E2 w1 HS2.out hp (by omega)⟩)
  clear h1 bW hs
  generalize slD s = D at *
  generalize slL s = L at *
  generalize slR s = R0 at *
  go_enter Tryz.func34, Tryz.ntmps34
  go_wp2_with fail
  refine CT.out.mono ?_
  rintro e w1 ⟨rfl, b1⟩
  have R1 := Lib.hid (blk_below' b1 HR.out); have B1 := Lib.hid (below_of BW.out b1)
  have hsz2 : w.heap.size < w1.heap.size := by have := b1.size; omega
  obtain ⟨N, E1, hps, hcall⟩ := PG.out w1
  have PC := Lib.hid hcall; have HPS := Lib.hid hps
  clear CT b1 HR BW eW hzW hsz1 PG hcall hps
  rcases LR.out with ⟨hi, hD⟩ | ⟨hi, hD⟩
  all_goals
    first
      | rw [slB_no hi]
      | rw [slB_at hi]
    have HD := Lib.hid hD
    clear hi hD LR
    go_wp2_with fail
    refine PC.out.mono ?_
    rintro e w2 ⟨v2, rfl, i2, b2⟩
    obtain ⟨n2, a2, k2, c2, rfl⟩ := i2.shape
    obtain ⟨U, eU, gU, bU, hsU⟩ := alloc1 w2 (Obj.cells #[.bool n2, .slice a2 k2 c2] 25)
    have bb := below_of b2 bU
    have RU := Lib.hid (blk_below' bb R1.out); have BU := Lib.hid (below_of B1.out bb); have IU := Lib.hid (i2.below bU); have GU := Lib.hid gU
    have hszU : w.heap.size < U.heap.size := by have := bb.size; omega
    obtain ⟨M, E2, hpn, hcall⟩ := NG.out U
    rw [HD.out] at hcall
    have NC := Lib.hid hcall; have HPN := Lib.hid hpn
    clear PC i2 b2 gU bU bb NG hcall hpn R1 B1
    go_wp2_with fail
    try rw [eU]
    try clear eU
    refine NC.out.mono ?_
    rintro e w3 ⟨v3, rfl, n3, b3⟩
    obtain ⟨a3, k3, c3, rfl⟩ := num_shape n3
    have R3 := Lib.hid (blk_below' b3 RU.out); have B3 := Lib.hid (below_of BU.out b3); have G3 := Lib.hid (blk_below' b3 GU.out); have I3 := Lib.hid (IU.out.below b3); have N3 := Lib.hid n3
    clear NC b3 n3 RU BU GU IU
    obtain ⟨⟨r0, r1, r2⟩, ⟨f0, f1, f2⟩, _⟩ := blk3 R3.out
    by_cases o1 : okD (psD L) 10
    rotate_left
    · have HO : Hid (¬ prOk s) := Lib.hid (fun h => o1 (OK.out.1 h).1)
      obtain ⟨-, rfl⟩ := HPS.out.no o1
      clear o1
      go_wp2
      refine bodyPost_ret (v := .tuple #[.agg #[.bool false, .slice none 0 0, .slice none 0 0], .int .i64 13]) ?_ rfl ⟨_, _, rfl, .inl ⟨HO.out, rfl, rfl⟩, ((B3.out.setCell (p := ⟨w.heap.size, 0, none⟩) hle _).setCell (p := ⟨w.heap.size, 1, none⟩) hle _).setCell (p := ⟨w.heap.size, 2, none⟩) hle _⟩
      simp [results, Tryz.results34, go_sem, *]
    · have H1 := Lib.hid (HPS.out.ok o1)
      by_cases o2 : okD D 10
      rotate_left
      · have HO : Hid (¬ prOk s) := Lib.hid (fun h => o2 (OK.out.1 h).2)
        obtain ⟨-, rfl⟩ := HPN.out.dig 10 rfl (.inr (.inl rfl)) o2
        have e1 : (E1 == 13) = false := by
          rw [beq_eq_false_iff_ne, H1.out.2]
          unfold zE; split <;> omega
        clear o1 o2
        go_wp2
        refine bodyPost_ret (v := .tuple #[.agg #[.bool false, .slice none 0 0, .slice none 0 0], .int .i64 13]) ?_ rfl ⟨_, _, rfl, .inl ⟨HO.out, rfl, rfl⟩, ((B3.out.setCell (p := ⟨w.heap.size, 0, none⟩) hle _).setCell (p := ⟨w.heap.size, 1, none⟩) hle _).setCell (p := ⟨w.heap.size, 2, none⟩) hle _⟩
        simp [results, Tryz.results34, go_sem, *]
      · have HO : Hid (prOk s) := Lib.hid (OK.out.2 ⟨o1, o2⟩)
        have H2 := Lib.hid (HPN.out.fine 10 rfl (.inr (.inl rfl)) o2)
        rw [← PXH.out] at H1
        rw [← PYH.out] at H2
        have e2 : (E2 == 13) = false := by
          rw [beq_eq_false_iff_ne, H2.out.2]
          unfold cutE; split <;> omega
        clear o1 o2
        obtain ⟨p0, p1, _, _, _⟩ := blk2 G3.out
        by_cases g1 : Big ≤ (prX s).natAbs
        · have HL : Hid (longQ (prX s, prY s)) := Lib.hid (big_long (.inl g1))
          obtain rfl : E1 = 5 := by rw [H1.out.2]; exact (z_big g1).2
          clear g1
          go_wp2
          refine bodyPost_ret (v := .tuple #[.agg #[.bool false, .slice none 0 0, .slice none 0 0], .int .i64 5]) ?_ rfl ⟨_, _, rfl, .inr (.inl ⟨HO.out, HL.out, rfl, rfl⟩), ((B3.out.setCell (p := ⟨w.heap.size, 0, none⟩) hle _).setCell (p := ⟨w.heap.size, 1, none⟩) hle _).setCell (p := ⟨w.heap.size, 2, none⟩) hle _⟩
          simp [results, Tryz.results34, go_sem, *]
        · have hx := z_fine (Nat.lt_of_not_le g1)
          obtain rfl : E1 = 0 := by rw [H1.out.2]; exact hx.2
          by_cases g2 : Big ≤ prY s
          · have HL : Hid (longQ (prX s, prY s)) := Lib.hid (big_long (.inr g2))
            obtain rfl : E2 = 5 := by rw [H2.out.2]; exact (cut_big g2).2
            clear g1 g2 e2 hx
            go_wp2
            refine bodyPost_ret (v := .tuple #[.agg #[.bool false, .slice none 0 0, .slice none 0 0], .int .i64 5]) ?_ rfl ⟨_, _, rfl, .inr (.inl ⟨HO.out, HL.out, rfl, rfl⟩), ((B3.out.setCell (p := ⟨w.heap.size, 0, none⟩) hle _).setCell (p := ⟨w.heap.size, 1, none⟩) hle _).setCell (p := ⟨w.heap.size, 2, none⟩) hle _⟩
            simp [results, Tryz.results34, go_sem, *]
          · have hy := cut_small (Nat.lt_of_not_le g2)
            obtain rfl : E2 = 0 := by rw [H2.out.2]; exact hy.2
            obtain rfl : N = prX s := by rw [H1.out.1]; exact hx.1
            obtain rfl : M = prY s := by rw [H2.out.1]; exact hy.1
            have q1 := num_longR (zint_num I3.out).2
            have q2 := num_longR N3.out
            have z1 := num_small (zint_num I3.out).2 (Nat.lt_of_not_le g1)
            have z2 := num_small N3.out (Nat.lt_of_not_le g2)
            clear g1 g2 e2 hx hy
            by_cases l1 : 1024 < k2
            · have HL : Hid (longQ (prX s, prY s)) := Lib.hid (.inl (q1.1 l1))
              have d1 : decide ((1024 : Int) < (k2 : Int)) = true := decide_eq_true (by omega)
              clear q1 q2
              go_wp2
              refine bodyPost_ret (v := .tuple #[.agg #[.bool false, .slice none 0 0, .slice none 0 0], .int .i64 5]) ?_ rfl ⟨_, _, rfl, .inr (.inl ⟨HO.out, HL.out, rfl, rfl⟩), ((B3.out.setCell (p := ⟨w.heap.size, 0, none⟩) hle _).setCell (p := ⟨w.heap.size, 1, none⟩) hle _).setCell (p := ⟨w.heap.size, 2, none⟩) hle _⟩
              simp [results, Tryz.results34, go_sem, *]
            · have d1 : decide ((1024 : Int) < (k2 : Int)) = false := decide_eq_false (by omega)
              by_cases l2 : 1024 < k3
              · have HL : Hid (longQ (prX s, prY s)) := Lib.hid (.inr (q2.1 l2))
                have d2 : decide ((1024 : Int) < (k3 : Int)) = true := decide_eq_true (by omega)
                clear q1 q2
                go_wp2
                refine bodyPost_ret (v := .tuple #[.agg #[.bool false, .slice none 0 0, .slice none 0 0], .int .i64 5]) ?_ rfl ⟨_, _, rfl, .inr (.inl ⟨HO.out, HL.out, rfl, rfl⟩), ((B3.out.setCell (p := ⟨w.heap.size, 0, none⟩) hle _).setCell (p := ⟨w.heap.size, 1, none⟩) hle _).setCell (p := ⟨w.heap.size, 2, none⟩) hle _⟩
                simp [results, Tryz.results34, go_sem, *]
              · have d2 : decide ((1024 : Int) < (k3 : Int)) = false := decide_eq_false (by omega)
                have HL : Hid (¬ longQ (prX s, prY s)) := Lib.hid (by
                  rintro (h | h)
                  · exact l1 (q1.2 h)
                  · exact l2 (q2.2 h))
                have OF : Hid (Calls Tryz.prog 10 #[.agg #[.bool n2, .slice a2 k2 c2], .agg #[.bool false, .slice a3 k3 c3]] w3 fun e w' => ∃ v' E, e = .returned (.tuple #[v', .int .i64 E]) ∧ AnsV w' v' E (prX s) (prY s) ∧ Below w3.heap.size w3 w') := Lib.hid (by
                  obtain ⟨rfl, xs, s1, l1', t1, v1⟩ := zint_num I3.out
                  obtain ⟨ys, s2, l2', t2, v2⟩ := N3.out
                  have := rof_any3 (sgn (prX s)) a2 k2 c2 false a3 k3 c3 xs ys w3 s1 l1' (by have := sl_eq_len s1; omega) s2 l2' (by have := sl_eq_len s2; omega)
                  rw [v1, v2, show (!(sgn (prX s) == false)) = sgn (prX s) by cases sgn (prX s) <;> rfl, sg_sgn] at this
                  exact this)
                clear q1 q2 l1 l2 r0 r1 r2 f0 f1 f2 z1 z2
                go_wp2_with fail
                refine OF.out.mono ?_
                rintro e w4 ⟨v4, E, rfl, hA, b4⟩
                obtain ⟨n4, a4, k4, c4, a5, k5, c5, rfl⟩ := ansv_shape hA
                have R4 := Lib.hid (blk_below' b4 R3.out); have B4 := Lib.hid (below_of B3.out b4); have PO := Lib.hid (prs_ans HO.out HL.out hA)
                obtain ⟨⟨r0, r1, r2⟩, ⟨f0, f1, f2⟩, _⟩ := blk3 R4.out
                clear OF hA b4 p0 p1 d1 d2
                go_wp2
                refine bodyPost_ret (v := .tuple #[.agg #[.bool n4, .slice a4 k4 c4, .slice a5 k5 c5], .int .i64 E]) ?_ rfl ⟨_, _, rfl, PO.out.far3 R4.out, ((B4.out.setCell (p := ⟨w.heap.size, 0, none⟩) hle _).setCell (p := ⟨w.heap.size, 1, none⟩) hle _).setCell (p := ⟨w.heap.size, 2, none⟩) hle _⟩
                simp [results, Tryz.results34, go_sem, *]
end Go.Proofs.YthgmebnihpjnoaaGreatDoor
