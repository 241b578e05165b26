/- nat: shrink. -/
import Derived.Test.YtafeokkkbiaajabDoorGcdD
import Derived.Test.YtafeokkkbiaajabDoorQuoD
import Derived.Test.YtafeokkkbiaajabDoorCmp
import Derived.Deep.RegionWith
namespace Go.Proofs.YtafeokkkbiaajabDoor
open Go.RowKit Mth

/-- the number that lies behind a slice -/
def limbIn (w : World) (b off j : Nat) : Nat := match w.cell? ⟨b, off + j, none⟩ with | some (.int _ z) => z.toNat | _ => 0
def natIn (w : World) : Value → Nat
  | .slice (some a) n _ => val B64 ((List.range n).map (limbIn w a.block a.off))
  | _ => 0
theorem natIn_eq {w : World} {v : Value} {xs : List Nat} (h : Sl w .u64 v xs) : natIn w v = val B64 xs := by
  obtain ⟨ao, cap, rfl, h1, h2, h3, h4, h5⟩ := h
  by_cases hp : 0 < xs.length
  · obtain ⟨b, off, rfl, hb, hc⟩ := h5 hp
    have e : (List.range xs.length).map (limbIn w b off) = xs := by
      apply List.ext_getElem
      · simp
      · intro j hj1 hj2
        simp only [List.getElem_map, List.getElem_range, limbIn]
        rw [hc j hj2]
        simp [List.getD_eq_getElem?_getD, hj2]
    show val B64 ((List.range xs.length).map (limbIn w b off)) = _
    rw [e]
  · have : xs = [] := List.eq_nil_of_length_eq_zero (by omega)
    subst this
    cases ao <;> rfl
theorem natIn_num {w : World} {v : Value} {n : Nat} (h : Num w v n) : natIn w v = n := by
  obtain ⟨ys, h1, _, _, h4⟩ := h
  rw [natIn_eq h1, h4]

/-- what shrink's loop holds -/
def ShO (w wr : World) (base G : Nat) (va vb : Value) : Prop := ∃ A B : Nat, Own wr base va A ∧ Own wr base vb B ∧ (B = 0 ∨ inBlock va ≠ inBlock vb) ∧ B ≤ A ∧ A < Big ∧ Nat.gcd A B = G ∧ Below base w wr

set_option maxHeartbeats 800000 in
set_option maxRecDepth 100000 in
theorem shrink_any (va vb : Value) (A B base G : Nat) (w : World) (h1 : Own w base va A) (h2 : Own w base vb B) (hne : B = 0 ∨ inBlock va ≠ inBlock vb) (hle : B ≤ A) (hA : A < Big) (hG : Nat.gcd A B = G) (hbw : base ≤ w.heap.size) :
    Calls Tryd.prog 30 #[va, vb] w fun e w' => ∃ va vb A B, e = .returned (.tuple #[va, vb]) ∧ Own w' base va A ∧ Own w' base vb B ∧ Nat.gcd A B = G ∧ B < B64 ∧ B ≤ A ∧ A < Big ∧ Below base w w' := by
  have HS : Hid (ShO w w base G va vb) := Lib.hid ⟨A, B, h1, h2, hne, hle, hA, hG, (Below.refl w.heap.size w).mono hbw⟩
  have HBW := Lib.hid hbw
  clear h1 h2 hne hle hA hG hbw
  go_enter Tryd.func30, Tryd.ntmps30
  go_wp2
  go_loopw [0, 1] (fun a b wr => ShO w wr base G a b) (fun _ b wr => natIn wr b)
  case atStart => exact HS.out
  case round =>
    obtain ⟨A, B, o1, o2, hne, hle, hA, hG, hbel⟩ := hrel
    have O1 := Lib.hid o1; have O2 := Lib.hid o2; have LE := Lib.hid hle; have HA := Lib.hid hA; have HG := Lib.hid hG; have HBE := Lib.hid hbel
    have HNM := Lib.hid (natIn_num o2.num)
    have HSZ := Lib.hid (Nat.le_trans HBW.out hbel.size)
    rcases o2 with ⟨rfl, rfl⟩ | ⟨g2, n2, c2, R2, rfl, r2, hb2, hl2, hc2, hm2, hz2, lm2, tp2, hn2, hv2⟩
    · clear o1 hne hle hA hG hbel HS
      go_wp2
      go_ret2
      exact ⟨_, _, A, 0, rfl, O1.out, O2.out, HG.out, by have := B64_pos; omega, Nat.zero_le _, HA.out, HBE.out⟩
    · by_cases h1 : n2 ≤ 1
      · have hB : Hid (B < B64) := Lib.hid (by
          rw [← hv2]
          have h3 := val_lt (lim_take (by have := B64_pos; omega) lm2 n2)
          have h4 : B64 ^ (R2.take n2).length ≤ B64 ^ 1 := Nat.pow_le_pow_right (by have := B64_pos; omega) (by rw [List.length_take]; omega)
          rw [Nat.pow_one] at h4
          omega)
        have hd : ¬ 1 < n2 := by omega
        clear o1 hne hle hA hG hbel HS r2 hb2 lm2 tp2 hv2
        go_wp2
        go_ret2
        exact ⟨_, _, A, B, rfl, O1.out, O2.out, HG.out, hB.out, LE.out, HA.out, HBE.out⟩
      · have hlen2 : (R2.take n2).length = n2 := by rw [List.length_take]; omega
        have hBpos : 0 < B := by
          have := val_ge_top (B := B64) tp2 (by omega)
          have h5 : 0 < B64 ^ ((R2.take n2).length - 1) := Nat.pow_pos (by have := B64_pos; omega)
          omega
        rcases o1 with ⟨_, rfl⟩ | ⟨g1, n1, c1, R1, rfl, r1, hb1, hl1, hc1, hm1, hz1, lm1, tp1, hn1, hv1⟩
        · omega
        · have hgg : g1 ≠ g2 := by
            rcases hne with h | h
            · omega
            · intro e; exact h (by simp [inBlock, e])
          have hlen1 : (R1.take n1).length = n1 := by rw [List.length_take]; omega
          have z : 0 < B64 := by have := B64_pos; omega
          have hn12 : n2 ≤ n1 := by
            rcases Nat.lt_or_ge n1 n2 with h | h
            · have := val_lt_of_length B64_pos (lim_take z lm1 n1) tp2 (by omega)
              omega
            · exact h
          have hn1b : n1 ≤ 4096 := by
            rcases Nat.lt_or_ge 4096 n1 with h | h
            · have h6 := val_ge_top (B := B64) tp1 (by omega)
              have h9 : maxL = 4096 := rfl
              have h7 : B64 ^ maxL ≤ B64 ^ ((R1.take n1).length - 1) := Nat.pow_le_pow_right z (by omega)
              have h8 : Big = B64 ^ maxL := rfl
              clear h9
              omega
            · exact h
          obtain ⟨m, hm⟩ : ∃ m, n1 = m + 2 := ⟨n1 - 2, by omega⟩
          have s1 : Sl wr .u64 (.slice (some ⟨g1, 0, none⟩) n1 c1) (R1.take n1) := by
            have := r1.sl (off := 0) (n := n1) (cap := c1) (by omega) hc1 hm1 hn1
            rwa [List.drop_zero] at this
          have s2 : Sl wr .u64 (.slice (some ⟨g2, 0, none⟩) n2 c2) (R2.take n2) := by
            have := r2.sl (off := 0) (n := n2) (cap := c2) (by omega) hc2 hm2 hn2
            rwa [List.drop_zero] at this
          have LD := Lib.hid (leading_any _ _ _ _ m wr s1 s2 (lim_take z lm1 n1) (lim_take z lm2 n2) tp1 (by omega) (by omega) (by omega) (by omega))
          rw [hv1, hv2] at LD
          have hBn : Hid (B < B64 ^ n2) := Lib.hid (by rw [← hv2]; have := val_lt (lim_take z lm2 n2); rwa [hlen2] at this)
          have P1 := Lib.hid r1; have P2 := Lib.hid r2; have L1 := Lib.hid lm1; have L2 := Lib.hid lm2
          have GG := Lib.hid hgg; have HV1 := Lib.hid hv1; have HV2 := Lib.hid hv2; have TP1 := Lib.hid tp1; have TP2 := Lib.hid tp2
          have HN := Lib.hid (show base ≤ g1 ∧ base ≤ g2 ∧ n2 ≤ n1 ∧ n1 ≤ R1.length ∧ n1 ≤ c1 ∧ n2 ≤ R2.length ∧ n2 ≤ c2 ∧ c1 ≤ maxLen ∧ c2 ≤ maxLen ∧ n1 ≤ 4096 ∧ 2 ≤ n2 ∧ R1.length ≤ 16777217 ∧ R2.length ≤ 16777217 by omega)
          have BP := Lib.hid hBpos; have HL1 := Lib.hid hlen1; have HL2 := Lib.hid hlen2
          have hd : 1 < n2 := by omega
          clear hm hne hle hA hG hbel HS r1 r2 hb1 hb2 lm1 lm2 tp1 tp2 hv1 hv2 s1 s2 hgg hBpos hlen1 hlen2 hl1 hl2 hz1 hz2 z hc1 hm1 hn1 hc2 hm2 hn2
          go_wp2_with fail
          refine LD.out.mono ?_
          rintro e w1 ⟨M, hM, rfl, hah, hdr⟩
          have HM := Lib.hid hM; have HAH := Lib.hid hah; have HDR := Lib.hid hdr
          have SM := Lib.hid (simulate_any (A / M) (B / M) w1 hah (Nat.div_le_div_right LE.out))
          clear hM hah hdr
          obtain ⟨ah, hah⟩ : ∃ ah, ah = A / M := ⟨_, rfl⟩
          obtain ⟨bh, hbh⟩ : ∃ bh, bh = B / M := ⟨_, rfl⟩
          rw [← hah, ← hbh] at SM ⊢
          have EAH := Lib.hid hah; have EBH := Lib.hid hbh
          clear hah hbh
          go_wp2_with fail
          refine SM.out.mono ?_
          rintro e w2 ⟨u0, v0, u1, v1, ev, rfl, hsp, hu0, hv0, hu1, hv1, hb2⟩
          have SP := Lib.hid hsp; have U := Lib.hid (show u0 < B64 ∧ v0 < B64 ∧ u1 < B64 ∧ v1 < B64 from ⟨hu0, hv0, hu1, hv1⟩); have HB2 := Lib.hid hb2
          clear hsp hu0 hv0 hu1 hv1 hb2
          go_wp2_with fail
          have S0 : Str (w2.alloc (Obj.cells #[Value.int .u64 (u0 : Int), Value.int .u64 (v0 : Int), Value.int .u64 (u1 : Int), Value.int .u64 (v1 : Int), Value.bool ev] 71)) w2.heap.size u0 v0 u1 v1 ev := heap_alloc_new w2 _
          have B0 := (below_step HDR.out.below HB2.out).alloc (below_step HDR.out.below HB2.out).size (Obj.cells #[Value.int .u64 (u0 : Int), Value.int .u64 (v0 : Int), Value.int .u64 (u1 : Int), Value.int .u64 (v1 : Int), Value.bool ev] 71)
          refine (moves_any u0 v0 u1 v1 ev _).mono ?_
          rintro e w3 ⟨rfl, hb3⟩
          have S3 := S0.below hb3
          have B3 := Lib.hid (below_step B0 hb3)
          obtain ⟨k0, k1, k2, k3, k4⟩ := S3.cells
          have r1 := P1.out.below B3.out; have r2 := P2.out.below B3.out
          have s1 : Sl w3 .u64 (.slice (some ⟨g1, 0, none⟩) n1 c1) (R1.take n1) := by
            have h := HN.out
            have := r1.sl (off := 0) (n := n1) (cap := c1) (by omega) (by omega) (by omega) (by omega)
            rwa [List.drop_zero] at this
          have s2 : Sl w3 .u64 (.slice (some ⟨g2, 0, none⟩) n2 c2) (R2.take n2) := by
            have h := HN.out
            have := r2.sl (off := 0) (n := n2) (cap := c2) (by omega) (by omega) (by omega) (by omega)
            rwa [List.drop_zero] at this
          have SS1 := Lib.hid s1; have SS2 := Lib.hid s2; have Q1 := Lib.hid r1; have Q2 := Lib.hid r2
          clear S0 B0 hb3 S3 r1 r2 s1 s2
          by_cases h0 : v0 = 0
          · have hd2 : decide (v0 ≠ 0) = false := by simp [h0]
            have z : 0 < B64 := by have := B64_pos; omega
            have DV := Lib.hid (divide_any _ _ _ _ w3 SS1.out SS2.out (lim_take z L1.out n1) (lim_take z L2.out n2) TP1.out TP2.out (by have := HN.out; rw [HL2.out]; omega) (by have := HN.out; rw [HL1.out]; omega))
            rw [HV1.out, HV2.out] at DV
            clear h0 z k0 k1 k2 k3 k4
            rw [hd2]
            go_wp2_with fail
            refine DV.out.mono ?_
            rintro e w4 ⟨vq, vr, rfl, _, h5, h6⟩
            have H5 := Lib.hid h5; have B4 := Lib.hid (below_step B3.out h6); have B34 := Lib.hid h6
            have NR := Lib.hid (natIn_num h5.num)
            clear h5 h6
            go_wp2
            go_roundw
            case rel =>
              refine ⟨B, A % B, O2.out.below B4.out, H5.out.mono (Nat.le_trans HSZ.out B3.out.size), ?_, Nat.le_of_lt (Nat.mod_lt _ BP.out), Nat.lt_of_le_of_lt LE.out HA.out, ?_, HBE.out.trans (B4.out.mono HSZ.out)⟩
              · rcases H5.out with ⟨_, h⟩ | ⟨g, _, _, _, rfl, _, hg, _⟩
                · exact .inl h
                · right
                  have := Q2.out.lt
                  simp [inBlock]
                  omega
              · rw [← HG.out, Nat.gcd_comm A B, Nat.gcd_rec B A, Nat.gcd_comm]
            case measure => rw [HNM.out, NR.out]; exact Nat.mod_lt _ BP.out
          · have hd2 : decide (v0 ≠ 0) = true := by simp [h0]
            rcases SP.out with h | ⟨x1, x2, hgood⟩
            · exact absurd h h0
            · rw [EAH.out, EBH.out] at hgood
              obtain ⟨X1, X2, f1, f2, f3, f4, f5⟩ := good_whole HM.out hgood h0
              have AP := Lib.hid (apply_any g1 g2 c1 c2 n1 n2 R1 R2 u0 v0 u1 v1 ev w3 base X1 X2 Q1.out Q2.out GG.out (by have := HN.out; omega) (by have := HN.out; omega) (by have := HN.out; omega) (by have := HN.out; omega) (by have := HN.out; omega) (by have := HN.out; omega) (by have := HN.out; omega) (by have := HN.out; omega) (by have := HN.out; omega) L1.out L2.out (by have := HN.out; omega) U.out.1 U.out.2.1 U.out.2.2.1 U.out.2.2.2 (by rw [HV1.out, HV2.out]; exact f1) (by rw [HV1.out, HV2.out]; exact f2) (Nat.lt_of_le_of_lt f4 hBn.out) (Nat.lt_trans f3 (Nat.lt_of_le_of_lt f4 hBn.out)))
              have F := Lib.hid (show X2 < X1 ∧ X1 ≤ B ∧ Nat.gcd X1 X2 = Nat.gcd A B from ⟨f3, f4, f5⟩)
              clear f1 f2 f3 f4 f5 hgood h0
              rw [hd2]
              go_wp2_with fail
              refine AP.out.mono ?_
              rintro e w4 ⟨m1, m2, R1', R2', rfl, q1, q2, t1, t2, t3, t4, t5, t6, t7, t8, t9, t10, h6⟩
              have ow1 : Own w4 base (.slice (some ⟨g1, 0, none⟩) m1 c1) X1 := by
                have := HN.out
                exact .inr ⟨g1, m1, c1, R1', rfl, q1, by omega, by omega, by omega, by omega, by omega, t5, t7, by omega, t9⟩
              have ow2 : Own w4 base (.slice (some ⟨g2, 0, none⟩) m2 c2) X2 := by
                have := HN.out
                exact .inr ⟨g2, m2, c2, R2', rfl, q2, by omega, by omega, by omega, by omega, by omega, t6, t8, by omega, t10⟩
              have W1 := Lib.hid ow1; have W2 := Lib.hid ow2
              have NR := Lib.hid (natIn_num ow2.num)
              have B4 := Lib.hid ((B3.out.mono HSZ.out).trans h6)
              clear ow1 ow2 q1 q2 t1 t2 t3 t4 t5 t6 t7 t8 t9 t10 h6
              go_wp2
              go_roundw
              case rel =>
                refine ⟨X1, X2, W1.out, W2.out, .inr ?_, Nat.le_of_lt F.out.1, Nat.lt_of_le_of_lt (Nat.le_trans F.out.2.1 LE.out) HA.out, F.out.2.2.trans HG.out, HBE.out.trans B4.out⟩
                have := GG.out
                simpa [inBlock] using this
              case measure => rw [HNM.out, NR.out]; exact Nat.lt_of_lt_of_le F.out.1 F.out.2.1
end Go.Proofs.YtafeokkkbiaajabDoor

/- nat: Gcd. -/
namespace Go.Proofs.YtafeokkkbiaajabDoor
open Go.RowKit Mth

/-- what Gcd answers -/
def gcdN (a b : Nat) : Nat := if Big ≤ a ∨ Big ≤ b then 0 else Nat.gcd a b
def gcdE (a b : Nat) : Int := if Big ≤ a ∨ Big ≤ b then 5 else 0
theorem gcd_long {a b : Nat} (h : Big ≤ a ∨ Big ≤ b) : gcdN a b = 0 ∧ gcdE a b = 5 := ⟨if_pos h, if_pos h⟩
theorem gcd_fine {a b : Nat} (h : ¬ (Big ≤ a ∨ Big ≤ b)) : gcdN a b = Nat.gcd a b ∧ gcdE a b = 0 := ⟨if_neg h, if_neg h⟩
/-- where Gcd stands with the greater number ahead -/
def GcM (w wx : World) (G : Nat) (s0 s1 : Value) : Prop := ∃ xs ys : List Nat, Sl wx .u64 s0 xs ∧ Sl wx .u64 s1 ys ∧ Lim B64 xs ∧ Lim B64 ys ∧ Top xs ∧ Top ys ∧ val B64 ys ≤ val B64 xs ∧ Nat.gcd (val B64 xs) (val B64 ys) = G ∧ val B64 xs < Big ∧ Below w.heap.size w wx
/-- and where the lower one has one limb at most -/
def GcL (w wx : World) (G : Nat) (s0 s1 : Value) : Prop := ∃ xs ys : List Nat, Sl wx .u64 s0 xs ∧ Sl wx .u64 s1 ys ∧ Lim B64 xs ∧ Lim B64 ys ∧ Top xs ∧ Top ys ∧ ys.length ≤ 1 ∧ Nat.gcd (val B64 xs) (val B64 ys) = G ∧ Below w.heap.size w wx

set_option maxHeartbeats 2000000 in
set_option maxRecDepth 100000 in
theorem gcd_any (v1 v2 : Value) (xs ys : List Nat) (w : World) (h1 : Sl w .u64 v1 xs) (h2 : Sl w .u64 v2 ys) (l1 : Lim B64 xs) (l2 : Lim B64 ys) :
    Calls Tryd.prog 14 #[v1, v2] w fun e w' => ∃ v', e = .returned (.tuple #[v', .int .i64 (gcdE (val B64 xs) (val B64 ys))]) ∧ Own w' w.heap.size v' (gcdN (val B64 xs) (val B64 ys)) ∧ Below w.heap.size w w' := by
  have T1 := Lib.hid (trim_any h1); have T2 := Lib.hid (trim_any h2)
  have G1 := Lib.hid (long_iff l1); have G2 := Lib.hid (long_iff l2)
  have e1 : val B64 (trimL xs) = val B64 xs := val_trimL _ _
  have e2 : val B64 (trimL ys) = val B64 ys := val_trimL _ _
  have k1 := lim_trimL l1; have k2 := lim_trimL l2; have p1 := top_trimL xs; have p2 := top_trimL ys
  rw [← e1] at G1 ⊢
  rw [← e2] at G2 ⊢
  clear h1 h2 l1 l2 e1 e2
  generalize trimL xs = ts at *
  generalize trimL ys = us at *
  have K1 := Lib.hid k1; have K2 := Lib.hid k2; have P1 := Lib.hid p1; have P2 := Lib.hid p2
  clear k1 k2 p1 p2
  go_enter Tryd.func14, Tryd.ntmps14
  go_wp2_with fail
  refine T1.out.mono ?_
  rintro e w' ⟨va, rfl, s1, rfl⟩
  go_wp2_with fail
  refine T2.out.mono ?_
  rintro e w' ⟨vb, rfl, s2, rfl⟩
  have S1 := Lib.hid s1; have S2 := Lib.hid s2
  obtain ⟨a0, c0, rfl⟩ := s1.shape
  obtain ⟨a1, c1, rfl⟩ := s2.shape
  clear s1 s2
  by_cases g1 : 4096 < ts.length
  · have hd : decide (4096 < ts.length) = true := decide_eq_true g1
    have E := Lib.hid (gcd_long (b := val B64 us) (.inl (G1.out.1 g1)))
    clear g1
    go_wp2_with fail
    refine (tooLong_any S1.out).mono ?_
    rintro e w' ⟨rfl, rfl⟩
    go_wp2
    go_ret2
    exact ⟨_, by rw [E.out.2]; rfl, by rw [E.out.1]; exact .inl ⟨rfl, rfl⟩, Below.refl _ _⟩
  · have hd : decide (4096 < ts.length) = false := decide_eq_false g1
    by_cases g2 : 4096 < us.length
    · have hd2 : decide (4096 < us.length) = true := decide_eq_true g2
      have E := Lib.hid (gcd_long (a := val B64 ts) (.inr (G2.out.1 g2)))
      clear g1 g2
      go_wp2_with fail
      refine (tooLong_any S1.out).mono ?_
      rintro e w' ⟨rfl, rfl⟩
      go_wp2_with fail
      refine (tooLong_any S2.out).mono ?_
      rintro e w' ⟨rfl, rfl⟩
      go_wp2
      go_ret2
      exact ⟨_, by rw [E.out.2]; rfl, by rw [E.out.1]; exact .inl ⟨rfl, rfl⟩, Below.refl _ _⟩
    · have hd2 : decide (4096 < us.length) = false := decide_eq_false g2
      have NB : Hid (¬ (Big ≤ val B64 ts ∨ Big ≤ val B64 us)) := Lib.hid (fun h => h.elim (fun h => g1 (G1.out.2 h)) (fun h => g2 (G2.out.2 h)))
      have E := Lib.hid (gcd_fine NB.out)
      have LT : Hid (val B64 ts < Big ∧ val B64 us < Big) := Lib.hid (by have := NB.out; omega)
      clear g1 g2 G1 G2
      go_wp2_with fail
      refine (tooLong_any S1.out).mono ?_
      rintro e w' ⟨rfl, rfl⟩
      go_wp2_with fail
      refine (tooLong_any S2.out).mono ?_
      rintro e w' ⟨rfl, rfl⟩
      go_wp2_with fail
      refine (cmp_any _ _ ts us _ S1.out S2.out K1.out K2.out).mono ?_
      rintro e w1 ⟨rfl, hb1⟩
      have B1 := Lib.hid hb1
      clear hb1
      go_upto_if 19 with fail
      go_cut [0, 1] (fun s0 s1 wx => GcM w wx (Nat.gcd (val B64 ts) (val B64 us)) s0 s1)
      case first =>
        by_cases hlt : val B64 ts < val B64 us
        · have hc : cmp3 (val B64 ts) (val B64 us) = -1 := by unfold cmp3; rw [if_pos hlt]
          have HLT := Lib.hid hlt
          rw [hc]
          clear hc hlt
          go_wp2
          go_meet
          exact ⟨us, ts, S2.out.below B1.out, S1.out.below B1.out, K2.out, K1.out, P2.out, P1.out, Nat.le_of_lt HLT.out, Nat.gcd_comm _ _, LT.out.2, B1.out⟩
        · have hc : cmp3 (val B64 ts) (val B64 us) = 0 ∨ cmp3 (val B64 ts) (val B64 us) = 1 := by unfold cmp3; rw [if_neg hlt]; split <;> simp
          have HLT := Lib.hid hlt
          clear hlt
          rcases hc with hc | hc
          all_goals
            rw [hc]
            clear hc
            go_wp2
            go_meet
            exact ⟨ts, us, S1.out.below B1.out, S2.out.below B1.out, K1.out, K2.out, P1.out, P2.out, Nat.le_of_not_lt HLT.out, rfl, LT.out.1, B1.out⟩
      case rest =>
        obtain ⟨xs, ys, s1, s2, l1, l2, t1, t2, hle, hg, hA, hb⟩ := hcut
        obtain ⟨aa, ca, rfl⟩ := s1.shape
        obtain ⟨ab, cb, rfl⟩ := s2.shape
        have S1 := Lib.hid s1; have S2 := Lib.hid s2; have L1 := Lib.hid l1; have L2 := Lib.hid l2; have R1 := Lib.hid t1; have R2 := Lib.hid t2; have LE := Lib.hid hle; have HG := Lib.hid hg; have HA := Lib.hid hA; have HB := Lib.hid hb
        have hl2 := s2.len
        clear s1 s2 l1 l2 t1 t2 hle hg hA hb hd hd2
        go_upto_if 24 with fail
        go_cut [0, 1] (fun s0 s1 wx => GcL w wx (Nat.gcd (val B64 ts) (val B64 us)) s0 s1)
        case first =>
          by_cases hlen : 1 < ys.length
          · go_wp2_with fail
            refine (fresh_own S1.out L1.out).mono ?_
            rintro e w2 ⟨va, rfl, ho, hb2⟩
            have O1 := Lib.hid ho; have B2 := Lib.hid hb2
            clear ho hb2
            go_wp2_with fail
            refine (fresh_own (S2.out.below B2.out) L2.out).mono ?_
            rintro e w3 ⟨vb, rfl, ho, hb3⟩
            have hne : val B64 ys = 0 ∨ inBlock va ≠ inBlock vb := by
              rcases O1.out with ⟨_, h⟩ | ⟨g, _, _, _, rfl, hrow, _⟩
              · left; have := LE.out; omega
              · rcases ho with ⟨_, h⟩ | ⟨g', _, _, _, rfl, _, hg', _⟩
                · exact .inl h
                · right
                  have := hrow.lt
                  simp [inBlock]
                  omega
            have SH := Lib.hid (shrink_any va vb (val B64 xs) (val B64 ys) wc.heap.size _ w3 (O1.out.below hb3) (ho.mono B2.out.size) hne LE.out HA.out rfl (Nat.le_trans B2.out.size hb3.size))
            have B3 := Lib.hid (below_step B2.out hb3)
            clear ho hb3 hne hlen
            go_wp2_with fail
            refine SH.out.mono ?_
            rintro e w4 ⟨vc, vd, C, D, rfl, o3, o4, hg, hD, _, _, hb4⟩
            obtain ⟨xs', s3, l3, t3, e3⟩ := o3.num
            obtain ⟨ys', s4, l4, t4, e4⟩ := o4.num
            have HF : Hid (GcL w w4 (Nat.gcd (val B64 ts) (val B64 us)) vc vd) := Lib.hid ⟨xs', ys', s3, s4, l3, l4, t3, t4, length_of_val B64_pos t4 1 (by rw [e4, Nat.pow_one]; exact hD), by rw [e3, e4, hg, HG.out], below_step HB.out (B3.out.trans hb4)⟩
            clear o3 o4 hg hD hb4 s3 l3 t3 e3 s4 l4 t4 e4
            go_wp2
            go_meet
            exact HF.out
          · have hlen' : ¬ (1 : Int) < (ys.length : Int) := by omega
            have HL := Lib.hid hlen
            go_wp2
            go_meet
            exact ⟨xs, ys, S1.out, S2.out, L1.out, L2.out, R1.out, R2.out, by have := HL.out; omega, HG.out, HB.out⟩
        case rest =>
          obtain ⟨ms, ds, s3, s4, l3, l4, t3, t4, hl, hg, hb⟩ := hcut
          clear S1 S2 L1 L2 R1 R2 LE HG HA HB hl2
          obtain ⟨ad, cd, rfl⟩ := s3.shape
          obtain ⟨ae, ce, rfl⟩ := s4.shape
          have S3 := Lib.hid s3; have L3 := Lib.hid l3; have HG := Lib.hid hg; have HB := Lib.hid hb
          by_cases h0 : ds.length = 0
          · have hd0 := len_eq h0
            have hv : Hid (val B64 ms = Nat.gcd (val B64 ts) (val B64 us)) := Lib.hid (by rw [← hg, List.eq_nil_of_length_eq_zero h0]; simp [val])
            clear h0 s3 s4 l3 l4 t3 t4 hl hg hb
            go_wp2_with fail
            refine (fresh_own S3.out L3.out).mono ?_
            rintro e w5 ⟨v5, rfl, ho, hb5⟩
            have O5 := Lib.hid ho; have B5 := Lib.hid hb5
            clear ho hb5
            go_wp2
            go_ret2
            exact ⟨_, by rw [E.out.2]; rfl, by rw [E.out.1, ← hv.out]; exact O5.out.mono HB.out.size, below_step HB.out B5.out⟩
          · have hd0 := len_ne h0
            have h1 : ds.length = 1 := by omega
            have hy := list_one h1
            obtain ⟨bb, boff, bcap, e9, hb1, hb2, hbblt, hbc⟩ := s4.pos (by omega)
            simp only [Value.slice.injEq, true_and] at e9
            obtain ⟨rfl, rfl⟩ := e9
            have hb0 := hbc 0 (by omega)
            rw [Nat.add_zero] at hb0
            generalize hd : ds.getD 0 0 = d at *
            have hdlt : d < B64 := by rw [← hd]; exact l4 0
            have hdp : 0 < d := by
              have := tlen_top ds (by rw [t4]; omega)
              rw [t4, h1, hd] at this
              omega
            have hyv : val B64 ds = d := by rw [hy]; simp [val]
            rw [hyv] at hg
            have hm : Hid (Nat.gcd d (val B64 ms % d) = Nat.gcd (val B64 ts) (val B64 us)) := Lib.hid (by rw [← hg, Nat.gcd_comm (val B64 ms) d, Nat.gcd_rec d (val B64 ms), Nat.gcd_comm])
            have RB : Hid (∀ wx, Sl wx .u64 (.slice ad ms.length cd) ms → Calls Tryd.prog 33 #[.slice ad ms.length cd, .int .u64 ((d : Nat) : Int)] wx fun e w' => e = .returned (.int .u64 ((val B64 ms % d : Nat) : Int)) ∧ Drawn wx w') := Lib.hid (fun wx h => restByLimb_drawn _ ms d wx h l3 hdp hdlt)
            have hml : val B64 ms % d < d := Nat.mod_lt _ hdp
            have GL : Hid (∀ wx, Calls Tryd.prog 32 #[.int .u64 ((d : Nat) : Int), .int .u64 ((val B64 ms % d : Nat) : Int)] wx fun e w' => e = .returned (.int .u64 ((Nat.gcd d (val B64 ms % d) : Nat) : Int)) ∧ Drawn wx w') := Lib.hid (fun wx => gcdLimbs_any d (val B64 ms % d) (by omega) wx)
            have hgl : Nat.gcd d (val B64 ms % d) < B64 := Nat.lt_of_le_of_lt (Nat.le_of_dvd hdp (Nat.gcd_dvd_left _ _)) hdlt
            have OF : Hid (∀ wx, Calls Tryd.prog 13 #[.int .u64 ((Nat.gcd d (val B64 ms % d) : Nat) : Int)] wx fun e w' => ∃ v', e = .returned v' ∧ Own w' wx.heap.size v' (Nat.gcd d (val B64 ms % d)) ∧ Below wx.heap.size wx w') := Lib.hid (fun wx => of_own _ hgl wx)
            rw [h1] at hb1 ⊢
            clear s3 s4 l3 l4 t3 t4 hl hg hb hbc hy hd hdlt hdp hyv hml hgl h0 hd0 h1
            generalize val B64 ms % d = rr at *
            generalize Nat.gcd d rr = gg at *
            go_wp2
            go_region_with (first
              | (go_at_call 33; refine (RB.out _ ?_).mono ?_; exact S3.out; rintro e w' ⟨rfl, mm, rfl⟩)
              | (go_at_call 32; refine (GL.out _).mono ?_; rintro e w' ⟨rfl, mm, rfl⟩)
              | (go_at_call 13; refine (OF.out _).mono ?_; rintro e w' ⟨v', rfl, ho, hb⟩; have OO := Lib.hid ho; have BB := Lib.hid hb; clear ho hb))
            all_goals
              go_wp2
              go_ret2
              refine ⟨v', by rw [E.out.2]; rfl, ?_, ?_⟩
              · rw [E.out.1, ← hm.out]
                refine OO.out.mono ?_
                exact HB.out.size
              · refine below_step ?_ BB.out
                exact ⟨HB.out.os, HB.out.tape, HB.out.output, HB.out.size, HB.out.block⟩
end Go.Proofs.YtafeokkkbiaajabDoor
