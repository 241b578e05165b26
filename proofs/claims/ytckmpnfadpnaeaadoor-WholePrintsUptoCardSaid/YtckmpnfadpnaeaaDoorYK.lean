/- tribunalref02: Times. -/
import Derived.Test.YtckmpnfadpnaeaaDoorYH
import Derived.Test.YtckmpnfadpnaeaaDoorTiMath
set_option linter.unusedVariables false
set_option linter.unusedSimpArgs false
namespace Go.Proofs.YtckmpnfadpnaeaaDoor
open Go.RowKit Mth

/-- make([]uint16, n) -/
theorem make_dig {w : World} {ops : Array Oper} {rest : List Oper} {o : Oper} {a : Act} {Q : Exit → Act → World → Prop}
    (hg : o.guard = none) (l c : Operand) (hop : o.op = Op.makeSlice 60 l c) (L C : Int) (n : Nat) (hl : a.eval l = .int .i64 L) (hc : a.eval c = .int .i64 C) (hL : L = (n : Int)) (hC : C = (n : Int))
    (hn : n ≤ 16777217)
    (hK : ∀ w', Row w' 98 .u16 w.heap.size (List.replicate n 0) → Below w.heap.size w w' → wpList Tryd.prog ops Q rest (a.put o.dst (.slice (some ⟨w.heap.size, 0, none⟩) n n)) w') :
    wpList Tryd.prog ops Q (o :: rest) a w := by
  obtain ⟨i0, hi, hz0, hz1, hz2⟩ := info_parts info_u16
  refine wpList_make_full w hg l c 60 hop w.heap.size 98 i0 _ 1 Tryd.underlying60 hi hz0 hz1 .i64 .i64 L C n hl hc hL hC (by rw [hz2]; omega) (by unfold maxLen; omega) (Nat.le_refl _) ?_
  intro w' hown hgrow
  rw [zeros_own] at hown
  exact hK w' (row_of_own hown).1 ((Below.refl _ _).grown hgrow (Nat.le_refl _) (fun k e => by simp at e))
theorem grown_drawn {a w : World} {row : Option Nat} (h : a.grownBy w row) (n : Nat) : a.grownBy (w.drewN n) row := grown_trans' h ⟨rfl, rfl, rfl, Nat.le_refl _, fun _ _ _ => rfl⟩
theorem times_sg (x y : Int) : sg (!(sgn x == sgn y)) (x.natAbs * y.natAbs) = x * y := by
  have hx := sg_sgn x
  have hy := sg_sgn y
  generalize x.natAbs = m at *
  generalize y.natAbs = n at *
  generalize sgn x = b at *
  generalize sgn y = c at *
  subst hx hy
  cases b <;> cases c <;> simp [sg, Int.neg_mul, Int.mul_neg]

/-- what the loops of Times hold -/
def TimO (w1 wr : World) (g : Nat) (xs ys : List Nat) (i : Value) : Prop := ∃ (k : Nat) (R : List Nat), k ≤ xs.length ∧ i = .int .i64 k ∧ ProdT R xs ys k ∧ Row wr 98 .u16 g R ∧ w1.grownBy wr (some g)
def TimI (w1 wr : World) (g : Nat) (R ys : List Nat) (x i : Nat) (c j : Value) : Prop := ∃ (k cc : Nat) (R' : List Nat), j = .int .i64 k ∧ c = .int .u32 (cc : Int) ∧ k ≤ ys.length ∧ RowU R R' ys x i k cc ∧ Row wr 98 .u16 g R' ∧ w1.grownBy wr (some g)

set_option maxHeartbeats 4000000 in
set_option maxRecDepth 100000 in
theorem times_any2 (va vb : Value) (x y : Int) (w : World) (ha : ZV w va x) (hb : ZV w vb y) (p q : Nat) (hx : x.natAbs < B16 ^ p) (hy : y.natAbs < B16 ^ q) (hpq : p + q ≤ 16777216) :
    Calls Tryd.prog 40 #[va, vb] w fun e w' => ∃ v', e = .returned v' ∧ ZV w' v' (x * y) ∧ Below w.heap.size w w' := by
  obtain ⟨n1, a1, k1, c1, rfl⟩ := ha.shape
  obtain ⟨n2, a2, k2, c2, rfl⟩ := hb.shape
  obtain ⟨rfl, xs, s1, l1, t1, e1, rfl⟩ := ha.parts
  obtain ⟨rfl, ys, s2, l2, t2, e2, rfl⟩ := hb.parts
  rw [← e1] at hx; rw [← e2] at hy
  have hxl := length_of_val B16_pos t1 p hx
  have hyl := length_of_val B16_pos t2 q hy
  have hlen : xs.length + ys.length ≤ 16777216 := by omega
  have FIN : Hid (∀ R, ProdT R xs ys xs.length → sg (!(sgn x == sgn y)) (val B16 R) = x * y) := Lib.hid (fun R h => by rw [prodT_end h, e1, e2]; exact times_sg x y)
  have hc1 : c1 ≤ 9223372036854775807 := by obtain ⟨_, _, e, _, h, _⟩ := s1; simp only [Value.slice.injEq] at e; unfold maxLen at h; omega
  have hc2 : c2 ≤ 9223372036854775807 := by obtain ⟨_, _, e, _, h, _⟩ := s2; simp only [Value.slice.injEq] at e; unfold maxLen at h; omega
  have S1 := Lib.hid s1; have S2 := Lib.hid s2; have L1 := Lib.hid l1; have L2 := Lib.hid l2
  clear ha hb s1 s2 l1 l2 t1 t2 hx hy e1 e2 hpq hxl hyl
  obtain ⟨L, hL⟩ : ∃ L, L = xs.length + ys.length := ⟨_, rfl⟩
  have HL := Lib.hid hL
  have hxl2 : xs.length ≤ 16777216 := by omega
  have hyl2 : ys.length ≤ 16777216 := by omega
  rw [← hL] at hlen
  clear hL
  generalize sgn x = bx at *
  generalize sgn y = by' at *
  go_enter Tryd.func40, Tryd.ntmps40
  go_wp2_with (at_make; (obtain ⟨W, eW, h1, h2, h3, bel, hsz⟩ := alloc3 w (Obj.cells #[Value.bool bx, Value.slice a1 xs.length c1] 62) (Obj.cells #[Value.bool by', Value.slice a2 ys.length c2] 62) (Obj.cells #[Value.bool false, Value.slice none 0 0] 62)); rw [eW]; refine make_dig rfl _ _ rfl _ _ L rfl rfl (by have := HL.out; omega) (by have := HL.out; omega) (by omega) ?_; intro w1 hrow hb1; have H1 := Lib.hid h1; have H2 := Lib.hid h2; have H3 := Lib.hid h3; have HSZ := Lib.hid hsz; have BEL := Lib.hid bel; have HROW0 := Lib.hid hrow; have HB0 := Lib.hid hb1; clear eW bel h1 h2 h3 hsz hrow hb1)
  have bel := BEL.out
  have hrow := HROW0.out; have hb1 := HB0.out
  have XC0 : Hid (∀ k, k < xs.length → ∃ b off, a1 = some ⟨b, off, none⟩ ∧ b < W.heap.size ∧ W.cell? ⟨b, off + k, none⟩ = some (.int .u16 ((xs.getD k 0 : Nat) : Int))) := Lib.hid (fun k h => by
    obtain ⟨b, off, cap, e, _, _, hlt, hc⟩ := (S1.out.below bel).pos (by omega)
    simp only [Value.slice.injEq] at e
    exact ⟨b, off, e.1, hlt, hc k h⟩)
  have YC0 : Hid (∀ k, k < ys.length → ∃ b off, a2 = some ⟨b, off, none⟩ ∧ b < W.heap.size ∧ W.cell? ⟨b, off + k, none⟩ = some (.int .u16 ((ys.getD k 0 : Nat) : Int))) := Lib.hid (fun k h => by
    obtain ⟨b, off, cap, e, _, _, hlt, hc⟩ := (S2.out.below bel).pos (by omega)
    simp only [Value.slice.injEq] at e
    exact ⟨b, off, e.1, hlt, hc k h⟩)
  clear bel HROW0 HB0
  rw [HL.out] at hrow
  obtain ⟨g, hg⟩ : ∃ g, W.heap.size = g := ⟨_, rfl⟩
  rw [hg] at hrow hb1
  have HG := Lib.hid hg
  have BOX : Hid (∀ wr, w1.grownBy wr (some g) → wr.heap[w.heap.size]? = some (.cells #[.bool bx, .slice a1 xs.length c1] 62 (0, 0)) ∧ wr.heap[w.heap.size + 1]? = some (.cells #[.bool by', .slice a2 ys.length c2] 62 (0, 0)) ∧ wr.heap[w.heap.size + 2]? = some (.cells #[.bool false, .slice none 0 0] 62 (0, 0)) ∧ Below w.heap.size w wr) := Lib.hid (fun wr h => by
    have hs := HSZ.out
    have hle := hb1.size
    have hbw : Below w.heap.size w w1 := BEL.out.trans (hb1.mono (by omega))
    refine ⟨(h.block _ (by omega) (by simp; omega)).trans ((hb1.block _ (by omega)).trans H1.out), (h.block _ (by omega) (by simp; omega)).trans ((hb1.block _ (by omega)).trans H2.out), (h.block _ (by omega) (by simp; omega)).trans ((hb1.block _ (by omega)).trans H3.out), below_of_grown hbw h (by omega) (by omega)⟩)
  have XC : Hid (∀ wr, w1.grownBy wr (some g) → ∀ k, k < xs.length → ∃ b off, a1 = some ⟨b, off, none⟩ ∧ wr.cell? ⟨b, off + k, none⟩ = some (.int .u16 ((xs.getD k 0 : Nat) : Int))) := Lib.hid (fun wr h k hk => by
    obtain ⟨b, off, e, hlt, hc⟩ := XC0.out k hk
    exact ⟨b, off, e, h.cell ((hb1.cell (p := ⟨b, off + k, none⟩) (by show b < g; omega)).trans hc) (by simp; omega)⟩)
  have YC : Hid (∀ wr, w1.grownBy wr (some g) → ∀ k, k < ys.length → ∃ b off, a2 = some ⟨b, off, none⟩ ∧ wr.cell? ⟨b, off + k, none⟩ = some (.int .u16 ((ys.getD k 0 : Nat) : Int))) := Lib.hid (fun wr h k hk => by
    obtain ⟨b, off, e, hlt, hc⟩ := YC0.out k hk
    exact ⟨b, off, e, h.cell ((hb1.cell (p := ⟨b, off + k, none⟩) (by show b < g; omega)).trans hc) (by simp; omega)⟩)
  rw [hg]
  have HROW := Lib.hid hrow
  clear XC0 YC0 H1 H2 H3 hg hrow hb1
  go_wp2_with fail
  go_loopw [6] (fun i wr => TimO w1 wr g xs ys i) (fun i _ => xs.length - (intOf i).toNat)
  case atStart => exact ⟨0, _, Nat.zero_le _, rfl, prodT_zero xs ys, HROW.out, World.grownBy.refl _ _⟩
  case round =>
    obtain ⟨k, R, hk, rfl, hP, hrow, hgr⟩ := hrel
    have HP := Lib.hid hP; have HR := Lib.hid hrow; have HGR := Lib.hid hgr
    obtain ⟨g1, g2, g3, hbw⟩ := BOX.out _ hgr
    obtain ⟨p0, p1, _, _, _⟩ := blk2 g1
    obtain ⟨q0, q1, _, _, _⟩ := blk2 g2
    by_cases hlt : k < xs.length
    · obtain ⟨b, off, rfl, _⟩ := XC.out _ hgr k hlt
      have hRl := hP.len
      rw [← HL.out] at hRl
      have HX := Lib.hid (L1.out k)
      have HC : Hid (∀ wr, w1.grownBy wr (some g) → wr.cell? ⟨b, off + k, none⟩ = some (.int .u16 ((xs.getD k 0 : Nat) : Int))) := Lib.hid (fun wr h => by
        obtain ⟨b', off', e, hc⟩ := XC.out _ h k hlt
        simp only [Option.some.injEq, Addr.mk.injEq, and_true] at e
        obtain ⟨rfl, rfl⟩ := e
        exact hc)
      have END : Hid (∀ R' c, RowU R R' ys (xs.getD k 0) k ys.length c → ProdT (R'.set (k + ys.length) c) xs ys (k + 1)) := Lib.hid (fun R' c h => rowU_end hP h L1.out L2.out hlt)
      have START := Lib.hid (rowU_zero ys (xs.getD k 0) k hP.lim)
      have hkL : k + ys.length < L := by have := HL.out; omega
      generalize xs.getD k 0 = x at *
      have HRL := Lib.hid hRl
      clear g1 g2 g3 hbw hRl hP hrow hgr
      obtain ⟨wo, rfl⟩ : ∃ wo : World, wo = wr := ⟨_, rfl⟩
      go_wp2
      go_loopw [7, 8] (fun c j wr => TimI w1 wr g R ys x k c j) (fun _ j _ => ys.length - (intOf j).toNat)
      case atStart => exact ⟨0, 0, R, rfl, rfl, Nat.zero_le _, START.out, HR.out, HGR.out⟩
      case round =>
        obtain ⟨j, c, R', rfl, rfl, hjb, hU, hrow, hgr⟩ := hrel
        clear p0 p1 q0 q1
        obtain ⟨g1, g2, g3, hbw⟩ := BOX.out _ hgr
        obtain ⟨p0, p1, _, _, _⟩ := blk2 g1
        obtain ⟨q0, q1, _, _, _⟩ := blk2 g2
        have HU := Lib.hid hU
        have HRW := Lib.hid hrow; have HGW := Lib.hid hgr
        by_cases hj : j < ys.length
        · obtain ⟨b2, off2, rfl, cy⟩ := YC.out _ hgr j hj
          have cx := HC.out _ hgr
          have co : wr.cell? ⟨g, k + j, none⟩ = some (.int .u16 ((R'.getD (k + j) 0 : Nat) : Int)) := hrow.cell (by rw [hU.row.len, HRL.out]; omega)
          have HST := Lib.hid (rowU_step hU HX.out L2.out (by rw [HRL.out]; omega))
          have hxb := HX.out
          have hob := hU.row.lim (k + j)
          have hyb := L2.out j
          have hcb := hU.row.clt
          have hle := mh_le hob hxb hyb hcb
          generalize ys.getD j 0 = y at *
          generalize R'.getD (k + j) 0 = o at *
          unfold B16 at hxb hob hyb hcb
          have hin : k + j < L := by omega
          have hsum : IntKind.i64.wrap ((k : Int) + (j : Int)) = ((k + j : Nat) : Int) := by rw [IntKind.wrap_i64]; omega
          generalize hz : k + j = z at *
          have HZ := Lib.hid hz; clear hz
          have w1' : IntKind.u32.wrap ((x : Int) * (y : Int)) = ((x * y : Nat) : Int) := by rw [← Int.natCast_mul, IntKind.wrap_u32]; omega
          have w2' : IntKind.u32.wrap ((c : Int) + (o : Int)) = ((c + o : Nat) : Int) := by rw [IntKind.wrap_u32]; omega
          have w3' : IntKind.u32.wrap (((c + o : Nat) : Int) + ((x * y : Nat) : Int)) = ((c + o + x * y : Nat) : Int) := by rw [IntKind.wrap_u32]; omega
          have w4' : IntKind.u32.wrap (o : Int) = (o : Int) := by rw [IntKind.wrap_u32]; omega
          have w5' : IntKind.u32.wrap (x : Int) = (x : Int) := by rw [IntKind.wrap_u32]; omega
          have w6' : IntKind.u32.wrap (y : Int) = (y : Int) := by rw [IntKind.wrap_u32]; omega
          have hmS : mhS o x y c = (c + o + x * y) % 65536 := by unfold mhS; omega
          have hmC : mhC o x y c = (c + o + x * y) / 65536 := by unfold mhC; omega
          have hle' : c + o + x * y ≤ 4294967295 := by omega
          generalize c + o + x * y = sm at *
          generalize c + o = om at *
          generalize x * y = xy at *
          have hfr0 : wr.frozen? ⟨g, z, none⟩ = false := HRW.out.free _
          have hst : IntKind.u16.wrap (sm : Int) = ((mhS o x y c : Nat) : Int) := by rw [IntKind.wrap_u16]; omega
          have hst2 : (sm : Int) % 65536 = ((mhS o x y c : Nat) : Int) := by omega
          have HCAR : Hid ((sm : Int) / 65536 = ((mhC o x y c : Nat) : Int)) := Lib.hid (by omega)
          clear hmS hmC hU hrow hgr g1 g2 g3 hbw
          go_wp2
          go_quiet (fail)
          go_wp2
          go_roundw
          case rel =>
            refine ⟨j + 1, mhC o x y c, _, by go_num, by rw [HCAR.out], by omega, HST.out, ((row_drawn HRW.out _).set z (mhS o x y c)).1, grown_trans' (grown_drawn HGW.out _) ((row_drawn HRW.out _).set z (mhS o x y c)).2⟩
          case measure => simp [intOf]; omega
        · obtain rfl : j = ys.length := by omega
          have hcb := hU.row.clt
          unfold B16 at hcb
          have HE := Lib.hid (END.out _ _ hU)
          have hsum : IntKind.i64.wrap ((k : Int) + (ys.length : Int)) = ((k + ys.length : Nat) : Int) := by rw [IntKind.wrap_i64]; omega
          generalize hz : k + ys.length = z at *
          have HZ := Lib.hid hz; clear hz
          have hst : IntKind.u16.wrap (c : Int) = (c : Int) := by rw [IntKind.wrap_u16]; omega
          have hfr0 : wr.frozen? ⟨g, z, none⟩ = false := HRW.out.free _
          have hcl : ∃ v, wr.cell? ⟨g, z, none⟩ = some v := ⟨_, hrow.cell (by rw [hU.row.len, HRL.out]; omega)⟩
          obtain ⟨vz, hvz⟩ := hcl
          clear hU hrow hgr g1 g2 g3 hbw
          go_wp2
          go_roundw
          case rel => exact ⟨k + 1, _, by omega, by go_num, HE.out, (HRW.out.set z c).1, grown_trans' HGW.out (HRW.out.set z c).2⟩
          case measure => simp [intOf]; omega
    · obtain rfl : k = xs.length := by omega
      have HF := Lib.hid (FIN.out R hP)
      have hsl := hrow.sl_all (by rw [hP.len, ← HL.out]; omega)
      rw [hP.len, ← HL.out] at hsl
      have HB := Lib.hid hbw; have G3 := Lib.hid g3
      have HLM := Lib.hid hP.lim; have HSL := Lib.hid hsl
      clear g1 g2 g3 hbw hP hrow hgr hsl
      go_wp2_with fail
      refine (make_any _ _ R wr HSL.out HLM.out).mono ?_
      rintro e w4 ⟨v4, rfl, hz, hb4⟩
      rw [HF.out] at hz
      obtain ⟨n4, a4, l4, c4, rfl⟩ := hz.shape
      have hR := (hb4.block _ (Array.getElem?_eq_some_iff.1 G3.out).1).trans G3.out
      obtain ⟨k0, k1, f0, f1, _⟩ := blk2 hR
      have HZ := Lib.hid ((hz.below hb4).far (y0 := .bool n4) (y1 := .slice a4 l4 c4) hR)
      have HB4 := Lib.hid (below_of HB.out hb4)
      clear hz hb4 hR
      go_wp2
      refine bodyPost_ret (v := .agg #[.bool n4, .slice a4 l4 c4]) ?_ rfl ⟨_, rfl, HZ.out, (HB4.out.setCell (p := ⟨w.heap.size + 2, 0, none⟩) (by simp) _).setCell (p := ⟨w.heap.size + 2, 1, none⟩) (by simp) _⟩
      simp [results, Tryd.results40, go_sem, *]
end Go.Proofs.YtckmpnfadpnaeaaDoor
