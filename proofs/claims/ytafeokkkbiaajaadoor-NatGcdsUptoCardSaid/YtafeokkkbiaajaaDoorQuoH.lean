/- tribunalref01: QuoH, Quo. -/
import Derived.Test.YtafeokkkbiaajaaDoorMulR
import Derived.Test.YtafeokkkbiaajaaDoorAddH
import Derived.Test.YtafeokkkbiaajaaDoorQuoHMath
namespace Go.Proofs.YtafeokkkbiaajaaDoor
open Go.RowKit Mth

theorem bit_end32 (x r : Nat) (hx : x < B16) : (bits BinOp.and IntKind.u32 ((x : Int) / 2 ^ r) 1) = ((x / 2 ^ r % 2 : Nat) : Int) := by
  have h1 : (x : Int) / 2 ^ r = ((x / 2 ^ r : Nat) : Int) := by
    rw [show ((2 : Int) ^ r) = ((2 ^ r : Nat) : Int) by rw [Int.natCast_pow]; rfl, ← Int.natCast_ediv]
  have h2 : x / 2 ^ r < 4294967296 := Nat.lt_of_le_of_lt (Nat.div_le_self _ _) (by unfold B16 at hx; omega)
  have := u32_and_nat (x / 2 ^ r) 1 h2 (by omega)
  rw [h1, show (1 : Int) = ((1 : Nat) : Int) from rfl, this, Nat.and_one_is_mod]
theorem or_end32 {x r : Nat} (h : x % 2 ^ (r + 1) = 0) (hx : x < B16) (hr : r < 16) : bits BinOp.or IntKind.u32 (x : Int) ((2 : Int) ^ r % 4294967296) = ((x + 2 ^ r : Nat) : Int) := by
  have h2 : 2 ^ r ≤ 2 ^ 15 := Nat.pow_le_pow_right (by omega) (by omega)
  have h3 : (2 : Int) ^ r % 4294967296 = ((2 ^ r : Nat) : Int) := by
    rw [show ((2 : Int) ^ r) = ((2 ^ r : Nat) : Int) by rw [Int.natCast_pow]; rfl]
    generalize 2 ^ r = z at *
    omega
  rw [h3, u32_or_nat _ _ (by unfold B16 at hx; omega) (by omega), or_bit h]
theorem cmpH_num (v1 v2 : Value) (m n : Nat) (w : World) (h1 : HNum w v1 m) (h2 : HNum w v2 n) :
    Calls Tryd.prog 48 #[v1, v2] w fun e w' => e = .returned (.int .i64 (cmp3 m n)) ∧ Below w.heap.size w w' := by
  obtain ⟨xs, s1, l1, t1, rfl⟩ := h1
  obtain ⟨ys, s2, l2, t2, rfl⟩ := h2
  exact rcmpH_any v1 v2 xs ys w s1 s2 l1 l2
theorem rtrim_hnum {w : World} {v : Value} {n : Nat} (h : HNum w v n) :
    Calls Tryd.prog 81 #[v] w fun e w' => ∃ v', e = .returned v' ∧ HNum w' v' n ∧ w = w' := by
  obtain ⟨ys, s, l, t, rfl⟩ := h
  refine (rtrim_any s).mono ?_
  rintro e w' ⟨v', h1, h2, rfl⟩
  have := hnum_trim h2 l
  exact ⟨v', h1, this, rfl⟩

/-- the limbs lie in memory from the block base on, if anywhere -/
def Fr (base : Nat) (v : Value) : Prop := ∀ b, inBlock v = some b → base ≤ b
theorem fr_own {w : World} {base e n : Nat} {v : Value} {xs : List Value} (h : w.ownsRow base e 1 v n xs) : Fr base v := by
  intro b hb
  rcases h.2 with ⟨rfl, _⟩ | ⟨g, cap, cur, rfl, h1, _⟩
  · simp [inBlock] at hb
  · simp [inBlock] at hb; omega
theorem Fr.mono {base base' : Nat} {v : Value} (h : Fr base v) (hb : base' ≤ base) : Fr base' v := fun b e => Nat.le_trans hb (h b e)
theorem rtrim_fr {v : Value} {xs : List Nat} {w : World} {base : Nat} (h : Sl w .u32 v xs) (hf : Fr base v) :
    Calls Tryd.prog 81 #[v] w fun e w' => ∃ v', e = .returned v' ∧ Sl w .u32 v' (trimL xs) ∧ Fr base v' ∧ w = w' := by
  have h' := h
  obtain ⟨ao, cap, rfl, h1, h2, h3, h4, h5⟩ := h
  have hs : Sl w .u32 (.slice ao (tlen xs) cap) (trimL xs) := h'.take (tlen_le xs)
  have hf' : Fr base (.slice ao (tlen xs) cap) := fun b e => hf b (by cases ao with
    | none => simp [inBlock] at e
    | some a => simpa [inBlock] using e)
  by_cases hp : 0 < xs.length
  · obtain ⟨b, off, rfl, hlt, hc⟩ := h5 hp
    exact (rtrim_pos b off cap xs w h1 h2 hc).mono fun e w' ⟨he, hw⟩ => ⟨_, he, hs, hf', hw⟩
  · have : xs = [] := List.eq_nil_of_length_eq_zero (by omega)
    subst this
    exact (rtrim_zero ao cap w h2 h4).mono fun e w' ⟨he, hw⟩ => ⟨_, he, hs, hf', hw⟩
theorem hnum_grown {w w' : World} {v : Value} {n g base : Nat} (h : HNum w v n) (hg : w.grownBy w' (some g)) (hf : Fr base v) (hb : g < base) : HNum w' v n := by
  obtain ⟨ys, s, l⟩ := h
  refine ⟨ys, s.grown hg (.inl ?_), l⟩
  intro e
  have := hf g e
  omega
set_option maxHeartbeats 1000000 in
set_option maxRecDepth 100000 in
theorem subH_fr (v1 v2 : Value) (m n : Nat) (w : World) (h1 : HNum w v1 m) (h2 : HNum w v2 n) (hle : n ≤ m) :
    Calls Tryd.prog 59 #[v1, v2] w fun e w' => ∃ v', e = .returned v' ∧ HNum w' v' (m - n) ∧ Fr w.heap.size v' ∧ Below w.heap.size w w' := by
  obtain ⟨xs, s1, l1, t1, rfl⟩ := h1
  obtain ⟨ys, s2, l2, t2, rfl⟩ := h2
  have hlen := s1.len
  obtain ⟨a1, c1, rfl⟩ := s1.shape
  have S1 := Lib.hid s1; have S2 := Lib.hid s2; have L1 := Lib.hid l1; have L2 := Lib.hid l2; have T2 := Lib.hid t2; have HLE := Lib.hid hle
  clear s1 s2 l1 l2 t1 t2 hle
  go_enter Tryd.func59, Tryd.ntmps59
  go_wp2
  go_loopw [5, 6, 7] (fun v c i wr => SubO w wr xs ys v c i) (fun _ _ i _ => xs.length - (intOf i).toNat)
  case atStart => exact ⟨0, 0, [], Nat.zero_le _, rfl, rfl, subT_zero xs ys, World.ownsRow_nil _ _ _ _, Below.refl _ _⟩
  case round =>
    obtain ⟨k, c, os, hk, rfl, rfl, hT, hown, hbel⟩ := hrel
    have HT := Lib.hid hT; have HO := Lib.hid hown; have HB := Lib.hid hbel
    by_cases hlt : k < xs.length
    · have HST := Lib.hid (subT_step hT L1.out L2.out)
      have hx := L1.out k
      have hy := L2.out k
      have hc := hT.cle
      have hol := hT.len
      have HX := Lib.hid (limb_any _ xs k wr (S1.out.below hbel) (by omega))
      have HY := Lib.hid (limb_any _ ys k wr (S2.out.below hbel) (by omega))
      generalize xs.getD k 0 = x at *
      generalize ys.getD k 0 = y at *
      have HOL := Lib.hid hol
      have hx' : x ≤ 65535 := by unfold B16 at hx; omega
      have hy' : y ≤ 65535 := by unfold B16 at hy; omega
      have hand : bits BinOp.and IntKind.u32 ((x : Int) + 65536 - (y : Int) - (c : Int)) 65535 = ((shS x y c : Nat) : Int) := by
        have := and_hf (x + 65536 - y - c)
        rw [Int.emod_eq_of_lt (by omega) (by omega)] at this
        rw [show ((x : Int) + 65536 - (y : Int) - (c : Int)) = ((x + 65536 - y - c : Nat) : Int) by omega, this]
        rfl
      have hcar : (1 : Int) - ((x : Int) + 65536 - (y : Int) - (c : Int)) / 65536 = ((shC x y c : Nat) : Int) := by unfold shC; omega
      clear hT hown hbel hx hy hol
      go_wp2_with fail
      refine HX.out.mono ?_
      rintro e w' ⟨rfl, rfl⟩
      go_wp2_with fail
      refine HY.out.mono ?_
      rintro e w' ⟨rfl, rfl⟩
      go_wp2_with (refine append_half (o := ⟨some 29, _, _, _, _, _⟩) rfl _ _ rfl w.heap.size _ os (shS x y c) ⟨wr.heap.size, 0, none⟩ rfl rfl (HO.out.alloc _) (World.cell?_alloc_new _ _ _ _) (by have := HOL.out; omega) (by have := HB.out.size; simp; omega) ?_; intro v' w1 hown1 hg1)
      have HO1 := Lib.hid hown1
      have HB1 := Lib.hid (below_own (HB.out.alloc HB.out.size _) (HO.out.alloc _) hg1 (by have := HB.out.size; simp; omega))
      clear hown1 hg1
      go_wp2
      go_roundw
      case rel => exact ⟨k + 1, shC x y c, _, by omega, by go_num, by first | rfl | (rw [← hcar]), HST.out, HO1.out, HB1.out⟩
      case measure => simp [intOf]; omega
    · have hkl : k = xs.length := by omega
      rw [hkl] at hT
      have HE := Lib.hid (subT_end hT L1.out T2.out HLE.out)
      have HS : Hid (Sl wr .u32 _ os) := Lib.hid (sl_own hown (by have := hT.len; omega))
      have HLM := Lib.hid hT.lim
      have HF := Lib.hid (fr_own hown)
      clear hT hown hbel hkl
      go_wp2_with fail
      refine (rtrim_fr HS.out HF.out).mono ?_
      rintro e w' ⟨v', rfl, hs', hf', rfl⟩
      have HN := Lib.hid (hnum_trim hs' HLM.out); have HF' := Lib.hid hf'
      clear hs' hf'
      go_wp2
      go_ret
      exact ⟨_, rfl, by rw [← HE.out]; exact HN.out, HF'.out, HB.out⟩
/-- what QuoH's loop holds -/
def QuoHO (w wr : World) (A D n : Nat) (rv i : Value) : Prop := ∃ (k r : Nat) (Q : List Nat), k ≤ 16 * n ∧ i = .int .i64 ((k : Int) - 1) ∧ HNum wr rv r ∧ QhT A D Q n k r ∧ Row wr 66 .u32 w.heap.size Q ∧ Below w.heap.size w wr

set_option maxHeartbeats 4000000 in
set_option maxRecDepth 100000 in
theorem quoH_any (v1 v2 : Value) (A D p : Nat) (w : World) (h1 : HNum w v1 A) (h2 : HNum w v2 D) (hD : 0 < D) (hA : A < B16 ^ p) (hDp : 2 * D < B16 ^ p) (hp : p ≤ 1000000) :
    Calls Tryd.prog 64 #[v1, v2] w fun e w' => ∃ vq vr, e = .returned (.tuple #[vq, vr]) ∧ HNum w' vq (A / D) ∧ HNum w' vr (A % D) ∧ Below w.heap.size w w' := by
  have H2 := Lib.hid h2
  obtain ⟨a2, n2, c2, rfl, _⟩ := hnum_len h2
  obtain ⟨xs, s1, l1, t1, rfl⟩ := h1
  have hx := length_of_val B16_pos t1 p hA
  obtain ⟨ao, cap, rfl, h3, h4, h5, h6, h7⟩ := s1
  have H7 := Lib.hid h7; have L1 := Lib.hid l1; have HDD := Lib.hid hD; have HDP := Lib.hid hDp; have HP := Lib.hid hp
  have T0 := Lib.hid (qhT_zero (val_lt l1) hD)
  have BH : Hid (∀ k q t, k = 16 * q + t → t < 16 → q < xs.length → val B16 xs / 2 ^ k % 2 = xs.getD q 0 / 2 ^ t % 2) := Lib.hid (fun k q t e h h' => by rw [e]; exact bit_half l1 h h')
  unfold maxLen at h4
  have hx6 : xs.length ≤ 1000000 := by omega
  clear h2 h5 h6 h7 l1 t1 hD hDp hp hA hx
  generalize hA : val B16 xs = A at *
  clear hA
  go_enter Tryd.func64, Tryd.ntmps64
  go_wp2_with (at_make; refine make_half rfl _ _ rfl _ _ xs.length rfl rfl rfl rfl (by omega) ?_; intro w1 hrow hb1)
  have HROW := Lib.hid hrow; have HB1 := Lib.hid hb1
  clear hrow hb1
  go_loopw [7, 8] (fun rv i wr => QuoHO w wr A D xs.length rv i) (fun _ i _ => (intOf i + 1).toNat)
  case atStart => exact ⟨16 * xs.length, 0, _, Nat.le_refl _, by congr 1, hnum_nil _, T0.out, HROW.out, HB1.out⟩
  case round =>
    obtain ⟨k0, r, Q, hk, rfl, hr, hT, hrow, hbel⟩ := hrel
    by_cases hlt : 0 < k0
    · obtain ⟨k, rfl⟩ : ∃ k, k0 = k + 1 := ⟨k0 - 1, by omega⟩
      obtain ⟨q, t, hqt, ht⟩ : ∃ q t, k = 16 * q + t ∧ t < 16 := ⟨k / 16, k % 16, by omega, by omega⟩
      have hq : q < xs.length := by omega
      obtain ⟨b, off, rfl, hblt, hc⟩ := H7.out (by omega)
      have hck : wr.cell? ⟨b, off + q, none⟩ = some (.int .u32 ((xs.getD q 0 : Nat) : Int)) := (hbel.cell (p := ⟨b, off + q, none⟩) hblt).trans (hc q hq)
      have hxl := L1.out q
      have hbit := BH.out k q t hqt ht hq
      have hb1 := bit_end32 (xs.getD q 0) t hxl
      rw [← hbit] at hb1
      have hbl : A / 2 ^ k % 2 < 2 := Nat.mod_lt _ (by omega)
      have hrD : r < D := by rw [hT.req]; exact Nat.mod_lt _ HDD.out
      have LOW := Lib.hid (fun h => qhT_low hT HDD.out h)
      rw [hqt] at hT
      have HIGH := Lib.hid (fun h => qhT_high hT ht hq HDD.out h)
      rw [← hqt] at HIGH
      have hqlt := hT.lim q
      have HQL := Lib.hid hT.len
      generalize A / 2 ^ k % 2 = bit at *
      generalize xs.getD q 0 = x at *
      have he : ((k + 1 : Nat) : Int) - 1 = (k : Int) := by omega
      have hq16 : (k : Int) / 16 = (q : Int) := by omega
      have ht16 : (k : Int) % 16 = (t : Int) := by omega
      have HRD := Lib.hid hrD; have HQT := Lib.hid hqt
      have HR := Lib.hid hr; have HROW := Lib.hid hrow; have HBEL := Lib.hid hbel
      have AD1 := Lib.hid (addH_any _ _ r r p wr hr hr (by have := HDP.out; omega) (by have := HDP.out; omega) (by have := HP.out; omega))
      rw [he]
      clear hc hr hT hrow hbel hbit hqt hrD hk hlt
      go_wp2_with fail
      refine AD1.out.mono ?_
      rintro e w2 ⟨v2, rfl, hn2, hb2⟩
      have N2 := Lib.hid hn2; have B2 := Lib.hid (below_step HBEL.out hb2); have ROW2 := Lib.hid (HROW.out.below hb2)
      have hck2 : w2.cell? ⟨b, off + q, none⟩ = some (.int .u32 (x : Int)) := (hb2.cell (p := ⟨b, off + q, none⟩) (by have := World.block_lt_of_cell? wr _ hck; exact this)).trans hck
      clear hn2 hb2 hck
      have hbit01 : bit = 0 ∨ bit = 1 := by omega
      have hkb : k ≤ 16000000 := by omega
      clear hbl
      rcases hbit01 with rfl | rfl
      · have hd0 : (((0 : Nat) : Int) == 1) = false := rfl
        have N3 := N2; have B3 := B2; have ROW3 := ROW2
        clear N2 B2 ROW2
        obtain ⟨w3, rfl⟩ : ∃ w3, w3 = w2 := ⟨_, rfl⟩
        obtain ⟨R2, hR2⟩ : ∃ R2, R2 = r + r := ⟨_, rfl⟩
        have HR2 := Lib.hid hR2
        rw [Nat.add_zero, ← hR2] at LOW HIGH
        rw [← hR2] at N3
        clear hR2

        have CM := Lib.hid (cmpH_num _ _ R2 D w3 N3.out (H2.out.below B3.out))
        by_cases hge : D ≤ R2
        · have HH := Lib.hid (HIGH.out (by omega))
          have SB := Lib.hid (fun w4 (hb4 : Below w3.heap.size w3 w4) => subH_fr _ _ R2 D w4 (N3.out.below hb4) (H2.out.below (below_step B3.out hb4)) hge)
          have hcv : (0 : Int) ≤ cmp3 R2 D := by unfold cmp3; rw [if_neg (by omega)]; split <;> omega
          clear hge
          generalize cmp3 R2 D = cv at *
          have hcd : decide ((0 : Int) ≤ cv) = true := decide_eq_true hcv
          have hor := or_end32 HH.out.1 hqlt ht
          have HN := Lib.hid HH.out.2
          generalize hy : Q.getD q 0 = y at *
          have HY := Lib.hid hy
          clear hy
          generalize y + 2 ^ t = y2 at *
          go_wp2_with fail
          refine CM.out.mono ?_
          rintro e w4 ⟨rfl, hb4⟩
          have SB4 := Lib.hid (SB.out w4 hb4); have B4 := Lib.hid (below_step B3.out hb4); have ROW4 := Lib.hid (ROW3.out.below hb4)

          clear hb4
          go_wp2_with fail
          refine SB4.out.mono ?_
          rintro e w5 ⟨v5, rfl, hn5, hf5, hb5⟩
          have N5 := Lib.hid hn5; have F5 := Lib.hid hf5; have B5 := Lib.hid (below_step B4.out hb5); have ROW5 := Lib.hid (ROW4.out.below hb5)
          clear hn5 hf5 hb5
          have hcq : w5.cell? ⟨w.heap.size, q, none⟩ = some (.int .u32 (y : Int)) := by rw [← HY.out]; exact ROW5.out.cell (by rw [HQL.out]; omega)
          have hfq : w5.frozen? ⟨w.heap.size, q, none⟩ = false := ROW5.out.free _
          go_wp2
          go_roundw
          case rel =>
            have hset := ROW5.out.set q y2
            have hb := below_of_grown B5.out hset.2 (Nat.le_refl _) B5.out.size
            refine ⟨k, R2 - D, _, by omega, by go_num, ?_, HN.out, hset.1, hb⟩
            exact hnum_grown N5.out hset.2 F5.out ROW4.out.lt
          case measure => simp [intOf]
        · have LL := Lib.hid (LOW.out (by omega))
          have hcv : cmp3 R2 D < 0 := by unfold cmp3; rw [if_pos (by omega)]; omega
          clear hge
          generalize cmp3 R2 D = cv at *
          have hcd : decide ((0 : Int) ≤ cv) = false := decide_eq_false (by omega)
          go_wp2_with fail
          refine CM.out.mono ?_
          rintro e w4 ⟨rfl, hb4⟩
          have B4 := Lib.hid (below_step B3.out hb4); have ROW4 := Lib.hid (ROW3.out.below hb4); have N4 := Lib.hid (N3.out.below hb4)
          clear hb4
          go_wp2
          go_roundw
          case rel => exact ⟨k, R2, Q, by omega, by go_num, N4.out, LL.out, ROW4.out, B4.out⟩
          case measure => simp [intOf]

      · have hd0 : (((1 : Nat) : Int) == 1) = true := rfl
        have ON := hnum_one w2 1 (by omega) (by unfold B16; omega)
        have AD2 := Lib.hid (addH_any _ _ (r + r) 1 p _ (N2.out.below ((Below.refl _ _).alloc (Nat.le_refl _) _)) ON (by have := HDP.out; have := HRD.out; omega) (by have := HDP.out; have := HRD.out; omega) (by have := HP.out; omega))
        have B2' := Lib.hid (B2.out.trans (((Below.refl _ _).alloc (Nat.le_refl _) _).mono B2.out.size) : Below w.heap.size w (w2.alloc (Obj.cells #[Value.int .u32 ((1 : Nat) : Int)] 66)))
        have ROW2' := Lib.hid (ROW2.out.below ((Below.refl _ _).alloc (Nat.le_refl _) (Obj.cells #[Value.int .u32 ((1 : Nat) : Int)] 66)))
        clear ON
        obtain ⟨R2, hR2⟩ : ∃ R2, R2 = r + r + 1 := ⟨_, rfl⟩
        have HR2 := Lib.hid hR2
        rw [← hR2] at AD2 LOW HIGH
        go_wp2_with fail
        refine AD2.out.mono ?_
        rintro e w3 ⟨v3, rfl, hn3, hb3⟩
        have N3 := Lib.hid hn3; have B3 := Lib.hid (below_step B2'.out hb3); have ROW3 := Lib.hid (ROW2'.out.below hb3)
        clear hn3 hb3 hR2

        have CM := Lib.hid (cmpH_num _ _ R2 D w3 N3.out (H2.out.below B3.out))
        by_cases hge : D ≤ R2
        · have HH := Lib.hid (HIGH.out (by omega))
          have SB := Lib.hid (fun w4 (hb4 : Below w3.heap.size w3 w4) => subH_fr _ _ R2 D w4 (N3.out.below hb4) (H2.out.below (below_step B3.out hb4)) hge)
          have hcv : (0 : Int) ≤ cmp3 R2 D := by unfold cmp3; rw [if_neg (by omega)]; split <;> omega
          clear hge
          generalize cmp3 R2 D = cv at *
          have hcd : decide ((0 : Int) ≤ cv) = true := decide_eq_true hcv
          have hor := or_end32 HH.out.1 hqlt ht
          have HN := Lib.hid HH.out.2
          generalize hy : Q.getD q 0 = y at *
          have HY := Lib.hid hy
          clear hy
          generalize y + 2 ^ t = y2 at *
          go_wp2_with fail
          refine CM.out.mono ?_
          rintro e w4 ⟨rfl, hb4⟩
          have SB4 := Lib.hid (SB.out w4 hb4); have B4 := Lib.hid (below_step B3.out hb4); have ROW4 := Lib.hid (ROW3.out.below hb4)

          clear hb4
          go_wp2_with fail
          refine SB4.out.mono ?_
          rintro e w5 ⟨v5, rfl, hn5, hf5, hb5⟩
          have N5 := Lib.hid hn5; have F5 := Lib.hid hf5; have B5 := Lib.hid (below_step B4.out hb5); have ROW5 := Lib.hid (ROW4.out.below hb5)
          clear hn5 hf5 hb5
          have hcq : w5.cell? ⟨w.heap.size, q, none⟩ = some (.int .u32 (y : Int)) := by rw [← HY.out]; exact ROW5.out.cell (by rw [HQL.out]; omega)
          have hfq : w5.frozen? ⟨w.heap.size, q, none⟩ = false := ROW5.out.free _
          go_wp2
          go_roundw
          case rel =>
            have hset := ROW5.out.set q y2
            have hb := below_of_grown B5.out hset.2 (Nat.le_refl _) B5.out.size
            refine ⟨k, R2 - D, _, by omega, by go_num, ?_, HN.out, hset.1, hb⟩
            exact hnum_grown N5.out hset.2 F5.out ROW4.out.lt
          case measure => simp [intOf]
        · have LL := Lib.hid (LOW.out (by omega))
          have hcv : cmp3 R2 D < 0 := by unfold cmp3; rw [if_pos (by omega)]; omega
          clear hge
          generalize cmp3 R2 D = cv at *
          have hcd : decide ((0 : Int) ≤ cv) = false := decide_eq_false (by omega)
          go_wp2_with fail
          refine CM.out.mono ?_
          rintro e w4 ⟨rfl, hb4⟩
          have B4 := Lib.hid (below_step B3.out hb4); have ROW4 := Lib.hid (ROW3.out.below hb4); have N4 := Lib.hid (N3.out.below hb4)
          clear hb4
          go_wp2
          go_roundw
          case rel => exact ⟨k, R2, Q, by omega, by go_num, N4.out, LL.out, ROW4.out, B4.out⟩
          case measure => simp [intOf]

    · obtain rfl : k0 = 0 := by omega
      have hE := qhT_end hT
      have hsl := hrow.sl_all (by rw [hT.len]; omega)
      rw [hT.len] at hsl
      have HQ := Lib.hid (rtrim_any hsl); have HL := Lib.hid hT.lim
      have HE := Lib.hid hE; have HR := Lib.hid hr; have HB := Lib.hid hbel
      clear hE hsl hr hT hrow hbel
      go_wp2_with fail
      refine HQ.out.mono ?_
      rintro e w' ⟨vq, rfl, hs1, rfl⟩
      have H1 := Lib.hid (hnum_trim hs1 HL.out)
      clear hs1
      go_wp2_with fail
      refine (rtrim_hnum HR.out).mono ?_
      rintro e w' ⟨vr, rfl, hs2, rfl⟩
      have H3 := Lib.hid hs2
      clear hs2
      go_wp2
      go_ret2
      exact ⟨_, _, rfl, by rw [← HE.out.1]; exact H1.out, by rw [← HE.out.2]; exact H3.out, HB.out⟩
end Go.Proofs.YtafeokkkbiaajaaDoor
