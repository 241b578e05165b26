/- NatBack: the law's own walk. -/
import Derived.Test.YtafeokkkbiaajaaDoorBackMath
namespace Go.Proofs.YtafeokkkbiaajaaDoor
open Go.RowKit Mth

theorem val_zeros (xs : List Nat) (k : Nat) : val B64 (xs ++ List.replicate k 0) = val B64 xs := by
  rw [val_append, val_zero (fun j => getD_replicate _ _)]; simp
theorem lim_zeros {xs : List Nat} (h : Lim B64 xs) (k : Nat) : Lim B64 (xs ++ List.replicate k 0) := by
  intro j
  simp only [List.getD_eq_getElem?_getD, List.getElem?_append]
  split
  · have := h j; simpa [List.getD_eq_getElem?_getD] using this
  · have := getD_replicate k (j - xs.length)
    rw [List.getD_eq_getElem?_getD] at this
    rw [this]; have := B64_pos; omega
theorem cat_nought (S : List Nat) : (⟨#[48]⟩ : ByteArray) ++ ⟨(toBytes S).toArray⟩ = ⟨(toBytes (48 :: S)).toArray⟩ := by
  apply ByteArray.ext
  simp [toBytes]
/-- what the first loop of NatBack holds -/
def BkO (w wr : World) (xs : List Nat) (bv iv : Value) (z : Nat) : Prop := ∃ k : Nat, k ≤ z ∧ iv = .int .i64 k ∧ wr.ownsRow w.heap.size 24 1 bv (xs ++ List.replicate k 0).length (cellsOf .u64 (xs ++ List.replicate k 0)) ∧ Below w.heap.size w wr
def BkP (w1 wr : World) (iv : Value) : Prop := ∃ k : Nat, k ≤ 3 ∧ iv = .int .i64 k ∧ Below w1.heap.size w1 wr
theorem three_bases (w : World) (k : Nat) (h : k < 3) : ∃ b : Nat, (w.alloc (Obj.cells #[Value.int .i64 2, Value.int .i64 10, Value.int .i64 16] 3)).cell? ⟨w.heap.size, k, none⟩ = some (.int .i64 (b : Int)) ∧ ((b : Int) = 2 ∨ (b : Int) = 10 ∨ (b : Int) = 16) := by
  have : k = 0 ∨ k = 1 ∨ k = 2 := by omega
  rcases this with rfl | rfl | rfl
  · exact ⟨2, by rw [World.cell?_alloc_new]; rfl, .inl rfl⟩
  · exact ⟨10, by rw [World.cell?_alloc_new]; rfl, .inr (.inl rfl)⟩
  · exact ⟨16, by rw [World.cell?_alloc_new]; rfl, .inr (.inr rfl)⟩

set_option maxHeartbeats 4000000 in
set_option maxRecDepth 100000 in
theorem back_walk (w : World) (av : Value) (xs : List Nat) (z : Nat) (hz : TZ w) (hz10 : TZ10 w) (ha : Sl w .u64 av xs) (la : Lim B64 xs) (na : xs.length ≤ 1048576) (hb : (z : Int) ≤ 255) :
    Calls Tryd.prog 12 #[av, .int .u8 ((z : Nat) : Int)] w fun e w' => e = .returned (.bool true) ∧ Below w.heap.size w w' := by
  have HZ := Lib.hid hz; have HZ10 := Lib.hid hz10; have HA := Lib.hid ha; have LA := Lib.hid la
  obtain ⟨a0, c0, rfl⟩ := ha.shape
  clear hz hz10 ha la
  go_enter Tryd.func12, Tryd.ntmps12
  go_wp2_with (refine append_sl (o := ⟨some 19, _, _, _, _, _⟩) rfl _ _ rfl w.heap.size _ _ [] xs rfl rfl (World.ownsRow_nil _ _ _ _) HA.out (by simp) (Nat.le_refl _) ?_; intro v1 w1 hown1 hg1)
  have HO1 := Lib.hid hown1
  have HB1 := Lib.hid ((Below.refl w.heap.size w).grown hg1 (Nat.le_refl _) (fun k e => by
    have e' : (Value.slice none 0 0).ownBlock = some k := e
    simp [Value.ownBlock] at e'))
  clear hown1 hg1
  go_wp2
  go_loopw [5, 6] (fun bv iv wr => BkO w wr xs bv iv z) (fun _ iv _ => z - (intOf iv).toNat)
  case atStart => exact ⟨0, Nat.zero_le _, rfl, by simpa using HO1.out, HB1.out⟩
  case round =>
    obtain ⟨k, hk, rfl, hown, hbel⟩ := hrel
    have HO := Lib.hid hown; have HB := Lib.hid hbel
    by_cases hlt : k < z
    · have hlen : (xs ++ List.replicate k 0).length ≤ 1048831 := by rw [List.length_append, List.length_replicate]; omega
      have HLEN := Lib.hid hlen
      clear hown hbel hlen
      go_wp2_with (refine append_nat (o := ⟨some 28, _, _, _, _, _⟩) rfl _ _ rfl w.heap.size _ _ 0 ⟨wr.heap.size, 0, none⟩ rfl rfl (HO.out.alloc _) (World.cell?_alloc_new _ _ _ _) (by have := HLEN.out; omega) (by have := HB.out.size; simp; omega) ?_; intro v' w2 hown2 hg2)
      have HO2 := Lib.hid hown2
      have HB2 := Lib.hid (below_own (HB.out.alloc HB.out.size _) (HO.out.alloc _) hg2 (by have := HB.out.size; simp; omega))
      clear hown2 hg2
      go_wp2
      go_roundw
      case rel =>
        refine ⟨k + 1, by omega, by go_num, ?_, HB2.out⟩
        have := HO2.out
        rw [List.append_assoc, ← List.replicate_succ'] at this
        exact this
      case measure => simp [intOf]; omega
    · obtain ⟨wo, rfl⟩ : ∃ wo : World, wo = wr := ⟨_, rfl⟩
      have HBS := Lib.hid (sl_own hown (by rw [List.length_append, List.length_replicate]; omega))
      have hval := val_zeros xs k
      have hlim := lim_zeros LA.out k
      generalize xs ++ List.replicate k 0 = ys at *
      have HV := Lib.hid hval; have LB := Lib.hid hlim
      obtain ⟨a1, c1, e1⟩ := HBS.out.shape
      clear hown hval hlim hk
      subst e1
      go_wp2
      have HBB := Lib.hid ((HB.out.alloc HB.out.size (Obj.cells #[Value.int .i64 2, Value.int .i64 10, Value.int .i64 16] 3)))
      have HB0 := Lib.hid ((Below.refl wo.heap.size wo).alloc (Nat.le_refl _) (Obj.cells #[Value.int .i64 2, Value.int .i64 10, Value.int .i64 16] 3))
      have H3 := Lib.hid (three_bases wo)
      have HSZ : Hid (wo.heap.size < (wo.alloc (Obj.cells #[Value.int .i64 2, Value.int .i64 10, Value.int .i64 16] 3)).heap.size) := Lib.hid (by simp)
      generalize wo.alloc (Obj.cells #[Value.int .i64 2, Value.int .i64 10, Value.int .i64 16] 3) = w1' at *
      have HA1 := Lib.hid (HA.out.below HBB.out); have HY1 := Lib.hid (HBS.out.below HB0.out)
      have HZ1 := Lib.hid (HZ.out.below HBB.out); have HT1 := Lib.hid (HZ10.out.below HBB.out)
      generalize hg : wo.heap.size = g at *
      clear hg
      have hxl := HA1.out.len
      have hyl := HY1.out.len
      go_loopw [8] (fun iv wr => BkP w1' wr iv) (fun iv _ => 3 - (intOf iv).toNat)
      case atStart => exact ⟨0, by omega, rfl, Below.refl _ _⟩
      case round =>
        obtain ⟨j, hj, rfl, hbel⟩ := hrel
        have HBE := Lib.hid hbel
        by_cases hlt : j < 3
        · obtain ⟨b, hcb, hbs⟩ := H3.out j hlt
          have hcb1 : wr.cell? ⟨g, j, none⟩ = some (.int .i64 (b : Int)) := (hbel.cell (p := ⟨g, j, none⟩) HSZ.out).trans hcb
          have HBS2 := Lib.hid hbs
          have T1 := text_any _ xs (b : Int) wr (HA1.out.below hbel) LA.out (HZ1.out.below hbel) (HT1.out.below hbel) (by omega)
          have TX1 := Lib.hid T1
          have hb16 : b ≤ 16 := by omega
          clear hcb hbs hbel T1
          go_wp2_with fail
          refine TX1.out.mono ?_
          rintro e w2 ⟨rfl, hb2⟩
          have HB2 := Lib.hid (below_step HBE.out hb2)
          have hcb2 : w2.cell? ⟨g, j, none⟩ = some (.int .i64 (b : Int)) := (hb2.cell (p := ⟨g, j, none⟩) (Nat.lt_of_lt_of_le HSZ.out HBE.out.size)).trans hcb1
          have T2 := text_any _ ys (b : Int) w2 (HY1.out.below HB2.out) LB.out (HZ1.out.below HB2.out) (HT1.out.below HB2.out) (by omega)
          rw [HV.out] at T2
          have TX2 := Lib.hid T2
          clear hb2 hcb1 T2
          by_cases hbig : Big ≤ val B64 xs
          · have E := Lib.hid (tx_long HBS2.out hbig)
            rw [E.out.1, E.out.2] at TX2 ⊢
            clear hbig
            go_wp2_with fail
            refine TX2.out.mono ?_
            rintro e w3 ⟨rfl, hb3⟩
            have HB3 := Lib.hid (below_step HB2.out hb3)
            clear hb3 hcb2
            go_wp2
            go_roundw
            case rel => exact ⟨j + 1, by omega, by go_num, HB3.out⟩
            case measure => simp [intOf]; omega
          · have E := Lib.hid (tx_fine HBS2.out hbig)
            have hN : val B64 xs < Big := Nat.lt_of_not_le hbig
            rw [E.out.1, E.out.2, Int.toNat_natCast] at TX2 ⊢
            have P1 := Lib.hid (par_numeral HBS2.out hN); have P2 := Lib.hid (par_nought HBS2.out hN)
            have hb2' : 2 ≤ b := by have := HBS2.out; omega
            have hnl := numeral_size hb2' hN
            have hsz1 : (⟨(toBytes (numeral b (val B64 xs))).toArray⟩ : ByteArray).size ≤ 1048576 := by rw [str_len]; omega
            have hsz2 : (⟨(toBytes (48 :: numeral b (val B64 xs))).toArray⟩ : ByteArray).size ≤ 1048576 := by rw [str_len, List.length_cons]; omega
            have cat := cat_nought (numeral b (val B64 xs))
            have hSb : (toBytes (numeral b (val B64 xs))).length ≤ 16000001 := by rw [length_toBytes]; omega
            have HS1 := Lib.hid hsz1; have HS2 := Lib.hid hsz2
            have hsz3 : (⟨(toBytes (numeral b (val B64 xs))).toArray⟩ : ByteArray).size ≤ 16000001 := by omega
            clear hbig hN hnl hb2' hsz1 hsz2
            generalize numeral b (val B64 xs) = nm at *
            go_wp2_with fail
            refine TX2.out.mono ?_
            rintro e w3 ⟨rfl, hb3⟩
            have HB3 := Lib.hid (below_step HB2.out hb3)
            have hcb3 : w3.cell? ⟨g, j, none⟩ = some (.int .i64 (b : Int)) := (hb3.cell (p := ⟨g, j, none⟩) (Nat.lt_of_lt_of_le HSZ.out HB2.out.size)).trans hcb2
            clear hb3 hcb2
            go_wp2_with fail
            refine (parse_any _ _ _ _ w3 HS1.out P1.out (by omega)).mono ?_
            rintro e w4 ⟨v4, rfl, hn4, hb4⟩
            have HB4 := Lib.hid (below_step HB3.out hb4); have N4 := Lib.hid hn4
            obtain ⟨cs, s4, l4, t4, hv4⟩ := hn4
            have SC := Lib.hid s4; have LC := Lib.hid l4; have TC := Lib.hid t4; have VC := Lib.hid hv4
            have hcb4 : w4.cell? ⟨g, j, none⟩ = some (.int .i64 (b : Int)) := (hb4.cell (p := ⟨g, j, none⟩) (Nat.lt_of_lt_of_le HSZ.out HB3.out.size)).trans hcb3
            obtain ⟨a4, c4, rfl⟩ := s4.shape
            clear hb4 hcb3 s4 l4 t4 hv4
            go_wp2_with fail
            refine (parse_any _ _ _ _ w4 HS2.out P2.out (by omega)).mono ?_
            rintro e w5 ⟨v5, rfl, hn5, hb5⟩
            have HB5 := Lib.hid (below_step HB4.out hb5); have N5 := Lib.hid hn5; have N4' := Lib.hid (N4.out.below hb5); have SC5 := Lib.hid (SC.out.below hb5)
            clear hb5 hcb4 hn5
            have CM := Lib.hid (cmp_any _ _ cs xs w5 SC5.out (HA1.out.below HB5.out) LC.out LA.out)
            rw [VC.out, cmp_eq rfl] at CM
            go_wp2_with fail
            refine CM.out.mono ?_
            rintro e w6 ⟨rfl, hb6⟩
            have HB6 := Lib.hid (below_step HB5.out hb6); have N5' := Lib.hid (N5.out.below hb6); have N4'' := Lib.hid (N4'.out.below hb6); have SC6 := Lib.hid (SC5.out.below hb6)
            clear hb6
            go_wp2_with fail
            refine (same_any _ _ _ _ N4''.out N5'.out).mono ?_
            rintro e w7 ⟨rfl, hb7⟩
            have HB7 := Lib.hid (below_step HB6.out hb7)
            have s7 := SC6.out.below hb7
            clear hb7
            by_cases hc0 : cs.length = 0
            · rw [hc0]
              clear s7
              go_wp2
              go_roundw
              case rel => exact ⟨j + 1, by omega, by go_num, HB7.out⟩
              case measure => simp [intOf]; omega
            · obtain ⟨cb, coff, cc, e9, q1, q2, q3, hcc⟩ := s7.pos (by omega)
              simp only [Value.slice.injEq, true_and] at e9
              obtain ⟨rfl, rfl⟩ := e9
              have hct := hcc (cs.length - 1) (by omega)
              have htop := tlen_top cs (by rw [TC.out]; omega)
              rw [TC.out] at htop
              have hcl : cs.length ≤ 16777216 := s7.len
              generalize cs.getD (cs.length - 1) 0 = tp at *
              obtain ⟨m, hm⟩ : ∃ m, cs.length = m + 1 := ⟨cs.length - 1, by omega⟩
              rw [hm] at hct ⊢
              simp only [Nat.add_sub_cancel] at hct
              have htz : ((tp : Int) == 0) = false := beq_eq_false_iff_ne.2 (by omega)
              unfold maxLen at q2
              have hm16 : m ≤ 16777216 := by omega
              have hmc : m + 1 ≤ c4 := by omega
              clear s7 hcc htop hm hc0 q1 hcl
              go_wp2
              go_roundw
              case rel => exact ⟨j + 1, by omega, by go_num, HB7.out⟩
              case measure => simp [intOf]; omega
        · have CM := Lib.hid (cmp_any _ _ xs ys wr (HA1.out.below hbel) (HY1.out.below hbel) LA.out LB.out)
          rw [HV.out, cmp_eq rfl] at CM
          clear hbel
          go_wp2_with fail
          refine CM.out.mono ?_
          rintro e w2 ⟨rfl, hb2⟩
          have HB2 := Lib.hid (below_step HBE.out hb2)
          have L1 := Lib.hid (len_any _ xs w2 (HA1.out.below HB2.out) LA.out)
          clear hb2
          go_wp2_with fail
          refine L1.out.mono ?_
          rintro e w3 ⟨rfl, hb3⟩
          have HB3 := Lib.hid (below_step HB2.out hb3)
          have L2 := len_any _ ys w3 (HY1.out.below HB3.out) LB.out
          rw [HV.out] at L2
          have LL2 := Lib.hid L2
          clear hb3 L2
          generalize bl (val B64 xs) = kk at *
          go_wp2_with fail
          refine LL2.out.mono ?_
          rintro e w4 ⟨rfl, hb4⟩
          have HB4 := Lib.hid (below_step HB3.out hb4)
          clear hb4
          go_wp2_with fail
          refine (alive_any _ (HZ1.out.below HB4.out)).mono ?_
          rintro e w5 ⟨rfl, hb5⟩
          have HB5 := Lib.hid (below_step HB4.out hb5)
          clear hb5
          go_wp2
          go_ret
          exact ⟨rfl, below_step HBB.out HB5.out⟩
end Go.Proofs.YtafeokkkbiaajaaDoor
