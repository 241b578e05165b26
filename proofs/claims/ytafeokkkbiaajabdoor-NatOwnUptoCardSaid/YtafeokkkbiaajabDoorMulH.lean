/- tribunalref01.MulH. -/
import Derived.Test.YtafeokkkbiaajabDoorRefB
import Derived.Test.YtafeokkkbiaajabDoorMulMath
namespace Go.Proofs.YtafeokkkbiaajabDoor
open Go.RowKit Mth

theorem row_drawn {w : World} {e : TypeId} {k : IntKind} {g : Nat} {xs : List Nat} (h : Row w e k g xs) (n : Nat) : Row (w.drewN n) e k g xs := h
theorem wrap32_u64 (n : Nat) (h : n ≤ 4294967295) : IntKind.u64.wrap ((n : Nat) : Int) = (n : Int) := wrap_u64 n (by unfold B64; omega)
theorem and16_u64 (n : Nat) (h : n ≤ 4294967295) : bits BinOp.and IntKind.u64 ((n : Nat) : Int) 65535 = ((n % 65536 : Nat) : Int) := by
  have := u64_and_nat n 65535 (by omega) (by omega)
  rw [show ((65535 : Nat) : Int) = 65535 from rfl] at this
  rw [this, show (65535 : Nat) = 2 ^ 16 - 1 from rfl, Nat.and_two_pow_sub_one_eq_mod]

/-- what the outer loop of MulH holds; the inner one -/
def MulO (w wr : World) (xs ys : List Nat) (i : Value) : Prop := ∃ (k : Nat) (R : List Nat), k ≤ xs.length ∧ i = .int .i64 k ∧ ProdT R xs ys k ∧ Row wr 62 .u32 w.heap.size R ∧ Below w.heap.size w wr
def MulI (w wr : World) (R ys : List Nat) (x i : Nat) (c j : Value) : Prop := ∃ (k cc : Nat) (R' : List Nat), j = .int .i64 k ∧ c = .int .u64 (cc : Int) ∧ k ≤ 16777216 ∧ RowT R R' ys x i k cc ∧ Row wr 62 .u32 w.heap.size R' ∧ Below w.heap.size w wr

set_option maxHeartbeats 2000000 in
set_option maxRecDepth 100000 in
theorem mulH_any (v1 v2 : Value) (m n p q : Nat) (w : World) (h1 : HNum w v1 m) (h2 : HNum w v2 n) (hm : m < B16 ^ p) (hn : n < B16 ^ q) (hpq : p + q ≤ 16777216) :
    Calls Tryd.prog 38 #[v1, v2] w fun e w' => ∃ v', e = .returned v' ∧ HNum w' v' (m * n) ∧ Below w.heap.size w w' := by
  obtain ⟨xs, s1, l1, t1, rfl⟩ := h1
  obtain ⟨ys, s2, l2, t2, rfl⟩ := h2
  have hx := length_of_val B16_pos t1 p hm
  have hy := length_of_val B16_pos t2 q hn
  have hlen : xs.length + ys.length ≤ 16777216 := by omega
  obtain ⟨ao2, c2, rfl⟩ := s2.shape
  have S2 := Lib.hid s2; have L1 := Lib.hid l1; have L2 := Lib.hid l2
  obtain ⟨ao, cap, rfl, h1, h2, h3, h4, h5⟩ := s1
  have H5 := Lib.hid h5
  unfold maxLen at h2
  clear s2 l1 l2 t1 t2 hm hn hx hy hpq h3 h4 h5
  obtain ⟨L, hL⟩ : ∃ L, L = xs.length + ys.length := ⟨_, rfl⟩
  have HL := Lib.hid hL
  have hxl2 : xs.length ≤ 16777216 := by omega
  have hyl2 : ys.length ≤ 16777216 := by omega
  rw [← hL] at hlen
  clear hL
  go_enter Tryd.func38, Tryd.ntmps38
  go_wp2_with (at_make; refine make_half rfl _ _ rfl _ _ L rfl rfl (by have := HL.out; omega) (by have := HL.out; omega) (by omega) ?_; intro w1 hrow hb1)
  rw [HL.out] at hrow
  have HROW := Lib.hid hrow; have HB1 := Lib.hid hb1
  clear hrow hb1
  go_loopw [6] (fun i wr => MulO w wr xs ys i) (fun i _ => xs.length - (intOf i).toNat)
  case atStart => exact ⟨0, _, Nat.zero_le _, rfl, prodT_zero xs ys, HROW.out, HB1.out⟩
  case round =>
    obtain ⟨k, R, hk, rfl, hP, hrow, hbel⟩ := hrel
    have HP := Lib.hid hP; have HR := Lib.hid hrow; have HB := Lib.hid hbel
    by_cases hlt : k < xs.length
    · obtain ⟨b, off, rfl, hblt, hc⟩ := H5.out (by omega)
      have hxl := L1.out k
      have hcx := hc k hlt
      have hroom : ∀ R' j c, RowT R R' ys (xs.getD k 0) k j c → (j < ys.length ∨ 0 < c) → k + j < xs.length + ys.length := fun R' j c h hc => rowT_room hP h L1.out L2.out hlt hc
      have hend : ∀ R' j, RowT R R' ys (xs.getD k 0) k j 0 → ys.length ≤ j → ProdT R' xs ys (k + 1) := fun R' j h hj => rowT_end hP h hj
      have hRl := hP.len
      rw [← HL.out] at hRl
      have hRm := hP.lim
      generalize xs.getD k 0 = x at *
      have HX := Lib.hid hxl; have HC := Lib.hid hcx; have ROOM := Lib.hid hroom; have END := Lib.hid hend; have HRL := Lib.hid hRl; have HRM := Lib.hid hRm
      clear hc hxl hcx hroom hend hRl hRm hP hrow hbel
      obtain ⟨wo, rfl⟩ : ∃ wo : World, wo = wr := ⟨_, rfl⟩
      go_wp2
      go_loopw [7, 8] (fun c j wr => MulI w wr R ys x k c j) (fun _ j _ => L - (intOf j).toNat)
      case atStart => exact ⟨0, 0, R, rfl, rfl, by omega, rowT_zero ys x k HRM.out, HR.out, HB.out⟩
      case round =>
        obtain ⟨j, c, R', rfl, rfl, hjb, hT, hrow, hbel⟩ := hrel
        by_cases hgo : j < ys.length ∨ 0 < c
        · have hin := ROOM.out _ _ _ hT hgo
          rw [← HL.out] at hin
          have hcx : wr.cell? ⟨b, off + k, none⟩ = some (.int .u32 ((x : Nat) : Int)) := (hbel.cell (p := ⟨b, off + k, none⟩) hblt).trans HC.out
          have hco : wr.cell? ⟨w.heap.size, k + j, none⟩ = some (.int .u32 ((R'.getD (k + j) 0 : Nat) : Int)) := hrow.cell (by rw [hT.len, HRL.out]; omega)
          have hST := rowT_step hT HX.out L2.out (by rw [HRL.out]; omega)
          have hle := mh_le (hT.lim (k + j)) HX.out (L2.out j) hT.clt
          have hLB : ∀ nq, Calls Tryd.prog 52 #[.slice ao2 ys.length c2, .int .i64 ((j : Nat) : Int)] (wr.drewN nq) fun e w' => e = .returned (.int .u32 ((ys.getD j 0 : Nat) : Int)) ∧ w' = wr.drewN nq :=
            fun nq => (limb_any _ ys j _ (S2.out.below (bdrawn hbel _)) (by omega)).mono fun e w' ⟨h1, h2⟩ => ⟨h1, h2.symm⟩
          have hxb := HX.out
          have hob := hT.lim (k + j)
          have hyb := L2.out j
          generalize ys.getD j 0 = y at *
          generalize R'.getD (k + j) 0 = o at *
          have hT1 := Lib.hid hT; have HST := Lib.hid hST; have HRW := Lib.hid hrow; have HBL := Lib.hid hbel; have HLB := Lib.hid hLB
          unfold B16 at hxb hob hyb
          have hsum : IntKind.i64.wrap ((k : Int) + (j : Int)) = ((k + j : Nat) : Int) := by rw [IntKind.wrap_i64]; omega
          generalize hz : k + j = z at *
          have HZ := Lib.hid hz; clear hz
          have w1 := wrap32_u64 o (by omega)
          have w2 := wrap32_u64 x (by omega)
          have w3 := wrap32_u64 y (by omega)
          have w4 : IntKind.u64.wrap ((x : Int) * (y : Int)) = ((x * y : Nat) : Int) := by rw [← Int.natCast_mul]; exact wrap32_u64 _ (by omega)
          have w5 : IntKind.u64.wrap ((o : Int) + ((x * y : Nat) : Int)) = ((o + x * y : Nat) : Int) := by rw [← Int.natCast_add]; exact wrap32_u64 _ (by omega)
          have w6 : IntKind.u64.wrap (((o + x * y : Nat) : Int) + (c : Int)) = ((o + x * y + c : Nat) : Int) := by rw [← Int.natCast_add]; exact wrap32_u64 _ (by omega)
          have hmS : mhS o x y c = (o + x * y + c) % 65536 := rfl
          have hmC : mhC o x y c = (o + x * y + c) / 65536 := rfl
          generalize o + x * y + c = sm at *
          generalize o + x * y = om at *
          generalize x * y = xy at *
          have hfr : ∀ nq, (wr.drewN nq).frozen? ⟨w.heap.size, z, none⟩ = false := fun nq => (row_drawn HRW.out nq).free _
          have hfr0 : wr.frozen? ⟨w.heap.size, z, none⟩ = false := HRW.out.free _
          have hand : bits BinOp.and IntKind.u64 (sm : Int) 65535 = ((mhS o x y c : Nat) : Int) := by rw [and16_u64 sm (by omega), hmS]
          have hsl : mhS o x y c < 65536 := by omega
          have hcar : (sm : Int) / 65536 = ((mhC o x y c : Nat) : Int) := by rw [hmC]; omega
          have HCAR := Lib.hid hcar; clear hcar hmS hmC
          clear hT hST hrow hbel hLB
          rcases (show j < ys.length ∨ (ys.length ≤ j ∧ 0 < c) by omega) with hj | ⟨hj, hj2⟩ <;> (
            clear hgo
            go_wp2
            go_quiet ((go_at_call 52; exact Calls.quiet_of_same (HLB.out _)))
            go_wp2
            go_roundw
            case rel =>
              rw [HCAR.out]
              refine ⟨j + 1, mhC o x y c, _, by go_num, rfl, by have := HZ.out; omega, HST.out, ?_, ?_⟩
              · exact ((row_drawn HRW.out _).set z (mhS o x y c)).1
              · exact below_of_grown (bdrawn HBL.out _) ((row_drawn HRW.out _).set z (mhS o x y c)).2 (Nat.le_refl _) (bdrawn HBL.out _).size
            case measure => have := HZ.out; simp [intOf]; omega)
        · obtain rfl : c = 0 := by omega
          have hj : ys.length ≤ j := by omega
          have HE := Lib.hid (END.out _ _ hT hj)
          have HRW := Lib.hid hrow; have HBL := Lib.hid hbel
          clear hT hrow hbel hgo
          go_wp2
          go_roundw
          case rel => exact ⟨k + 1, _, by omega, by go_num, HE.out, HRW.out, HBL.out⟩
          case measure => simp [intOf]; omega
    · have hkl : k = xs.length := by omega
      rw [hkl] at hP
      have HE := Lib.hid (prodT_end hP)
      have HLIM := Lib.hid hP.lim
      have hsl := hrow.sl_all (by rw [hP.len, ← HL.out]; omega)
      rw [hP.len, ← HL.out] at hsl
      have HS := Lib.hid hsl
      clear hP hrow hbel hsl hkl
      go_wp2_with fail
      refine (rtrim_any HS.out).mono ?_
      rintro e w' ⟨v', rfl, hs', rfl⟩
      have HN := Lib.hid (hnum_trim hs' HLIM.out)
      clear hs'
      go_wp2
      go_ret
      exact ⟨_, rfl, by rw [← HE.out]; exact HN.out, HB.out⟩
end Go.Proofs.YtafeokkkbiaajabDoor
