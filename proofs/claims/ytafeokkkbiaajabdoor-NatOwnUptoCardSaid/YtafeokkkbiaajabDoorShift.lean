/- nat: shiftUp, shiftDown, Shl, Shr. -/
import Derived.Test.YtafeokkkbiaajabDoorAdds
import Derived.Test.YtafeokkkbiaajabDoorShiftMath
import Derived.Test.YtafeokkkbiaajabDoorLen
namespace Go.Proofs.YtafeokkkbiaajabDoor
open Go.RowKit Mth

theorem pow2_int (n : Nat) : ((2 : Int) ^ n) = ((2 ^ n : Nat) : Int) := by rw [Int.natCast_pow]; rfl
/-- x << n of a limb -/
theorem shl_u64 (x n : Nat) : IntKind.u64.wrap ((x : Int) * 2 ^ n) = ((x * 2 ^ n % B64 : Nat) : Int) := by
  rw [pow2_int, ← Int.natCast_mul, IntKind.wrap_u64]
  unfold B64
  omega
theorem shr_u64 (x n : Nat) : (x : Int) / 2 ^ n = ((x / 2 ^ n : Nat) : Int) := by
  rw [pow2_int, ← Int.natCast_ediv]

/-- what shiftUp's loop holds -/
def UpO (w wr : World) (g off : Nat) (R xs : List Nat) (n : Nat) (c i : Value) : Prop := ∃ (k cc : Nat) (R' : List Nat), k ≤ xs.length ∧ i = .int .i64 k ∧ c = .int .u64 (cc : Int) ∧ UpT R R' off xs n k cc ∧ Row wr 36 .u64 g R' ∧ w.grownBy wr (some g)
set_option maxHeartbeats 2000000 in
set_option maxRecDepth 100000 in
theorem shiftUp_any (g off cap n m : Nat) (R xs : List Nat) (v : Value) (w : World) (hR : Row w 36 .u64 g R) (lR : Lim B64 R) (hx : Sl w .u64 v xs) (lx : Lim B64 xs) (hne : inBlock v ≠ some g ∨ xs = []) (hn : off + xs.length + 1 ≤ R.length)
    (hcap : xs.length + 1 ≤ cap) (hm : cap ≤ maxLen) (hnm : n + m = 64) (hn63 : n ≤ 63) (_hRl : R.length ≤ 16777217) :
    Calls Tryd.prog 21 #[.slice (some ⟨g, off, none⟩) (xs.length + 1) cap, v, .int .i64 (n : Int)] w fun e w' => e = .returned (.tuple #[]) ∧ ∃ R', Row w' 36 .u64 g R' ∧ w.grownBy w' (some g) ∧ UpAll R R' off xs n := by
  obtain ⟨ao, cap2, rfl, h1, h2, h3, h4, h5⟩ := hx
  have H5 := Lib.hid h5; have HR := Lib.hid hR; have LR := Lib.hid lR; have LX := Lib.hid lx; have HNE := Lib.hid hne; have HNM := Lib.hid hnm
  unfold maxLen at h2 hm
  clear h3 h4 h5 hR lR lx hne
  have hsub : IntKind.i64.wrap (64 - (n : Int)) = (m : Int) := by rw [IntKind.wrap_i64]; omega
  have hm0 : m ≤ 64 := by omega
  clear hnm
  go_enter Tryd.func21, Tryd.ntmps21
  go_wp2
  go_loopw [6, 11] (fun c i wr => UpO w wr g off R xs n c i) (fun _ i _ => xs.length - (intOf i).toNat)
  case atStart => exact ⟨0, 0, R, Nat.zero_le _, rfl, rfl, upT_zero off xs n LR.out, HR.out, World.grownBy.refl _ _⟩
  case round =>
    obtain ⟨k, c, R', hk, rfl, rfl, hT, hrow, hgr⟩ := hrel
    have HT := Lib.hid hT; have HROW := Lib.hid hrow; have HG := Lib.hid hgr
    by_cases hlt : k < xs.length
    · obtain ⟨bb, boff, rfl, hblt, hc⟩ := H5.out (by omega)
      have hne : bb ≠ g := by
        rcases HNE.out with h | h
        · simpa [inBlock] using h
        · subst h; simp at hlt
      have hcb : wr.cell? ⟨bb, boff + k, none⟩ = some (.int .u64 ((xs.getD k 0 : Nat) : Int)) := hgr.cell (hc k hlt) (by simpa using hne)
      have hcr : wr.cell? ⟨g, off + k, none⟩ = some (.int .u64 ((R'.getD (off + k) 0 : Nat) : Int)) := hrow.cell (by rw [hT.len]; omega)
      have hfr : wr.frozen? ⟨g, off + k, none⟩ = false := hrow.free _
      have HST := Lib.hid (upT_step hT HNM.out LX.out (show off + k < R.length by omega))
      have hc1 := hT.clt
      generalize xs.getD k 0 = x at *
      generalize R'.getD (off + k) 0 = o at *
      clear hc hT hrow hgr hne
      have hor : bits BinOp.or IntKind.u64 (IntKind.u64.wrap ((x : Int) * 2 ^ n)) (c : Int) = ((upLo x n c : Nat) : Int) := by
        have hcb : c < B64 := Nat.lt_of_lt_of_le hc1 (by have : B64 = 2 ^ 64 := rfl; rw [this]; exact Nat.pow_le_pow_right (by omega) (by omega))
        rw [shl_u64, u64_or_nat _ _ (mod64_lt _) hcb, up_or HNM.out hc1]
      have hcar : (x : Int) / 2 ^ m = ((upHi x n : Nat) : Int) := by rw [shr_u64, upHi_div HNM.out]
      have HOR := Lib.hid hor; have HCAR := Lib.hid hcar
      clear hor hcar hc1
      go_wp2
      go_roundw
      case rel =>
        rw [HOR.out, HCAR.out]
        have hset := HROW.out.set (off + k) (upLo x n c)
        exact ⟨k + 1, upHi x n, _, by omega, by go_num, rfl, HST.out, hset.1, grown_trans' HG.out hset.2⟩
      case measure => simp [intOf]; omega
    · obtain rfl : k = xs.length := by omega
      have hE := upT_end hT hn63 (by omega)
      have HE := Lib.hid hE
      have hcr : wr.cell? ⟨g, off + xs.length, none⟩ = some (.int .u64 ((R'.getD (off + xs.length) 0 : Nat) : Int)) := hrow.cell (by rw [hT.len]; omega)
      have hfr : wr.frozen? ⟨g, off + xs.length, none⟩ = false := hrow.free _
      generalize R'.getD (off + xs.length) 0 = o at *
      clear hT hrow hgr hE
      go_wp2
      go_end0
      have hset := HROW.out.set (off + xs.length) c
      exact ⟨rfl, _, hset.1, grown_trans' HG.out hset.2, HE.out⟩

/-- what shiftDown's loop holds -/
def DnO (w wr : World) (g : Nat) (R xs : List Nat) (n : Nat) (c i : Value) : Prop := ∃ (k cc : Nat) (R' : List Nat), k ≤ xs.length ∧ i = .int .i64 ((k : Int) - 1) ∧ c = .int .u64 (cc : Int) ∧ DnT R R' xs n k cc ∧ Row wr 36 .u64 g R' ∧ w.grownBy wr (some g)
set_option maxHeartbeats 2000000 in
set_option maxRecDepth 100000 in
/-- the limbs lie elsewhere, or they are the very row -/
theorem shiftDown_any (g cap n m : Nat) (R xs : List Nat) (v : Value) (w : World) (hR : Row w 36 .u64 g R) (lR : Lim B64 R) (hx : Sl w .u64 v xs) (lx : Lim B64 xs) (hne : inBlock v ≠ some g ∨ (∃ c, v = .slice (some ⟨g, 0, none⟩) xs.length c) ∧ R.take xs.length = xs) (hn : xs.length ≤ R.length)
    (_hcap : xs.length ≤ cap) (_hm : cap ≤ maxLen) (hnm : n + m = 64) (hn63 : n ≤ 63) (hRl : R.length ≤ 16777217) :
    Calls Tryd.prog 23 #[.slice (some ⟨g, 0, none⟩) xs.length cap, v, .int .i64 (n : Int)] w fun e w' => e = .returned (.tuple #[]) ∧ ∃ R' c, Row w' 36 .u64 g R' ∧ w.grownBy w' (some g) ∧ DnT R R' xs n 0 c := by
  obtain ⟨ao, cap2, rfl, h1, h2, h3, h4, h5⟩ := hx
  have H5 := Lib.hid h5; have HR := Lib.hid hR; have LR := Lib.hid lR; have LX := Lib.hid lx; have HNE := Lib.hid hne; have HNM := Lib.hid hnm
  unfold maxLen at h2 _hm
  clear h3 h4 h5 hR lR lx hne
  have hsub : IntKind.i64.wrap (64 - (n : Int)) = (m : Int) := by rw [IntKind.wrap_i64]; omega
  have hm0 : m ≤ 64 := by omega
  clear hnm
  go_enter Tryd.func23, Tryd.ntmps23
  go_wp2
  go_loopw [6, 7] (fun c i wr => DnO w wr g R xs n c i) (fun _ i _ => (intOf i + 1).toNat)
  case atStart => exact ⟨xs.length, 0, R, Nat.le_refl _, rfl, rfl, dnT_zero xs n LR.out hn, HR.out, World.grownBy.refl _ _⟩
  case round =>
    obtain ⟨k0, c, R', hk, rfl, rfl, hT, hrow, hgr⟩ := hrel
    have HT := Lib.hid hT; have HROW := Lib.hid hrow; have HG := Lib.hid hgr
    by_cases hlt : 0 < k0
    · obtain ⟨k, rfl⟩ : ∃ k, k0 = k + 1 := ⟨k0 - 1, by omega⟩
      have hkl : k < xs.length := by omega
      obtain ⟨bb, boff, rfl, hblt, hc⟩ := H5.out (by omega)
      have hcb : wr.cell? ⟨bb, boff + k, none⟩ = some (.int .u64 ((xs.getD k 0 : Nat) : Int)) := by
        rcases HNE.out with h | ⟨⟨c9, h⟩, h'⟩
        · exact hgr.cell (hc k hkl) (by simpa [inBlock] using h)
        · simp only [Value.slice.injEq, Option.some.injEq, Addr.mk.injEq, and_true, true_and] at h
          obtain ⟨⟨rfl, rfl⟩, rfl⟩ := h
          rw [Nat.zero_add, hrow.cell (by rw [hT.len]; omega), hT.rest k (by omega)]
          have h9 : (R.take xs.length).getD k 0 = xs.getD k 0 := by rw [h']
          rw [getD_take, if_pos hkl] at h9
          rw [h9]
      have hcr : wr.cell? ⟨g, k, none⟩ = some (.int .u64 ((R'.getD k 0 : Nat) : Int)) := hrow.cell (by rw [hT.len]; omega)
      have hfr : wr.frozen? ⟨g, k, none⟩ = false := hrow.free _
      have HST := Lib.hid (dnT_step hT HNM.out LX.out hkl hn)
      have hceq := hT.ceq m HNM.out
      have hxb := LX.out k
      have hcb2 : c < B64 := by
        rw [hceq]
        have h1 : val B64 (xs.drop (k + 1)) % 2 ^ n < 2 ^ n := Nat.mod_lt _ (Nat.pow_pos (by omega))
        have h2 : 2 ^ m * (val B64 (xs.drop (k + 1)) % 2 ^ n) < 2 ^ m * 2 ^ n := Nat.mul_lt_mul_of_pos_left h1 (Nat.pow_pos (by omega))
        rw [Nat.mul_comm (2 ^ m) (2 ^ n), ← b64_split HNM.out] at h2
        exact h2
      have hor : bits BinOp.or IntKind.u64 ((xs.getD k 0 : Nat) / 2 ^ n : Int) (c : Int) = ((dnLo (xs.getD k 0) n c : Nat) : Int) := by
        rw [shr_u64, u64_or_nat _ _ (Nat.lt_of_le_of_lt (Nat.div_le_self _ _) hxb) hcb2, hceq, dn_or HNM.out hxb]
      have hcar : IntKind.u64.wrap (((xs.getD k 0 : Nat) : Int) * 2 ^ m) = ((dnHi (xs.getD k 0) m : Nat) : Int) := shl_u64 _ _
      generalize xs.getD k 0 = x at *
      generalize R'.getD k 0 = o at *
      have HOR := Lib.hid hor; have HCAR := Lib.hid hcar
      have hk16 : k ≤ 16777217 := by omega
      have he : ((k + 1 : Nat) : Int) - 1 = (k : Int) := by omega
      clear hc hT hrow hgr hceq hxb hor hcar
      rw [he]
      go_wp2
      go_roundw
      case rel =>
        rw [HOR.out, HCAR.out]
        have hset := HROW.out.set k (dnLo x n c)
        exact ⟨k, dnHi x m, _, by omega, by go_num, rfl, HST.out, hset.1, grown_trans' HG.out hset.2⟩
      case measure => simp [intOf]
    · obtain rfl : k0 = 0 := by omega
      clear hT hrow hgr
      go_wp2
      go_end0
      exact ⟨rfl, R', c, HROW.out, HG.out, HT.out⟩
end Go.Proofs.YtafeokkkbiaajabDoor
