/- tribunalref01: TextH, Text; NatTexts. -/
import Derived.Test.YtafeokkkbiaajaaDoorTextAny
import Derived.Test.YtafeokkkbiaajaaDoorMulR
import Derived.Test.YtafeokkkbiaajaaDoorQuoHMath
namespace Go.Proofs.YtafeokkkbiaajaaDoor
open Go.RowKit Mth

theorem cut_digit : ∀ (d : Nat) (_ : d < 16) (w : World), (Instr.sliceAt 9 (.string ⟨#[48, 49, 50, 51, 52, 53, 54, 55, 56, 57, 97, 98, 99, 100, 101, 102]⟩) (some (.int .u32 (d : Int))) (some (.int .u32 ((d : Int) + 1))) none).run Tryd.prog w = .ok (.string ⟨#[(dch d).toUInt8]⟩) w
  | 0, _, w => by kernel_rfl
  | 1, _, w => by kernel_rfl
  | 2, _, w => by kernel_rfl
  | 3, _, w => by kernel_rfl
  | 4, _, w => by kernel_rfl
  | 5, _, w => by kernel_rfl
  | 6, _, w => by kernel_rfl
  | 7, _, w => by kernel_rfl
  | 8, _, w => by kernel_rfl
  | 9, _, w => by kernel_rfl
  | 10, _, w => by kernel_rfl
  | 11, _, w => by kernel_rfl
  | 12, _, w => by kernel_rfl
  | 13, _, w => by kernel_rfl
  | 14, _, w => by kernel_rfl
  | 15, _, w => by kernel_rfl
  | n + 16, h, _ => absurd h (by omega)
theorem cat_digit (d : Nat) (S : List Nat) : (⟨#[d.toUInt8]⟩ : ByteArray) ++ ⟨(toBytes S).toArray⟩ = ⟨(toBytes (d :: S)).toArray⟩ := by
  apply ByteArray.ext
  simp [toBytes]

/-- what the loops of TextH hold -/
def TxO (w wr : World) (b N p : Nat) (lv sv : Value) : Prop := ∃ (n : Nat) (S : List Nat), HNum wr lv n ∧ n < B16 ^ p ∧ sv = .string ⟨(toBytes S).toArray⟩ ∧ TxI b N n S ∧ Below w.heap.size w wr
def TxJ (wo wr : World) (xs : List Nat) (b : Nat) (rv iv : Value) : Prop := ∃ (k r : Nat) (Q : List Nat), k ≤ xs.length ∧ iv = .int .i64 ((k : Int) - 1) ∧ rv = .int .u32 (r : Int) ∧ DhT xs Q b k r ∧ Row wr 66 .u32 wo.heap.size Q ∧ Below wo.heap.size wo wr
def cellNat (w : World) (b off j : Nat) : Nat := match w.cell? ⟨b, off + j, none⟩ with | some (.int _ z) => z.toNat | _ => 0
def numIn (w : World) : Value → Nat
  | .slice (some a) n _ => val B16 ((List.range n).map (cellNat w a.block a.off))
  | _ => 0
theorem numIn_eq {w : World} {v : Value} {xs : List Nat} (h : Sl w .u32 v xs) : numIn w v = val B16 xs := by
  obtain ⟨ao, cap, rfl, h1, h2, h3, h4, h5⟩ := h
  by_cases hp : 0 < xs.length
  · obtain ⟨b, off, rfl, hb, hc⟩ := h5 hp
    have e : (List.range xs.length).map (cellNat w b off) = xs := by
      apply List.ext_getElem
      · simp
      · intro j hj1 hj2
        simp only [List.getElem_map, List.getElem_range, cellNat]
        rw [hc j hj2]
        simp [List.getD_eq_getElem?_getD, hj2]
    show val B16 ((List.range xs.length).map (cellNat w b off)) = _
    rw [e]
  · have : xs = [] := List.eq_nil_of_length_eq_zero (by omega)
    subst this
    cases ao <;> rfl

set_option maxHeartbeats 4000000 in
set_option maxRecDepth 100000 in
theorem textH_any (v : Value) (N b p : Nat) (w : World) (h : HNum w v N) (hN : N < B16 ^ p) (hp : p ≤ 1000000) (hb : 2 ≤ b) (hb2 : b ≤ 16) :
    Calls Tryd.prog 76 #[v, .int .u32 ((b : Nat) : Int)] w fun e w' => e = .returned (.string ⟨(toBytes (numeral b N)).toArray⟩) ∧ Below w.heap.size w w' := by
  have HH := Lib.hid h; have HN := Lib.hid hN
  clear h hN
  go_enter Tryd.func76, Tryd.ntmps76
  go_wp2
  go_loopw [0, 5] (fun lv sv wr => TxO w wr b N p lv sv) (fun lv _ wr => numIn wr lv)
  case atStart => exact ⟨N, [], HH.out, HN.out, rfl, txI_start b N, Below.refl _ _⟩
  case round =>
    obtain ⟨n, S, hn, hnp, rfl, hI, hbel⟩ := hrel
    obtain ⟨xs, s, l, t, rfl⟩ := hn
    have hxl := length_of_val B16_pos t p hnp
    have hnum := numIn_eq s
    have HNUM := Lib.hid hnum
    have HS := Lib.hid s; have HL := Lib.hid l; have HTP := Lib.hid t; have HI := Lib.hid hI; have HB := Lib.hid hbel; have HNP := Lib.hid hnp
    obtain ⟨ao, cap, rfl, h1, h2, h3, h4, h5⟩ := s
    have H5 := Lib.hid h5
    unfold maxLen at h2
    have hx6 : xs.length ≤ 1000000 := by omega
    clear hnum l t hI hbel hnp h3 h4 h5 hxl
    by_cases h0 : 0 < xs.length
    · obtain ⟨wo, rfl⟩ : ∃ wo : World, wo = wr := ⟨_, rfl⟩
      have hdw : 0 < b := by omega
      have hxv : val B16 xs ≠ 0 := by
        have h1 := val_ge_top (B := B16) HTP.out h0
        have h2 : 0 < B16 ^ (xs.length - 1) := Nat.pow_pos (by unfold B16; omega)
        omega
      have HXV := Lib.hid hxv
      clear hxv
      go_wp2_with (at_make; refine make_half rfl _ _ rfl _ _ xs.length rfl rfl rfl rfl (by omega) ?_; intro w1 hrow hb1)
      have HROW := Lib.hid hrow; have HB1 := Lib.hid hb1
      clear hrow hb1
      go_wp2
      go_loopw [7, 8] (fun rv iv wr' => TxJ wo wr' xs b rv iv) (fun _ iv _ => (intOf iv + 1).toNat)
      case atStart => exact ⟨xs.length, 0, _, Nat.le_refl _, rfl, rfl, dhT_zero hdw, HROW.out, HB1.out⟩
      case round =>
        obtain ⟨k0, r, Q, hk, rfl, rfl, hT, hrow, hbel⟩ := hrel
        by_cases hlt : 0 < k0
        · obtain ⟨k, rfl⟩ : ∃ k, k0 = k + 1 := ⟨k0 - 1, by omega⟩
          have hkx : k < xs.length := by omega
          obtain ⟨bb, off, rfl, hblt, hc⟩ := H5.out h0
          have hck : wr.cell? ⟨bb, off + k, none⟩ = some (.int .u32 ((xs.getD k 0 : Nat) : Int)) := (hbel.cell (p := ⟨bb, off + k, none⟩) hblt).trans (hc k hkx)
          have hcq : wr.cell? ⟨wo.heap.size, k, none⟩ = some (.int .u32 ((Q.getD k 0 : Nat) : Int)) := hrow.cell (by rw [hT.len]; omega)
          have hfq : wr.frozen? ⟨wo.heap.size, k, none⟩ = false := hrow.free _
          have ST := Lib.hid (dhT_step hT HL.out hkx)
          have hr15 := hT.rlt
          have hx := HL.out k
          have hxb : xs.getD k 0 ≤ 65535 := by unfold B16 at hx; omega
          generalize xs.getD k 0 = x at *
          generalize Q.getD k 0 = qo at *
          have hr15b : r ≤ 15 := by omega
          have hdiv : ((r : Int) * 65536 + (x : Int)) / (b : Int) = (((r * 65536 + x) / b : Nat) : Int) := by rw [Int.natCast_ediv]; simp
          have hmod : ((r : Int) * 65536 + (x : Int)) % (b : Int) = (((r * 65536 + x) % b : Nat) : Int) := by rw [Int.natCast_emod]; simp
          have hqle : (r * 65536 + x) / b ≤ 1048575 := Nat.le_trans (Nat.div_le_self _ _) (by omega)
          generalize (r * 65536 + x) / b = q at *
          generalize (r * 65536 + x) % b = m at *
          have HR := Lib.hid hrow; have HBE := Lib.hid hbel
          have hb0 : (b : Int) ≠ 0 := by omega
          have he : ((k + 1 : Nat) : Int) - 1 = (k : Int) := by omega
          have hk6 : k ≤ 1000000 := by omega
          rw [he]
          clear hc hT hrow hbel hx hr15 hk hlt
          go_wp2
          go_roundw
          case rel =>
            have hset := HR.out.set k q
            exact ⟨k, m, _, by omega, by go_num, by first | rfl | (rw [hmod]), ST.out, by first | exact hset.1 | (rw [hdiv]; exact hset.1), by first | exact below_of_grown HBE.out hset.2 (Nat.le_refl _) HBE.out.size | (rw [hdiv]; exact below_of_grown HBE.out hset.2 (Nat.le_refl _) HBE.out.size)⟩
          case measure => simp [intOf]
        · obtain rfl : k0 = 0 := by omega
          have hE := dhT_end hT
          have hsl := hrow.sl_all (by rw [hT.len]; omega)
          rw [hT.len] at hsl
          have hr16 : r < 16 := by have := hT.rlt; omega
          have cut := cut_digit r hr16
          have cat := cat_digit (dch r) S
          have STEP := txI_step hb HI.out HXV.out
          have hSl : S.length ≤ 16000001 := by
            have h1 := congrArg List.length (HI.out.1 HXV.out).2
            rw [List.length_append] at h1
            have h2 : N < b ^ (16 * p + 1) := by
              have h3 : B16 ^ p ≤ b ^ (16 * p + 1) := by
                rw [b16_pow, ← Nat.pow_mul]
                exact Nat.le_trans (Nat.pow_le_pow_right (by omega) (Nat.le_succ _)) (Nat.pow_le_pow_left hb _)
              exact Nat.lt_of_lt_of_le HN.out h3
            have h4 := numeral_len hb h2 (by omega)
            omega
          have hSb : (toBytes S).length ≤ 16000001 := by rw [length_toBytes]; exact hSl
          have hSz : (⟨(toBytes S).toArray⟩ : ByteArray).size ≤ 16000001 := by rw [str_len]; exact hSl
          rw [← hE.1, ← hE.2] at STEP
          have HST := Lib.hid STEP; have HTR := Lib.hid (rtrim_any hsl); have HQL := Lib.hid hT.lim
          have HBE := Lib.hid hbel; have HE := Lib.hid hE
          have HQL2 := Lib.hid hT.len
          clear hE hsl STEP hT hrow hbel
          go_wp2_with fail
          refine HTR.out.mono ?_
          rintro e w' ⟨v', rfl, hs', rfl⟩
          have hn' := hnum_trim hs' HQL.out
          have hnm := numIn_eq hs'
          rw [val_trimL] at hnm
          have HN' := Lib.hid hn'; have HNM' := Lib.hid hnm
          have hlt : val B16 Q < val B16 xs := by
            rw [HE.out.1]; exact Nat.div_lt_self (by have := HXV.out; omega) hb
          have HLT := Lib.hid hlt
          clear hs' hn' hnm hlt
          go_wp2
          go_roundw
          case rel => exact ⟨_, _, HN'.out, Nat.lt_trans HLT.out HNP.out, rfl, HST.out, below_step HB.out HBE.out⟩
          case measure => rw [HNUM.out, HNM'.out]; exact HLT.out
    · obtain rfl : xs = [] := List.eq_nil_of_length_eq_zero (by omega)
      have hE := txI_end hb (show TxI b N 0 S from HI.out)
      by_cases hS : S = []
      · subst hS
        have E := Lib.hid (hE.1 rfl)
        clear hE h0
        go_wp2
        go_ret
        exact ⟨by rw [E.out]; rfl, HB.out⟩
      · have E := Lib.hid (hE.2 hS)
        have hne : (toBytes S).isEmpty = false := by
          cases S with
          | nil => exact absurd rfl hS
          | cons x r => rfl
        clear hE h0 hS
        go_wp2
        go_ret
        exact ⟨by rw [← E.out]; rfl, HB.out⟩
end Go.Proofs.YtafeokkkbiaajaaDoor
