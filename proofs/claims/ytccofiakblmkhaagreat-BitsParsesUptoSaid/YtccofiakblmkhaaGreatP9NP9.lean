/- 9PA 9PB 9PC 9PD 9PE. -/
import Derived.Test.YtccofiakblmkhaaGreatP9PA
import Derived.Test.YtccofiakblmkhaaGreatP99TA
import Derived.Test.YtccofiakblmkhaaGreatP9NB9
import Derived.Test.YtccofiakblmkhaaGreatP9N4
import Derived.IntWalk
import Derived.Test.YtccofiakblmkhaaGreatShelf
import Derived.Test.YtccofiakblmkhaaGreatP9NA9
set_option linter.unusedVariables false
set_option linter.unusedSimpArgs false
/- bits: parsed, Parse. -/
namespace Go.Proofs.YtccofiakblmkhaaGreat
open Go.RowKit Mth

theorem nmb_num {w : World} {v : Value} {n : Nat} (h : Num w v n) (hn : n < Big) : NmB w v n := by
  obtain ⟨xs, s, l, t, e⟩ := h
  exact ⟨xs, s, l, Nat.le_trans (top_len t (by rw [e]; exact hn)) (by omega), e⟩
theorem par_okD {s : ByteArray} {b : Nat} (hB : isB (b : Int)) (h : okD s b) (hl : pv s b s.size < Big) : ParIs s (b : Int) (pv s b s.size) 0 :=
  ⟨fun h3 => absurd hB h3, fun m e _ h3 => absurd (by rwa [← Int.ofNat.inj e]) h3, fun m e _ _ => by rw [← Int.ofNat.inj e]; exact ⟨(cut_small hl).1.symm, (cut_small hl).2.symm⟩⟩
theorem par_noD {s : ByteArray} {b : Nat} (hB : isB (b : Int)) (h : ¬ okD s b) : ParIs s (b : Int) 0 13 :=
  ⟨fun h3 => absurd hB h3, fun _ _ _ _ => ⟨rfl, rfl⟩, fun m e _ h3 => absurd (by rwa [← Int.ofNat.inj e] at h3) h⟩
set_option maxHeartbeats 8000000 in
set_option maxRecDepth 100000 in
theorem parsed_ok (s : ByteArray) (b e n : Nat) (hB : isB (b : Int)) (he : e ≤ 4) (hs : s.size ≤ 4098) (h : okD s b) (hn : pv s b s.size = n) (hl : n < Big) (w : World) :
    Calls Tryz.prog 61 #[.string s, .int .i64 (b : Int), .int .i64 (e : Int)] w fun e' w' => ResN w w' e' (frX ((e : Int) * (s.size : Int))) (frE ((e : Int) * (s.size : Int))) (frN ((e : Int) * (s.size : Int)) (n : Int)) := by
  have hb : b ≤ 16 := by unfold isB at hB; omega
  subst hn
  obtain ⟨W, eW, gW, bW, hWs⟩ := alloc1n w (Obj.cells #[.int .i64 0, .slice none 0 0] 28)
  have PA := Lib.hid (parse_any s (b : Int) _ 0 W (by omega) (par_okD hB h hl) (by omega))
  have hmul : (e : Int) * (s.size : Int) ≤ 4 * 4098 := Int.mul_le_mul (by omega) (by omega) (by omega) (by omega)
  have hmul0 : 0 ≤ (e : Int) * (s.size : Int) := Int.mul_nonneg (by omega) (by omega)
  have hwr : IntKind.i64.wrap ((e : Int) * (s.size : Int)) = (e : Int) * (s.size : Int) := IntWalk.i64_in _ (by omega)
  generalize pv s b s.size = n at *
  have AM : Hid (∀ v w1, NmB w1 v n → Calls Tryz.prog 99 #[v] w1 fun e w' => ∃ v', e = .returned v' ∧ IntV w' v' (n : Int) ∧ Below w1.heap.size w1 w') := Lib.hid (fun v w1 hv => amount_any v n w1 hv)
  have HL := Lib.hid hl
  have FR : Hid (∀ va w1, IntV w1 va (n : Int) → Calls Tryz.prog 14 #[.int .i64 ((e : Int) * (s.size : Int)), va] w1 fun e' w' => ResN w1 w' e' (frX ((e : Int) * (s.size : Int))) (frE ((e : Int) * (s.size : Int))) (frN ((e : Int) * (s.size : Int)) (n : Int))) := Lib.hid (fun va w1 hv => from_form _ va (n : Int) w1 hv)
  generalize frX ((e : Int) * (s.size : Int)) = rx at *
  generalize frE ((e : Int) * (s.size : Int)) = re at *
  generalize frN ((e : Int) * (s.size : Int)) (n : Int) = rn at *
  have GW := Lib.hid gW; have BW := Lib.hid bW; have EW := Lib.hid eW
  clear h hB he hl gW bW eW hmul hmul0
  go_enter Tryz.func61, Tryz.ntmps61
  go_wp2_with fail
  try rw [EW.out]
  refine PA.out.mono ?_
  rintro e2 w2 ⟨v2, rfl, hn2, hb2⟩
  have N2 := Lib.hid (nmb_num hn2 HL.out)
  obtain ⟨a2, k2, c2, rfl⟩ := N2.out.shape
  have B2 := Lib.hid (below_of BW.out hb2)
  have G2 := Lib.hid (car hb2 GW.out)
  clear hn2 hb2
  go_wp2_with fail
  refine (AM.out _ _ N2.out).mono ?_
  rintro e3 w3 ⟨v3, rfl, hi3, hb3⟩
  have I3 := Lib.hid hi3
  have B3 := Lib.hid (below_of B2.out hb3)
  have G3 := Lib.hid (car hb3 G2.out)
  obtain ⟨n3, a3, k3, c3, rfl⟩ := hi3.shape
  clear hi3 hb3
  go_wp2_with fail
  refine (FR.out _ _ I3.out).mono ?_
  rintro e4 w4 ⟨a4, k4, c4, rfl, hs4, hb4⟩
  have S4 := Lib.hid hs4
  have B4 := Lib.hid (below_of B3.out hb4)
  have G4 := Lib.hid (car hb4 G3.out)
  obtain ⟨q0, q1, r0, r1, _⟩ := blk2 G4.out
  clear hs4 hb4
  go_wp2
  exact bodyPost_ret (results_bte rfl rfl rfl (set2_row _ _ G4.out)) rfl ⟨_, _, _, rfl, S4.out.far G4.out ns_u64, (B4.out.setCell (Nat.le_refl _) _).setCell (Nat.le_refl _) _⟩
set_option maxHeartbeats 8000000 in
set_option maxRecDepth 100000 in
theorem parsed_no (s : ByteArray) (b e : Nat) (hB : isB (b : Int)) (hs : s.size ≤ 4098) (h : ¬ okD s b) (w : World) :
    Calls Tryz.prog 61 #[.string s, .int .i64 (b : Int), .int .i64 (e : Int)] w fun e' w' => ResN w w' e' 0 13 0 := by
  have hb : b ≤ 16 := by unfold isB at hB; omega
  obtain ⟨W, eW, gW, bW, hWs⟩ := alloc1n w (Obj.cells #[.int .i64 0, .slice none 0 0] 28)
  have PA := Lib.hid (parse_any s (b : Int) 0 13 W (by omega) (par_noD hB h) (by omega))
  have GW := Lib.hid gW; have BW := Lib.hid bW; have EW := Lib.hid eW
  clear h hB gW bW eW
  go_enter Tryz.func61, Tryz.ntmps61
  go_wp2_with fail
  try rw [EW.out]
  refine PA.out.mono ?_
  rintro e2 w2 ⟨v2, rfl, hn2, hb2⟩
  obtain ⟨xs, s2, -⟩ := hn2
  obtain ⟨a2, c2, rfl⟩ := s2.shape
  generalize xs.length = k2 at *
  have B2 := Lib.hid (below_of BW.out hb2)
  have G2 := Lib.hid (car hb2 GW.out)
  obtain ⟨q0, q1, r0, r1, _⟩ := blk2 G2.out
  clear hb2 s2
  go_wp2
  exact bodyPost_ret (results_bte rfl rfl rfl (set2_row _ _ G2.out)) rfl ⟨none, 0, 0, rfl, slN_nil _, (B2.out.setCell (Nat.le_refl _) _).setCell (Nat.le_refl _) _⟩
end Go.Proofs.YtccofiakblmkhaaGreat

/- bits: Parse of a text. -/
namespace Go.Proofs.YtccofiakblmkhaaGreat
open Go.RowKit Mth

def preB : ByteArray := ⟨#[35, 98]⟩
def preX : ByteArray := ⟨#[35, 120]⟩
def cutP (s p : ByteArray) : ByteArray := ⟨(Lib.trimPrefix s.data.toList p.data.toList).toArray⟩
def hasP (s p : ByteArray) : Bool := Lib.hasPrefix s.data.toList p.data.toList
theorem cutP_any (s p : ByteArray) (w : World) : Calls Tryz.prog 60 #[.string s, .string p] w fun e w' => e = .returned (.tuple #[.string (cutP s p), .bool (hasP s p)]) ∧ w' = w := Tryz.strings_CutPrefix s p w
set_option maxHeartbeats 4000000 in
set_option maxRecDepth 100000 in
theorem parse9_long (s : ByteArray) (hs : 4098 < s.size) (w : World) : Calls Tryz.prog 29 #[.string s] w fun e' w' => ResN w w' e' 0 2 0 := by
  obtain ⟨W, eW, gW, bW, hWs⟩ := alloc1n w (Obj.cells #[.int .i64 0, .slice none 0 0] 28)
  have BW := Lib.hid bW; have EW := Lib.hid eW; have GW := Lib.hid gW
  have hs1 : (4098 : Int) < (s.size : Int) := by omega
  clear bW eW gW hs
  go_enter Tryz.func29, Tryz.ntmps29
  go_upto_region 1 with fail
  rw [EW.out]
  obtain ⟨q0, q1, r0, r1, _⟩ := blk2 GW.out
  go_wp2
  exact bodyPost_ret (results_bte rfl rfl rfl (set2_row _ _ GW.out)) rfl ⟨none, 0, 0, rfl, slN_nil _, (BW.out.setCell (Nat.le_refl _) _).setCell (Nat.le_refl _) _⟩
set_option maxHeartbeats 4000000 in
set_option maxRecDepth 100000 in
theorem parse9_b (s : ByteArray) (hs : s.size ≤ 4098) (hp : hasP s preB = true) (x er : Int) (n : Nat) (PD : ∀ w1, Calls Tryz.prog 61 #[.string (cutP s preB), .int .i64 2, .int .i64 1] w1 fun e' w' => ResN w1 w' e' x er n) (w : World) : Calls Tryz.prog 29 #[.string s] w fun e' w' => ResN w w' e' x er n := by
  obtain ⟨W, eW, gW, bW, hWs⟩ := alloc1n w (Obj.cells #[.int .i64 0, .slice none 0 0] 28)
  have CP := Lib.hid (cutP_any s preB W)
  rw [hp] at CP
  have PP := Lib.hid (PD W)
  generalize cutP s preB = t at *
  have BW := Lib.hid bW; have EW := Lib.hid eW; have GW := Lib.hid gW
  have hs1 : (s.size : Int) ≤ 4098 := by omega
  clear bW eW gW hs PD hp
  go_enter Tryz.func29, Tryz.ntmps29
  go_wp2_with fail
  try rw [EW.out]
  refine Calls.mono CP.out ?_
  rintro e1 w1 ⟨rfl, rfl⟩
  go_wp2_with fail
  refine PP.out.mono ?_
  rintro e4 w4 ⟨a4, k4, c4, rfl, hs4, hb4⟩
  have S4 := Lib.hid hs4
  have B4 := Lib.hid (below_of BW.out hb4)
  have G4 := Lib.hid (car hb4 GW.out)
  obtain ⟨q0, q1, r0, r1, _⟩ := blk2 G4.out
  clear hs4 hb4
  go_wp2
  exact bodyPost_ret (results_bte rfl rfl rfl (set2_row _ _ G4.out)) rfl ⟨_, _, _, rfl, S4.out.far G4.out ns_u64, (B4.out.setCell (Nat.le_refl _) _).setCell (Nat.le_refl _) _⟩
set_option maxHeartbeats 4000000 in
set_option maxRecDepth 100000 in
theorem parse9_x (s : ByteArray) (hs : s.size ≤ 4098) (hp : hasP s preB = false) (hq : hasP s preX = true) (x er : Int) (n : Nat) (PD : ∀ w1, Calls Tryz.prog 61 #[.string (cutP s preX), .int .i64 16, .int .i64 4] w1 fun e' w' => ResN w1 w' e' x er n) (w : World) : Calls Tryz.prog 29 #[.string s] w fun e' w' => ResN w w' e' x er n := by
  obtain ⟨W, eW, gW, bW, hWs⟩ := alloc1n w (Obj.cells #[.int .i64 0, .slice none 0 0] 28)
  have CP := Lib.hid (cutP_any s preB W)
  rw [hp] at CP
  have CQ := Lib.hid (cutP_any s preX W)
  rw [hq] at CQ
  have PP := Lib.hid (PD W)
  generalize cutP s preB = t at *
  generalize cutP s preX = u at *
  have BW := Lib.hid bW; have EW := Lib.hid eW; have GW := Lib.hid gW
  have hs1 : (s.size : Int) ≤ 4098 := by omega
  clear bW eW gW hs PD hp hq
  go_enter Tryz.func29, Tryz.ntmps29
  go_wp2_with fail
  try rw [EW.out]
  refine Calls.mono CP.out ?_
  rintro e1 w1 ⟨rfl, rfl⟩
  go_wp2_with fail
  refine Calls.mono CQ.out ?_
  rintro e1 w1 ⟨rfl, rfl⟩
  go_wp2_with fail
  refine PP.out.mono ?_
  rintro e4 w4 ⟨a4, k4, c4, rfl, hs4, hb4⟩
  have S4 := Lib.hid hs4
  have B4 := Lib.hid (below_of BW.out hb4)
  have G4 := Lib.hid (car hb4 GW.out)
  obtain ⟨q0, q1, r0, r1, _⟩ := blk2 G4.out
  clear hs4 hb4
  go_wp2
  exact bodyPost_ret (results_bte rfl rfl rfl (set2_row _ _ G4.out)) rfl ⟨_, _, _, rfl, S4.out.far G4.out ns_u64, (B4.out.setCell (Nat.le_refl _) _).setCell (Nat.le_refl _) _⟩
set_option maxHeartbeats 4000000 in
set_option maxRecDepth 100000 in
theorem parse9_none (s : ByteArray) (hs : s.size ≤ 4098) (hp : hasP s preB = false) (hq : hasP s preX = false) (w : World) : Calls Tryz.prog 29 #[.string s] w fun e' w' => ResN w w' e' 0 13 0 := by
  obtain ⟨W, eW, gW, bW, hWs⟩ := alloc1n w (Obj.cells #[.int .i64 0, .slice none 0 0] 28)
  have CP := Lib.hid (cutP_any s preB W)
  rw [hp] at CP
  have CQ := Lib.hid (cutP_any s preX W)
  rw [hq] at CQ
  generalize cutP s preB = t at *
  generalize cutP s preX = u at *
  have BW := Lib.hid bW; have EW := Lib.hid eW; have GW := Lib.hid gW
  have hs1 : (s.size : Int) ≤ 4098 := by omega
  clear bW eW gW hs hp hq
  go_enter Tryz.func29, Tryz.ntmps29
  go_wp2_with fail
  try rw [EW.out]
  refine Calls.mono CP.out ?_
  rintro e1 w1 ⟨rfl, rfl⟩
  go_wp2_with fail
  refine Calls.mono CQ.out ?_
  rintro e1 w1 ⟨rfl, rfl⟩
  obtain ⟨q0, q1, r0, r1, _⟩ := blk2 GW.out
  go_wp2
  exact bodyPost_ret (results_bte rfl rfl rfl (set2_row _ _ GW.out)) rfl ⟨none, 0, 0, rfl, slN_nil _, (BW.out.setCell (Nat.le_refl _) _).setCell (Nat.le_refl _) _⟩
end Go.Proofs.YtccofiakblmkhaaGreat

/- tribunalref09: worth; lists of Booleans; Make. -/
namespace Go.Proofs.YtccofiakblmkhaaGreat
open Go.RowKit Mth

set_option maxRecDepth 100000 in
theorem worth_any (c : Nat) (hc : c ≤ 255) (w : World) : Calls Tryz.prog 62 #[.int .u8 ((c : Nat) : Int)] w fun e w' => e = .returned (.int .i64 (dgB c)) ∧ w = w' := by
  by_cases h1 : 48 ≤ c ∧ c ≤ 57
  · have E : Hid (dgB c = (c : Int) - 48) := Lib.hid (by unfold dgB dgv; rw [if_pos h1, if_neg (by omega)]; omega)
    obtain ⟨h2, h3⟩ := h1
    go_enter Tryz.func62, Tryz.ntmps62
    go_wp2
    go_ret
    exact ⟨by rw [E.out]; rfl, rfl⟩
  · by_cases h2 : 97 ≤ c ∧ c ≤ 102
    · have E : Hid (dgB c = (c : Int) - 97 + 10) := Lib.hid (by unfold dgB dgv; rw [if_neg h1, if_pos h2, if_neg (by omega)]; omega)
      obtain ⟨h3, h4⟩ := h2
      have hn1 : 57 < c := by omega
      clear h1
      go_enter Tryz.func62, Tryz.ntmps62
      go_wp2
      go_ret
      exact ⟨by rw [E.out]; rfl, rfl⟩
    · by_cases h3 : 65 ≤ c ∧ c ≤ 70
      · have E : Hid (dgB c = (c : Int) - 65 + 10) := Lib.hid (by unfold dgB dgv; rw [if_neg h1, if_neg h2, if_pos h3, if_neg (by omega)]; omega)
        obtain ⟨h4, h5⟩ := h3
        have hn1 : 57 < c := by omega
        have hn2 : c < 97 := by omega
        clear h1 h2
        go_enter Tryz.func62, Tryz.ntmps62
        go_wp2
        go_ret
        exact ⟨by rw [E.out]; rfl, rfl⟩
      · have E : Hid (dgB c = -1) := Lib.hid (by unfold dgB dgv; rw [if_neg h1, if_neg h2, if_neg h3, if_pos rfl])
        rcases (show c < 48 ∨ (57 < c ∧ c < 65) ∨ (70 < c ∧ c < 97) ∨ 102 < c by omega) with h | ⟨h, h'⟩ | ⟨h, h'⟩ | h <;> (
          clear h1 h2 h3
          go_enter Tryz.func62, Tryz.ntmps62
          go_wp2
          go_ret
          exact ⟨by rw [E.out]; rfl, rfl⟩)
/-- the number of a row of bits, the lowest first -/
def bitsN : List Bool → Nat
  | [] => 0
  | b :: l => b.toNat + 2 * bitsN l
theorem bitsN_app : ∀ (l m : List Bool), bitsN (l ++ m) = bitsN l + 2 ^ l.length * bitsN m
  | [], m => by simp [bitsN]
  | b :: l, m => by
    simp only [List.cons_append, bitsN, bitsN_app l m, List.length_cons, Nat.pow_succ]
    rw [Nat.mul_add, show 2 * (2 ^ l.length * bitsN m) = 2 ^ l.length * 2 * bitsN m by rw [Nat.mul_left_comm, Nat.mul_assoc]]
    omega
theorem bitsN_lt : ∀ (l : List Bool), bitsN l < 2 ^ l.length
  | [] => by simp [bitsN]
  | b :: l => by
    have h := bitsN_lt l
    have hb : b.toNat ≤ 1 := Bool.toNat_le b
    simp only [bitsN, List.length_cons, Nat.pow_succ]
    omega
theorem bitsN_take {l : List Bool} {k : Nat} (h : k < l.length) : bitsN (l.take (k + 1)) = bitsN (l.take k) + 2 ^ k * (l[k]).toNat := by
  rw [List.take_add_one, List.getElem?_eq_getElem h, bitsN_app, List.length_take, Nat.min_eq_left (by omega)]
  simp [bitsN]
/-- a list of Booleans in memory -/
def BoL (w : World) (v : Value) (l : List Bool) : Prop := ∃ ao cap, v = .slice ao l.length cap ∧ (0 < l.length → ∃ b off, ao = some ⟨b, off, none⟩ ∧ b < w.heap.size ∧ ∀ i (h : i < l.length), w.cell? ⟨b, off + i, none⟩ = some (.bool l[i]))
theorem BoL.below {w w' : World} {v : Value} {l : List Bool} (h : BoL w v l) (hb : Below w.heap.size w w') : BoL w' v l := by
  obtain ⟨ao, cap, rfl, h⟩ := h
  refine ⟨ao, cap, rfl, fun hp => ?_⟩
  obtain ⟨b, off, rfl, hlt, h⟩ := h hp
  exact ⟨b, off, rfl, Nat.lt_of_lt_of_le hlt hb.size, fun i hi => (hb.cell (p := ⟨b, off + i, none⟩) hlt).trans (h i hi)⟩
/-- the limbs after k bits -/
structure MkI (l : List Bool) (zs : List Nat) (k m : Nat) : Prop where
  len : zs.length = m
  lim : Lim B64 zs
  val : val B64 zs = bitsN (l.take k)
theorem mk_start (l : List Bool) (m : Nat) : MkI l (List.replicate m 0) 0 m := ⟨by simp, fun j => by rw [getD_replicate]; have := B64_pos; omega, by rw [val_reps]; simp [bitsN]⟩
theorem mk_limb {l : List Bool} {zs : List Nat} {k m q r : Nat} (h : MkI l zs k m) (hk : k ≤ l.length) (hqr : k = 64 * q + r) (hq : q < m) : zs.getD q 0 < 2 ^ r := by
  have h1 : val B64 zs < 2 ^ k := by
    rw [h.val]
    have := bitsN_lt (l.take k)
    rwa [List.length_take, Nat.min_eq_left hk] at this
  have h2 := val_set B64 zs q (by rw [h.len]; exact hq) 0
  rw [Nat.mul_zero, Nat.add_zero] at h2
  have h3 : B64 ^ q * zs.getD q 0 < B64 ^ q * 2 ^ r := by
    have e : (2 : Nat) ^ k = B64 ^ q * 2 ^ r := by rw [b64_two, ← Nat.pow_add, hqr]
    omega
  exact Nat.lt_of_mul_lt_mul_left h3
theorem mk_step {l : List Bool} {zs : List Nat} {k m q r : Nat} (h : MkI l zs k m) (hk : k < l.length) (hb : l[k] = true) (hqr : k = 64 * q + r) (hr : r < 64) (hq : q < m) : MkI l (zs.set q (zs.getD q 0 + 2 ^ r)) (k + 1) m := by
  have hx := mk_limb h (by omega) hqr hq
  have h1 := val_set B64 zs q (by rw [h.len]; exact hq) (zs.getD q 0 + 2 ^ r)
  have e : (2 : Nat) ^ k = B64 ^ q * 2 ^ r := by rw [b64_two, ← Nat.pow_add, hqr]
  have h64 : 2 ^ (r + 1) ≤ B64 := by
    unfold B64
    rw [show (18446744073709551616 : Nat) = 2 ^ 64 by rfl]
    exact Nat.pow_le_pow_right (by omega) (by omega)
  rw [Nat.pow_succ] at h64
  refine ⟨by rw [List.length_set, h.len], lim_set h.lim (by omega) q, ?_⟩
  rw [bitsN_take hk, hb, ← h.val, e]
  rw [Nat.mul_add] at h1
  simp only [Bool.toNat_true, Nat.mul_one]
  omega
theorem mk_skip {l : List Bool} {zs : List Nat} {k m : Nat} (h : MkI l zs k m) (hk : k < l.length) (hb : l[k] = false) : MkI l zs (k + 1) m :=
  ⟨h.len, h.lim, by rw [bitsN_take hk, hb, h.val]; simp⟩
def MkO (W wr : World) (l : List Bool) (m : Nat) (iv : Value) : Prop := ∃ (k : Nat) (zs : List Nat), k ≤ l.length ∧ iv = .int .i64 (k : Int) ∧ MkI l zs k m ∧ Row wr 22 .u64 W.heap.size zs ∧ Below W.heap.size W wr
theorem results_b1 {fn : Func} {tmps : Array Value} {w : World} {g : Nat} {x0 x1 : Value} {t : Nat} (h : fn.results = #[.cell t 28]) (h1 : tmps.getD t undef = .pointer (some ⟨g, 0, none⟩)) (hb : w.heap[g]? = some (.cells #[x0, x1] 28 (0, 0))) :
    (results fn tmps).run Tryz.prog w = .ok (.agg #[x0, x1]) w := by
  obtain ⟨c0, c1, _⟩ := blk2 hb
  rw [Array.getD_eq_getD_getElem?] at h1
  simp [results, h, h1, go_sem, c0, c1]
end Go.Proofs.YtccofiakblmkhaaGreat

/- tribunalref09: Make. -/
namespace Go.Proofs.YtccofiakblmkhaaGreat
open Go.RowKit Mth

set_option maxHeartbeats 8000000 in
set_option maxRecDepth 100000 in
theorem make9_any (v : Value) (l : List Bool) (hl : l.length ≤ 65536) (w : World) (h : BoL w v l) :
    Calls Tryz.prog 55 #[v] w fun e w' => ResV w w' e (l.length : Int) (bitsN l) := by
  obtain ⟨ao, cap, rfl, hc⟩ := h
  obtain ⟨m, hm⟩ : ∃ m, (l.length + 63) / 64 = m := ⟨_, rfl⟩
  have hmI : ((l.length : Int) + 63) / 64 = (m : Int) := by omega
  have hmT : ((l.length : Int) + 63).tdiv 64 = (m : Int) := by rw [Int.tdiv_eq_ediv_of_nonneg (by omega), hmI]
  obtain ⟨W, eW, gW, bW, hWs⟩ := alloc1n w (Obj.cells #[.int .i64 0, .slice none 0 0] 28)
  have HC : Hid (∀ wr, Below W.heap.size W wr → ∀ i (hi : i < l.length), ∃ b off, ao = some ⟨b, off, none⟩ ∧ wr.cell? ⟨b, off + i, none⟩ = some (.bool l[i])) := Lib.hid (fun wr hb i hi => by
    obtain ⟨b, off, rfl, hlt, h⟩ := hc (by omega)
    have hlt2 : b < W.heap.size := by omega
    exact ⟨b, off, rfl, (hb.cell (p := ⟨b, off + i, none⟩) hlt2).trans ((bW.cell (p := ⟨b, off + i, none⟩) hlt).trans (h i hi))⟩)
  have MS := Lib.hid (mk_start l m)
  have HM := Lib.hid hm
  have NO : Hid (∀ va w1, IntV w1 va ((bitsN l : Nat) : Int) → Calls Tryz.prog 86 #[va] w1 fun e w' => ∃ a k c, e = .returned (.agg #[.bool false, .slice a k c]) ∧ SlN w' a k c (bitsN l) ∧ Below w1.heap.size w1 w') := Lib.hid (fun va w1 hv => (rnorm_any va _ w1 hv).mono fun e w' ⟨v', he, hi, hb⟩ => by
    obtain ⟨a, k, c, rfl, hs⟩ := hi.slN
    exact ⟨a, k, c, he, hs, hb⟩)
  have GW := Lib.hid gW; have BW := Lib.hid bW; have EW := Lib.hid eW
  have hlen0 : (l.length : Int) ≤ 65536 := by omega
  have hm2 : m ≤ 1025 := by omega
  clear hc gW bW eW hm
  go_enter Tryz.func55, Tryz.ntmps55
  go_upto_region 1 with fail
  try rw [EW.out]
  go_wp2_with (first | (refine make_nat rfl _ _ rfl _ _ m rfl rfl (by omega) (by omega) (by omega) ?_; intro w2 hr2 hb2; have HR2 := Lib.hid hr2; have HB2 := Lib.hid hb2; clear hr2 hb2))
  go_loopw [4] (fun i wr => MkO W wr l m i) (fun i _ => l.length - (intOf i).toNat)
  case atStart => exact ⟨0, _, Nat.zero_le _, rfl, MS.out, HR2.out, HB2.out⟩
  case round =>
    obtain ⟨k, zs, hk, rfl, hN, hR, hB⟩ := hrel
    have HN := Lib.hid hN; have HR := Lib.hid hR; have HB := Lib.hid hB
    clear hN hR hB
    by_cases hlt : k < l.length
    · obtain ⟨b, off, rfl, c0⟩ := HC.out _ HB.out k hlt
      obtain ⟨q, r, hqr, hr⟩ : ∃ q r, k = 64 * q + r ∧ r < 64 := ⟨k / 64, k % 64, by omega, by omega⟩
      have hq64 : (k : Int) / 64 = (q : Int) := by omega
      have hr64 : (k : Int) % 64 = (r : Int) := by omega
      have hqm : q < m := by have := HM.out; omega
      cases hb : l[k]
      · rw [hb] at c0
        have NS := Lib.hid (mk_skip HN.out hlt hb)
        clear hb hqr hq64 hr64
        go_wp2_with fail
        go_roundw
        case rel => exact ⟨k + 1, zs, hlt, rfl, NS.out, HR.out, HB.out⟩
        case measure => simp [intOf]; omega
      · rw [hb] at c0
        have NS := Lib.hid (mk_step HN.out hlt hb hqr hr hqm)
        have hx := mk_limb HN.out (by omega) hqr hqm
        have hlz := HN.out.len
        have c1 := HR.out.cell (j := q) (by omega)
        have f1 := HR.out.free q
        have hlx : zs.getD q 0 < B64 := HN.out.lim q
        have h2r : 2 ^ r < B64 := by
          unfold B64
          rw [show (18446744073709551616 : Nat) = 2 ^ 64 by rfl]
          exact Nat.pow_lt_pow_right (by omega) hr
        have hsh : IntKind.u64.wrap ((1 : Int) * 2 ^ r) = ((2 ^ r : Nat) : Int) := by
          have := shl_u64 1 r
          rw [Nat.one_mul, Nat.mod_eq_of_lt h2r] at this
          exact this
        have hsh' : IntKind.u64.wrap ((2 : Int) ^ r) = ((2 ^ r : Nat) : Int) := by rw [Int.one_mul] at hsh; exact hsh
        have hor : bits BinOp.or IntKind.u64 ((zs.getD q 0 : Nat) : Int) ((2 ^ r : Nat) : Int) = ((zs.getD q 0 + 2 ^ r : Nat) : Int) := by
          rw [u64_or_nat _ _ hlx h2r, Nat.or_comm]
          have := Nat.two_pow_add_eq_or_of_lt hx 1
          rw [Nat.mul_one] at this
          rw [← this, Nat.add_comm]
        have RS := Lib.hid (HR.out.set q (zs.getD q 0 + 2 ^ r)).1
        generalize zs.getD q 0 + 2 ^ r = y at *
        generalize zs.getD q 0 = x at *
        generalize (2 : Nat) ^ r = t at *
        clear hb hqr hx hlx h2r
        go_wp2_with fail
        go_roundw
        case rel => exact ⟨k + 1, _, hlt, rfl, NS.out, RS.out, HB.out.setCell (Nat.le_refl _) _⟩
        case measure => simp [intOf]; omega
    · obtain rfl : k = l.length := by omega
      have hzl := HN.out.len
      have hv := HN.out.val
      rw [List.take_length] at hv
      have hsl := HR.out.sl_all (by omega)
      rw [hzl] at hsl
      have NN := Lib.hid (NO.out _ wr (intV_of hsl HN.out.lim (by omega) hv))
      have GR0 := Lib.hid (car HB.out GW.out)
      clear hzl hv hsl
      go_wp2_with fail
      refine NN.out.mono ?_
      rintro e w3 ⟨a, k3, c, rfl, hs, hb⟩
      have S3 := Lib.hid hs
      have GR := Lib.hid (car hb GR0.out)
      have B3 := Lib.hid (below_of (below_of BW.out HB.out) hb)
      obtain ⟨q0, q1, r0, r1, _⟩ := blk2 GR.out
      clear hs hb
      have hfl := field1_int
      go_wp2_with fail
      exact bodyPost_ret (results_b1 rfl rfl (set2_row _ _ GR.out)) rfl ⟨_, _, _, rfl, S3.out.far GR.out ns_u64, (B3.out.setCell (Nat.le_refl _) _).setCell (Nat.le_refl _) _⟩
end Go.Proofs.YtccofiakblmkhaaGreat

/- lists of Booleans of the call's own: append; texts behind their beginning. -/
namespace Go.Proofs.YtccofiakblmkhaaGreat
open Go.RowKit Mth

def bcells (l : List Bool) : List Value := l.map Value.bool
theorem info_b1 : (Tryz.prog.info? 4).map (fun i => (i.zero, i.size, i.bytes)) = some (some (.bool false), 1, 1) := by kernel_rfl
theorem append_bool {w : World} {ops : Array Oper} {rest : List Oper} {o : Oper} {a : Act} {Q : Exit → Act → World → Prop} (hgd : o.guard = none) (s x : Operand)
    (ho : o.op = .call { callee := .builtin .append, args := #[s, x], argTypes := #[96, 96] }) (base : Nat) (v : Value) (xs : List Bool) (y : Bool) (ad : Addr)
    (hs : a.eval s = v) (hx : a.eval x = .slice (some ad) 1 1) (hown : w.ownsRow base 4 1 v xs.length (bcells xs)) (hc : w.cell? ad = some (.bool y)) (hlen : xs.length ≤ 16777216) (hbase : base ≤ w.heap.size)
    (h : ∀ v' w', w'.ownsRow base 4 1 v' (xs ++ [y]).length (bcells (xs ++ [y])) → w.grownBy w' v.ownBlock → wpList Tryz.prog ops Q rest (a.put o.dst v') w') : wpList Tryz.prog ops Q (o :: rest) a w := by
  obtain ⟨i0, hi, hz0, hz1, hz2⟩ := info_parts info_b1
  refine wpList_append_own w hgd s x 96 ho base 4 i0 _ 1 1 Tryz.underlying96 hi hz0 hz1 hz2 rfl (by decide) v _ _ hs hown ad 1 1 [.bool y] hx rfl ?_ ?_
    (by unfold maxLen; omega) (by omega) hbase ?_
  · intro j u hj
    match j, hj with
    | 0, hj => simp at hj; subst hj; simpa [Addr.add] using hc
  · intro u hu
    simp at hu; subst hu; rfl
  · intro v' w' h2 h3 _
    refine h v' w' ?_ h3
    unfold bcells
    rw [List.map_append, List.length_append]
    exact h2
/-- the lowest bits of a digit -/
def digB (n k : Nat) : List Bool := (List.range k).map fun j => decide (n / 2 ^ j % 2 = 1)
theorem digB_succ (n k : Nat) : digB n (k + 1) = digB n k ++ [decide (n / 2 ^ k % 2 = 1)] := by unfold digB; rw [List.range_succ, List.map_append]; rfl
theorem digB_len (n k : Nat) : (digB n k).length = k := by unfold digB; simp
theorem bits_digB (n : Nat) : ∀ k, bitsN (digB n k) = n % 2 ^ k
  | 0 => by simp [digB, bitsN, Nat.mod_one]
  | k + 1 => by
    rw [digB_succ, bitsN_app, bits_digB n k, digB_len, Nat.pow_succ, Nat.mod_mul]
    have h := Nat.mod_two_eq_zero_or_one (n / 2 ^ k)
    rcases h with h | h <;> simp [bitsN, h]
/-- what has been read from behind: k digits of t, of e bits each -/
structure RdI (t : ByteArray) (e b k : Nat) (l : List Bool) : Prop where
  le : k ≤ t.size
  len : l.length = e * k
  val : pv t b (t.size - k) * b ^ k + bitsN l = pv t b t.size
  good : ∀ i, t.size - k ≤ i → i < t.size → dgv (bt t i) < b
theorem rd_start (t : ByteArray) (e b : Nat) : RdI t e b 0 [] := ⟨Nat.zero_le _, rfl, by simp [bitsN], fun i h1 h2 => by omega⟩
theorem rd_step {t : ByteArray} {e b k : Nat} {l : List Bool} (h : RdI t e b k l) (hb : b = 2 ^ e) (hk : k < t.size) (hd : dgv (bt t (t.size - 1 - k)) < b) : RdI t e b (k + 1) (l ++ digB (dgv (bt t (t.size - 1 - k))) e) := by
  refine ⟨hk, by rw [List.length_append, h.len, digB_len, Nat.mul_succ], ?_, fun i h1 h2 => ?_⟩
  · have hp : pv t b (t.size - k) = pv t b (t.size - (k + 1)) * b + dgv (bt t (t.size - 1 - k)) := by
      rw [show t.size - k = (t.size - (k + 1)) + 1 by omega, show t.size - 1 - k = t.size - (k + 1) by omega]; rfl
    rw [bitsN_app, bits_digB, ← hb, Nat.mod_eq_of_lt hd, h.len, ← h.val, hp, Nat.pow_succ]
    have e1 : 2 ^ (e * k) = b ^ k := by rw [hb, Nat.pow_mul]
    rw [e1, Nat.add_mul, Nat.mul_comm (b ^ k) b, Nat.mul_assoc, Nat.mul_comm (dgv _) (b ^ k)]
    omega
  · by_cases hi : t.size - k ≤ i
    · exact h.good i hi h2
    · rw [show i = t.size - 1 - k by omega]; exact hd
theorem rd_end {t : ByteArray} {e b : Nat} {l : List Bool} (h : RdI t e b t.size l) (h0 : t.size ≠ 0) : okD t b ∧ bitsN l = pv t b t.size ∧ l.length = e * t.size := by
  refine ⟨⟨h0, fun i hi => h.good i (by omega) hi⟩, ?_, h.len⟩
  have := h.val
  rw [Nat.sub_self] at this
  rw [← this]
  show bitsN l = 0 * b ^ t.size + bitsN l
  omega
theorem own_bol {w : World} {base : Nat} {v : Value} {l : List Bool} (h : w.ownsRow base 4 1 v l.length (bcells l)) : BoL w v l := by
  obtain ⟨_, hh⟩ := h
  rcases hh with ⟨rfl, h0⟩ | ⟨g, cap, cur, rfl, hb, hg, hnc, hcm, hcs, htake⟩
  · have : l = [] := List.eq_nil_of_length_eq_zero h0
    subst this
    exact ⟨none, 0, rfl, fun hp => absurd hp (by simp)⟩
  · refine ⟨some ⟨g, 0, none⟩, cap, rfl, fun _ => ⟨g, 0, rfl, (Array.getElem?_eq_some_iff.1 hg).1, fun j hj => ?_⟩⟩
    rw [Nat.zero_add, cell_of_row w g j cur 4 (0, 0) hg]
    have : (bcells l)[j]? = some (.bool l[j]) := by unfold bcells; rw [List.getElem?_map, List.getElem?_eq_getElem hj]; rfl
    rw [← htake, List.getElem?_take, if_pos (by omega)] at this
    simpa using this
end Go.Proofs.YtccofiakblmkhaaGreat
