/- 9PA 9PB 9PC 9PD 9PE. -/
import Derived.Test.YtehdfkafdpfdnaaGreatDoorUPA
import Derived.Test.YtehdfkafdpfdnaaGreatDoorU9TA
import Derived.Test.YtehdfkafdpfdnaaGreatDoorUNB9
import Derived.Test.YtehdfkafdpfdnaaGreatDoorUN4
import Derived.IntWalk
import Derived.Test.YtehdfkafdpfdnaaGreatDoorShelf
import Derived.Test.YtehdfkafdpfdnaaGreatDoorUNA9
set_option linter.unusedVariables false
set_option linter.unusedSimpArgs false
/- bits: parsed, Parse. -/
namespace Go.Proofs.YtehdfkafdpfdnaaGreatDoor
open Go.RowKit Mth

theorem nmb_num {w : World} {v : Value} {n : Nat} (h : Num w v n) (hn : n < Big) : NmB w v n := by
  obtain ⟨xs, s, l, t, e⟩ := h
  exact ⟨xs, s, l, Nat.le_trans (top_len t (by rw [e]; exact hn)) (by omega), e⟩
theorem par_okD {s : ByteArray} {b : Nat} (hB : isB (b : Int)) (h : okD s b) (hl : pv s b s.size < Big) : ParIs s (b : Int) (pv s b s.size) 0 :=
  ⟨fun h3 => absurd hB h3, fun m e _ h3 => absurd (by rwa [← Int.ofNat.inj e]) h3, fun m e _ _ => by rw [← Int.ofNat.inj e]; exact ⟨(cut_small hl).1.symm, (cut_small hl).2.symm⟩⟩
set_option maxHeartbeats 8000000 in
set_option maxRecDepth 100000 in
theorem parsed_ok (s : ByteArray) (b e n : Nat) (hB : isB (b : Int)) (he : e ≤ 4) (hs : s.size ≤ 4098) (h : okD s b) (hn : pv s b s.size = n) (hl : n < Big) (w : World) :
    Calls Tryz.prog 25 #[.string s, .int .i64 (b : Int), .int .i64 (e : Int)] w fun e' w' => ResN w w' e' (frX ((e : Int) * (s.size : Int))) (frE ((e : Int) * (s.size : Int))) (frN ((e : Int) * (s.size : Int)) (n : Int)) := by
  have hb : b ≤ 16 := by unfold isB at hB; omega
  subst hn
  obtain ⟨W, eW, gW, bW, hWs⟩ := alloc1n w (Obj.cells #[.int .i64 0, .slice none 0 0] 25)
  have PA := Lib.hid (parse_any s (b : Int) _ 0 W (by omega) (par_okD hB h hl) (by omega))
  have hmul : (e : Int) * (s.size : Int) ≤ 4 * 4098 := Int.mul_le_mul (by omega) (by omega) (by omega) (by omega)
  have hmul0 : 0 ≤ (e : Int) * (s.size : Int) := Int.mul_nonneg (by omega) (by omega)
  have hwr : IntKind.i64.wrap ((e : Int) * (s.size : Int)) = (e : Int) * (s.size : Int) := IntWalk.i64_in _ (by omega)
  generalize pv s b s.size = n at *
  have AM : Hid (∀ v w1, NmB w1 v n → Calls Tryz.prog 52 #[v] w1 fun e w' => ∃ v', e = .returned v' ∧ IntV w' v' (n : Int) ∧ Below w1.heap.size w1 w') := Lib.hid (fun v w1 hv => amount_any v n w1 hv)
  have HL := Lib.hid hl
  have FR : Hid (∀ va w1, IntV w1 va (n : Int) → Calls Tryz.prog 12 #[.int .i64 ((e : Int) * (s.size : Int)), va] w1 fun e' w' => ResN w1 w' e' (frX ((e : Int) * (s.size : Int))) (frE ((e : Int) * (s.size : Int))) (frN ((e : Int) * (s.size : Int)) (n : Int))) := Lib.hid (fun va w1 hv => from_form _ va (n : Int) w1 hv)
  generalize frX ((e : Int) * (s.size : Int)) = rx at *
  generalize frE ((e : Int) * (s.size : Int)) = re at *
  generalize frN ((e : Int) * (s.size : Int)) (n : Int) = rn at *
  have GW := Lib.hid gW; have BW := Lib.hid bW; have EW := Lib.hid eW
  clear h hB he hl gW bW eW hmul hmul0
  go_enter Tryz.func25, Tryz.ntmps25
  go_wp2_with fail
  try rw [EW.out]
  refine PA.out.mono ?_
  rintro e2 w2 ⟨v2, rfl, hn2, hb2⟩
  have N2 := Lib.hid (nmb_num hn2 HL.out)
  obtain ⟨a2, k2, c2, rfl⟩ := N2.out.shape
  have B2 := Lib.hid (below_of BW.out hb2)
  have G2 := Lib.hid (car hb2 GW.out)
  clear hn2 hb2
  go_wp2_with fail
  refine (AM.out _ _ N2.out).mono ?_
  rintro e3 w3 ⟨v3, rfl, hi3, hb3⟩
  have I3 := Lib.hid hi3
  have B3 := Lib.hid (below_of B2.out hb3)
  have G3 := Lib.hid (car hb3 G2.out)
  obtain ⟨n3, a3, k3, c3, rfl⟩ := hi3.shape
  clear hi3 hb3
  go_wp2_with fail
  refine (FR.out _ _ I3.out).mono ?_
  rintro e4 w4 ⟨a4, k4, c4, rfl, hs4, hb4⟩
  have S4 := Lib.hid hs4
  have B4 := Lib.hid (below_of B3.out hb4)
  have G4 := Lib.hid (car hb4 G3.out)
  obtain ⟨q0, q1, r0, r1, _⟩ := blk2 G4.out
  clear hs4 hb4
  go_wp2
  exact bodyPost_ret (results_bte rfl rfl rfl (set2_row _ _ G4.out)) rfl ⟨_, _, _, rfl, S4.out.far G4.out ns_u64, (B4.out.setCell (Nat.le_refl _) _).setCell (Nat.le_refl _) _⟩
end Go.Proofs.YtehdfkafdpfdnaaGreatDoor

/- bits: Parse of a text. -/
namespace Go.Proofs.YtehdfkafdpfdnaaGreatDoor
open Go.RowKit Mth

def preB : ByteArray := ⟨#[35, 98]⟩
def preX : ByteArray := ⟨#[35, 120]⟩
def cutP (s p : ByteArray) : ByteArray := ⟨(Lib.trimPrefix s.data.toList p.data.toList).toArray⟩
def hasP (s p : ByteArray) : Bool := Lib.hasPrefix s.data.toList p.data.toList
theorem cutP_any (s p : ByteArray) (w : World) : Calls Tryz.prog 24 #[.string s, .string p] w fun e w' => e = .returned (.tuple #[.string (cutP s p), .bool (hasP s p)]) ∧ w' = w := Tryz.strings_CutPrefix s p w
set_option maxHeartbeats 4000000 in
set_option maxRecDepth 100000 in
theorem parse9_b (s : ByteArray) (hs : s.size ≤ 4098) (hp : hasP s preB = true) (x er : Int) (n : Nat) (PD : ∀ w1, Calls Tryz.prog 25 #[.string (cutP s preB), .int .i64 2, .int .i64 1] w1 fun e' w' => ResN w1 w' e' x er n) (w : World) : Calls Tryz.prog 9 #[.string s] w fun e' w' => ResN w w' e' x er n := by
  obtain ⟨W, eW, gW, bW, hWs⟩ := alloc1n w (Obj.cells #[.int .i64 0, .slice none 0 0] 25)
  have CP := Lib.hid (cutP_any s preB W)
  rw [hp] at CP
  have PP := Lib.hid (PD W)
  generalize cutP s preB = t at *
  have BW := Lib.hid bW; have EW := Lib.hid eW; have GW := Lib.hid gW
  have hs1 : (s.size : Int) ≤ 4098 := by omega
  clear bW eW gW hs PD hp
  go_enter Tryz.func9, Tryz.ntmps9
  go_wp2_with fail
  try rw [EW.out]
  refine Calls.mono CP.out ?_
  rintro e1 w1 ⟨rfl, rfl⟩
  go_wp2_with fail
  refine PP.out.mono ?_
  rintro e4 w4 ⟨a4, k4, c4, rfl, hs4, hb4⟩
  have S4 := Lib.hid hs4
  have B4 := Lib.hid (below_of BW.out hb4)
  have G4 := Lib.hid (car hb4 GW.out)
  obtain ⟨q0, q1, r0, r1, _⟩ := blk2 G4.out
  clear hs4 hb4
  go_wp2
  exact bodyPost_ret (results_bte rfl rfl rfl (set2_row _ _ G4.out)) rfl ⟨_, _, _, rfl, S4.out.far G4.out ns_u64, (B4.out.setCell (Nat.le_refl _) _).setCell (Nat.le_refl _) _⟩
set_option maxHeartbeats 4000000 in
set_option maxRecDepth 100000 in
theorem parse9_x (s : ByteArray) (hs : s.size ≤ 4098) (hp : hasP s preB = false) (hq : hasP s preX = true) (x er : Int) (n : Nat) (PD : ∀ w1, Calls Tryz.prog 25 #[.string (cutP s preX), .int .i64 16, .int .i64 4] w1 fun e' w' => ResN w1 w' e' x er n) (w : World) : Calls Tryz.prog 9 #[.string s] w fun e' w' => ResN w w' e' x er n := by
  obtain ⟨W, eW, gW, bW, hWs⟩ := alloc1n w (Obj.cells #[.int .i64 0, .slice none 0 0] 25)
  have CP := Lib.hid (cutP_any s preB W)
  rw [hp] at CP
  have CQ := Lib.hid (cutP_any s preX W)
  rw [hq] at CQ
  have PP := Lib.hid (PD W)
  generalize cutP s preB = t at *
  generalize cutP s preX = u at *
  have BW := Lib.hid bW; have EW := Lib.hid eW; have GW := Lib.hid gW
  have hs1 : (s.size : Int) ≤ 4098 := by omega
  clear bW eW gW hs PD hp hq
  go_enter Tryz.func9, Tryz.ntmps9
  go_wp2_with fail
  try rw [EW.out]
  refine Calls.mono CP.out ?_
  rintro e1 w1 ⟨rfl, rfl⟩
  go_wp2_with fail
  refine Calls.mono CQ.out ?_
  rintro e1 w1 ⟨rfl, rfl⟩
  go_wp2_with fail
  refine PP.out.mono ?_
  rintro e4 w4 ⟨a4, k4, c4, rfl, hs4, hb4⟩
  have S4 := Lib.hid hs4
  have B4 := Lib.hid (below_of BW.out hb4)
  have G4 := Lib.hid (car hb4 GW.out)
  obtain ⟨q0, q1, r0, r1, _⟩ := blk2 G4.out
  clear hs4 hb4
  go_wp2
  exact bodyPost_ret (results_bte rfl rfl rfl (set2_row _ _ G4.out)) rfl ⟨_, _, _, rfl, S4.out.far G4.out ns_u64, (B4.out.setCell (Nat.le_refl _) _).setCell (Nat.le_refl _) _⟩
end Go.Proofs.YtehdfkafdpfdnaaGreatDoor

/- tribunalref09: worth; lists of Booleans; Make. -/
namespace Go.Proofs.YtehdfkafdpfdnaaGreatDoor
open Go.RowKit Mth

/-- a list of Booleans in memory -/
def BoL (w : World) (v : Value) (l : List Bool) : Prop := ∃ ao cap, v = .slice ao l.length cap ∧ (0 < l.length → ∃ b off, ao = some ⟨b, off, none⟩ ∧ b < w.heap.size ∧ ∀ i (h : i < l.length), w.cell? ⟨b, off + i, none⟩ = some (.bool l[i]))
theorem BoL.below {w w' : World} {v : Value} {l : List Bool} (h : BoL w v l) (hb : Below w.heap.size w w') : BoL w' v l := by
  obtain ⟨ao, cap, rfl, h⟩ := h
  refine ⟨ao, cap, rfl, fun hp => ?_⟩
  obtain ⟨b, off, rfl, hlt, h⟩ := h hp
  exact ⟨b, off, rfl, Nat.lt_of_lt_of_le hlt hb.size, fun i hi => (hb.cell (p := ⟨b, off + i, none⟩) hlt).trans (h i hi)⟩
end Go.Proofs.YtehdfkafdpfdnaaGreatDoor

/- tribunalref09: Make. -/
namespace Go.Proofs.YtehdfkafdpfdnaaGreatDoor
open Go.RowKit Mth

end Go.Proofs.YtehdfkafdpfdnaaGreatDoor

/- lists of Booleans of the call's own: append; texts behind their beginning. -/
namespace Go.Proofs.YtehdfkafdpfdnaaGreatDoor
open Go.RowKit Mth

end Go.Proofs.YtehdfkafdpfdnaaGreatDoor
