/- tribunalref01: trim, From. -/
import Derived.Test.YtafeokkkbiaajabDoorSmall
import Derived.Laws.BitsAllLaws
namespace Go.Proofs.YtafeokkkbiaajabDoor
open Go.RowKit Mth

/-- the length in a slot -/
def lenOf : Value → Nat | .slice _ n _ => n | _ => 0

set_option maxHeartbeats 400000 in
theorem rtrim_pos (b off cap : Nat) (xs : List Nat) (w : World) (hl : xs.length ≤ cap) (hm : cap ≤ maxLen)
    (hc : ∀ j, j < xs.length → w.cell? ⟨b, off + j, none⟩ = some (.int .u32 ((xs.getD j 0 : Nat) : Int))) :
    Calls Tryd.prog 53 #[.slice (some ⟨b, off, none⟩) xs.length cap] w fun e w' =>
      e = .returned (.slice (some ⟨b, off, none⟩) (tlen xs) cap) ∧ w = w' := by
  unfold maxLen at hm
  go_enter Tryd.func53, Tryd.ntmps53
  go_wp2
  go_loop [0] (fun v => ∃ k : Nat, k ≤ xs.length ∧ v = .slice (some ⟨b, off, none⟩) k cap ∧ (∀ j, k ≤ j → xs.getD j 0 = 0)) (fun v => lenOf v)
  case atStart => exact ⟨xs.length, Nat.le_refl _, rfl, fun j hj => getD_ge xs j hj⟩
  case round =>
    obtain ⟨k, hk, rfl, hz⟩ := hrel
    have HZ := Lib.hid hz
    by_cases h0 : 0 < k
    · obtain ⟨m, rfl⟩ : ∃ m, k = m + 1 := ⟨k - 1, by omega⟩
      have hc1 := hc m (by omega)
      clear hz hc
      generalize hx : xs.getD m 0 = x at hc1
      have HX := Lib.hid hx; clear hx
      by_cases hx0 : x = 0
      · have hd : ((x : Int) == 0) = true := by rw [hx0]; rfl
        have HX0 := Lib.hid hx0; clear hx0
        go_wp2
        go_round
        case rel => exact ⟨m, by omega, rfl, fun j hj => by
          by_cases e : j = m
          · subst e; rw [HX.out, HX0.out]
          · exact HZ.out j (by omega)⟩
        case measure => simp [lenOf]
      · have hd : ((x : Int) == 0) = false := by simp; omega
        have HX0 := Lib.hid hx0; clear hx0
        go_wp2
        go_ret
        have e : tlen xs = m + 1 := tlen_eq HZ.out (.inr (by simp only [Nat.add_sub_cancel]; rw [HX.out]; exact HX0.out))
        rw [e]
        exact ⟨rfl, rfl⟩
    · clear hz hc
      go_wp2
      go_ret
      have e : tlen xs = k := tlen_eq HZ.out (.inl (by omega))
      rw [e]
      exact ⟨rfl, rfl⟩
theorem rtrim_zero (ao : Option Addr) (cap : Nat) (w : World) (hm : cap ≤ maxLen) (hn : ao = none → cap = 0) :
    Calls Tryd.prog 53 #[.slice ao 0 cap] w fun e w' => e = .returned (.slice ao 0 cap) ∧ w = w' := by
  unfold maxLen at hm
  cases ao with
  | none =>
    obtain rfl := hn rfl
    go_enter Tryd.func53, Tryd.ntmps53
    go_wp2
    refine wp_loop_rounds 1 ?_
    rw [rounds_succ]
    go_wp2
    go_ret
    exact ⟨rfl, rfl⟩
  | some a =>
    clear hn
    go_enter Tryd.func53, Tryd.ntmps53
    go_wp2
    refine wp_loop_rounds 1 ?_
    rw [rounds_succ]
    go_wp2
    go_ret
    exact ⟨rfl, rfl⟩
theorem rtrim_any {v : Value} {xs : List Nat} {w : World} (h : Sl w .u32 v xs) :
    Calls Tryd.prog 53 #[v] w fun e w' => ∃ v', e = .returned v' ∧ Sl w .u32 v' (trimL xs) ∧ w = w' := by
  have h' := h
  obtain ⟨ao, cap, rfl, h1, h2, h3, h4, h5⟩ := h
  have hs : Sl w .u32 (.slice ao (tlen xs) cap) (trimL xs) := h'.take (tlen_le xs)
  by_cases hp : 0 < xs.length
  · obtain ⟨b, off, rfl, hlt, hc⟩ := h5 hp
    exact (rtrim_pos b off cap xs w h1 h2 hc).mono fun e w' ⟨he, hw⟩ => ⟨_, he, hs, hw⟩
  · have : xs = [] := List.eq_nil_of_length_eq_zero (by omega)
    subst this
    exact (rtrim_zero ao cap w h2 h4).mono fun e w' ⟨he, hw⟩ => ⟨_, he, hs, hw⟩

theorem and_hf (a : Nat) : bits BinOp.and IntKind.u32 ((a : Int) % 4294967296) 65535 = ((a % 65536 : Nat) : Int) := by
  have h := u32_and_nat (a % 4294967296) 65535 (by omega) (by omega)
  rw [show ((65535 : Nat) : Int) = 65535 from rfl, Int.natCast_emod] at h
  rw [show ((4294967296 : Nat) : Int) = 4294967296 from rfl] at h
  rw [h, show (65535 : Nat) = 2 ^ 16 - 1 from rfl, Nat.and_two_pow_sub_one_eq_mod]
  congr 1
  omega
theorem hf0 (x : Nat) : bits BinOp.and IntKind.u32 ((x : Int) % 4294967296) 65535 = ((hf x 0 : Nat) : Int) := by rw [and_hf]; simp [hf]
theorem hf1 (x : Nat) : bits BinOp.and IntKind.u32 ((x : Int) / 65536 % 4294967296) 65535 = ((hf x 1 : Nat) : Int) := by
  have := and_hf (x / 65536)
  rw [Int.natCast_ediv] at this
  exact this
theorem hf2 (x : Nat) : bits BinOp.and IntKind.u32 ((x : Int) / 4294967296 % 4294967296) 65535 = ((hf x 2 : Nat) : Int) := by
  have := and_hf (x / 4294967296)
  rw [Int.natCast_ediv] at this
  exact this
theorem hf3 (x : Nat) : bits BinOp.and IntKind.u32 ((x : Int) / 281474976710656 % 4294967296) 65535 = ((hf x 3 : Nat) : Int) := by
  have := and_hf (x / 281474976710656)
  rw [Int.natCast_ediv] at this
  exact this

/-- what From's loops hold -/
def FromO (w wr : World) (xs : List Nat) (v i : Value) : Prop := ∃ k : Nat, k ≤ xs.length ∧ i = .int .i64 k ∧ wr.ownsRow w.heap.size 62 1 v (halves (xs.take k)).length (cellsOf .u32 (halves (xs.take k))) ∧ Below w.heap.size w wr
def FromI (w wr : World) (hs : List Nat) (x : Nat) (v i : Value) : Prop := ∃ m : Nat, m ≤ 4 ∧ i = .int .i64 m ∧ wr.ownsRow w.heap.size 62 1 v (hs ++ (quad x).take m).length (cellsOf .u32 (hs ++ (quad x).take m)) ∧ Below w.heap.size w wr

set_option maxHeartbeats 1000000 in
set_option maxRecDepth 100000 in
theorem from_pos (b off cap : Nat) (xs : List Nat) (w : World) (_ : xs.length ≤ cap) (_ : cap ≤ maxLen) (hlen : xs.length ≤ 4000000) (hlt : b < w.heap.size)
    (hc : ∀ j, j < xs.length → w.cell? ⟨b, off + j, none⟩ = some (.int .u64 ((xs.getD j 0 : Nat) : Int))) :
    Calls Tryd.prog 36 #[.slice (some ⟨b, off, none⟩) xs.length cap] w fun e w' => ∃ v', e = .returned v' ∧ Sl w' .u32 v' (trimL (halves xs)) ∧ Below w.heap.size w w' := by
  have HC := Lib.hid hc; clear hc
  go_enter Tryd.func36, Tryd.ntmps36
  go_wp2
  go_loopw [3, 4] (fun v i wr => FromO w wr xs v i) (fun _ i _ => xs.length - (intOf i).toNat)
  case atStart => exact ⟨0, Nat.zero_le _, rfl, World.ownsRow_nil _ _ _ _, Below.refl _ _⟩
  case round =>
    obtain ⟨k, hk, rfl, hown, hbel⟩ := hrel
    have HO := Lib.hid hown; have HB := Lib.hid hbel
    by_cases hkl : k < xs.length
    · have hck : wr.cell? ⟨b, off + k, none⟩ = some (.int .u64 ((xs.getD k 0 : Nat) : Int)) := (hbel.cell (p := ⟨b, off + k, none⟩) hlt).trans (HC.out k hkl)
      have HHL : Hid ((halves (xs.take k)).length ≤ 16777200) := Lib.hid (by rw [length_halves, List.length_take]; omega)
      have HHS := Lib.hid (halves_take_succ hkl)
      generalize hx : xs.getD k 0 = x at *
      generalize hh : halves (xs.take k) = hs at *
      have HX := Lib.hid hx; have HH := Lib.hid hh
      clear hown hbel hx hh
      obtain ⟨wo, rfl⟩ : ∃ wo : World, wo = wr := ⟨_, rfl⟩
      go_wp2
      go_loopw [3, 5] (fun v i wr => FromI w wr hs x v i) (fun _ i _ => 4 - (intOf i).toNat)
      case atStart => exact ⟨0, by omega, rfl, by simpa using HO.out, HB.out⟩
      case round =>
        obtain ⟨m, hm4, rfl, hown, hbel⟩ := hrel
        have hck2 : wr.cell? ⟨b, off + k, none⟩ = some (.int .u64 ((x : Nat) : Int)) := by
          rw [hbel.cell (p := ⟨b, off + k, none⟩) hlt, ← HB.out.cell (p := ⟨b, off + k, none⟩) hlt]; exact hck
        have HO2 := Lib.hid hown; have HB2 := Lib.hid hbel
        clear hown hbel
        by_cases hm : m < 4
        · have hlen2 : Hid ((hs ++ (quad x).take m).length ≤ 16777216) := Lib.hid (by rw [List.length_append, List.length_take]; have := HHL.out; omega)
          have : m = 0 ∨ m = 1 ∨ m = 2 ∨ m = 3 := by omega
          rcases this with rfl | rfl | rfl | rfl
          · have h0 := hf0 x
            go_wp2_with (refine append_half (o := ⟨some 28, _, _, _, _, _⟩) rfl _ _ rfl w.heap.size _ _ (hf x 0) ⟨wr.heap.size, 0, none⟩ rfl rfl (HO2.out.alloc _) (World.cell?_alloc_new _ _ _ _) hlen2.out (by have := HB2.out.size; simp; omega) ?_; intro v' w1 hown1 hg1)
            have HO3 := Lib.hid hown1
            have HB3 := Lib.hid (below_own (HB2.out.alloc HB2.out.size _) (HO2.out.alloc _) hg1 (by have := HB2.out.size; simp; omega))
            clear hown1 hg1 h0
            go_wp2
            go_roundw
            case rel =>
              refine ⟨0+1, by omega, by go_num, ?_, HB3.out⟩
              have := HO3.out
              rw [List.append_assoc, ← quad_take x 0 (by omega)] at this
              exact this
            case measure => simp [intOf]
          · have h0 := hf1 x
            go_wp2_with (refine append_half (o := ⟨some 28, _, _, _, _, _⟩) rfl _ _ rfl w.heap.size _ _ (hf x 1) ⟨wr.heap.size, 0, none⟩ rfl rfl (HO2.out.alloc _) (World.cell?_alloc_new _ _ _ _) hlen2.out (by have := HB2.out.size; simp; omega) ?_; intro v' w1 hown1 hg1)
            have HO3 := Lib.hid hown1
            have HB3 := Lib.hid (below_own (HB2.out.alloc HB2.out.size _) (HO2.out.alloc _) hg1 (by have := HB2.out.size; simp; omega))
            clear hown1 hg1 h0
            go_wp2
            go_roundw
            case rel =>
              refine ⟨1+1, by omega, by go_num, ?_, HB3.out⟩
              have := HO3.out
              rw [List.append_assoc, ← quad_take x 1 (by omega)] at this
              exact this
            case measure => simp [intOf]
          · have h0 := hf2 x
            go_wp2_with (refine append_half (o := ⟨some 28, _, _, _, _, _⟩) rfl _ _ rfl w.heap.size _ _ (hf x 2) ⟨wr.heap.size, 0, none⟩ rfl rfl (HO2.out.alloc _) (World.cell?_alloc_new _ _ _ _) hlen2.out (by have := HB2.out.size; simp; omega) ?_; intro v' w1 hown1 hg1)
            have HO3 := Lib.hid hown1
            have HB3 := Lib.hid (below_own (HB2.out.alloc HB2.out.size _) (HO2.out.alloc _) hg1 (by have := HB2.out.size; simp; omega))
            clear hown1 hg1 h0
            go_wp2
            go_roundw
            case rel =>
              refine ⟨2+1, by omega, by go_num, ?_, HB3.out⟩
              have := HO3.out
              rw [List.append_assoc, ← quad_take x 2 (by omega)] at this
              exact this
            case measure => simp [intOf]
          · have h0 := hf3 x
            go_wp2_with (refine append_half (o := ⟨some 28, _, _, _, _, _⟩) rfl _ _ rfl w.heap.size _ _ (hf x 3) ⟨wr.heap.size, 0, none⟩ rfl rfl (HO2.out.alloc _) (World.cell?_alloc_new _ _ _ _) hlen2.out (by have := HB2.out.size; simp; omega) ?_; intro v' w1 hown1 hg1)
            have HO3 := Lib.hid hown1
            have HB3 := Lib.hid (below_own (HB2.out.alloc HB2.out.size _) (HO2.out.alloc _) hg1 (by have := HB2.out.size; simp; omega))
            clear hown1 hg1 h0
            go_wp2
            go_roundw
            case rel =>
              refine ⟨3+1, by omega, by go_num, ?_, HB3.out⟩
              have := HO3.out
              rw [List.append_assoc, ← quad_take x 3 (by omega)] at this
              exact this
            case measure => simp [intOf]
        · have hm' : m = 4 := by omega
          have HO3 : Hid (wr.ownsRow w.heap.size 62 1 _ (hs ++ quad x).length (cellsOf .u32 (hs ++ quad x))) := Lib.hid (by
            have := HO2.out
            rw [hm', show (quad x).take 4 = quad x from rfl] at this
            exact this)
          clear hm'
          go_wp2
          go_roundw
          case rel =>
            refine ⟨k + 1, by omega, by go_num, ?_, HB2.out⟩
            rw [HHS.out]
            exact HO3.out
          case measure => simp [intOf]; omega
    · have hkl' : k = xs.length := by omega
      have HO3 : Hid (Sl wr .u32 _ (halves xs)) := Lib.hid (by
        rw [hkl', List.take_length] at hown
        exact sl_own hown (by rw [length_halves]; omega))
      clear hown hkl'
      go_wp2_with fail
      refine (rtrim_any HO3.out).mono ?_
      rintro e w' ⟨v', rfl, hs', rfl⟩
      have HS' := Lib.hid hs'; clear hs' hbel
      go_wp2
      go_ret
      exact ⟨_, rfl, HS'.out, HB.out⟩
end Go.Proofs.YtafeokkkbiaajabDoor
