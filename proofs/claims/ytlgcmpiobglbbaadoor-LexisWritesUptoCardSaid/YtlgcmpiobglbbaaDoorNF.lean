/- lexis's reference: between. -/
import Derived.Test.YtlgcmpiobglbbaaDoorNE
import Derived.Test.YtlgcmpiobglbbaaDoorLU
set_option linter.unusedVariables false
set_option linter.unusedSimpArgs false
namespace Go.Proofs.YtlgcmpiobglbbaaDoor
open Go.RowKit Mth

/-- the answer of what reads a text or a symbol with bars -/
def BtO (w w' : World) (r : Res) (e : Ending) : Prop :=
  Below w.heap.size w w' ∧ ((∃ k t q n, r = .tok k t q n ∧ 0 < k ∧ e = .returned (.tuple #[tokV k t q 0 0, .int .i64 (n : Int)])) ∨ (r = .err 61 ∧ e = .returned (.tuple #[noTok, .int .i64 0])))
def QbR (s : ByteArray) (p : Nat) (t i : Value) : Prop := ∃ (k : Nat) (t0 : ByteArray), p + 1 ≤ k ∧ k ≤ s.size ∧ i = .int .i64 (k : Int) ∧ t = .string t0 ∧ t0.size ≤ k ∧ quF s (p + 1) ⟨#[]⟩ = quF s k t0
theorem qu_end {s : ByteArray} {t0 : ByteArray} : quF s s.size t0 = .err 61 := by rw [quF, if_neg (by omega)]
theorem qu_bad1 {s : ByteArray} {k : Nat} {t0 : ByteArray} (h : k < s.size) (h1 : cb s k ≠ 34) (h2 : bInner (cb s k) = false) : quF s k t0 = .err 61 := by rw [quF, if_pos h, if_neg h1, if_neg (by rw [h2]; simp)]
theorem qu_next {s : ByteArray} {k : Nat} {t0 : ByteArray} (h : k < s.size) (h1 : cb s k ≠ 34) (h2 : bInner (cb s k) = true) : quF s k t0 = quF s (k + 1) (t0 ++ s.extract k (k + 1)) := by rw [quF, if_pos h, if_neg h1, if_pos h2]
theorem app_size (a b : ByteArray) : (a ++ b).size = a.size + b.size := ByteArray.size_append
set_option maxHeartbeats 2000000 in
set_option maxRecDepth 100000 in
theorem between_qu (s : ByteArray) (p : Nat) (hp : p < s.size) (hs : s.size ≤ 1048576) (h34 : cb s p = 34) (w : World) :
    Calls Tryd.prog 46 #[.string s, .int .i64 (p : Int)] w fun e w' => BtO w w' (quF s (p + 1) ⟨#[]⟩) e := by
  have hbp := cb_at hp
  rw [h34] at hbp
  have BE := Lib.hid (Below.refl w.heap.size w)
  clear h34
  go_enter Tryd.func46, Tryd.ntmps46
  go_wp2
  go_loop [7, 8] (fun t i => QbR s p t i) (fun _ i => s.size - (intOf i).toNat)
  case atStart => exact ⟨p + 1, ⟨#[]⟩, by omega, by omega, by go_num, rfl, Nat.zero_le _, rfl⟩
  case round =>
    obtain ⟨k, t0, hpk, hk, rfl, rfl, ht0, hq⟩ := hrel
    have HQ := Lib.hid hq
    clear hq
    by_cases hlt : k < s.size
    · have hbk := cb_at hlt
      by_cases hb : cb s k = 34
      · have HB := Lib.hid hb
        rw [hb] at hbk
        clear hb
        by_cases h1 : k + 1 < s.size
        · have hbk1 := cb_at h1
          by_cases hb1 : cb s (k + 1) = 34
          · have HS := Lib.hid (HQ.out.trans (qu_two HB.out h1 hb1))
            rw [hb1] at hbk1
            have hsz : (t0 ++ (⟨#[34]⟩ : ByteArray)).size ≤ k + 2 := by rw [app_size]; show t0.size + 1 ≤ _; omega
            clear hb1
            go_wp2
            go_round
            case rel => exact ⟨k + 2, t0 ++ ⟨#[34]⟩, by omega, by omega, by go_num, rfl, hsz, HS.out⟩
            case measure => simp [intOf]; omega
          · have HS := Lib.hid (HQ.out.trans (qu_one HB.out hlt (fun x => hb1 x.2)))
            have e1 : ((cb s (k + 1) : Int) == 34) = false := ne_i (k := 34) hb1
            clear hb1
            go_wp2
            refine bodyPost_ret (results_tok rfl rfl rfl (heap_alloc_new _ _)) rfl ?_
            exact ⟨BE.out.alloc (Nat.le_refl _) _, .inl ⟨7, t0, false, k + 1, HS.out, by omega, rfl⟩⟩
        · have HS := Lib.hid (HQ.out.trans (qu_one HB.out hlt (fun x => h1 x.1)))
          go_wp2
          refine bodyPost_ret (results_tok rfl rfl rfl (heap_alloc_new _ _)) rfl ?_
          exact ⟨BE.out.alloc (Nat.le_refl _) _, .inl ⟨7, t0, false, k + 1, HS.out, by omega, rfl⟩⟩
      · have e0 : ((cb s k : Int) == 34) = false := ne_i (k := 34) hb
        have IT : Hid (∀ W, Calls Tryd.prog 32 #[.int .u8 ((cb s k : Nat) : Int)] W fun e w' => e = .returned (.bool (bInner (cb s k))) ∧ W = w') := Lib.hid (fun W => inner6_any _ (cb_lt s k) W)
        rcases Bool.eq_false_or_eq_true (bInner (cb s k)) with hi | hi
        · have HS := Lib.hid (HQ.out.trans (qu_next hlt hb hi))
          rw [hi] at IT
          have hsz : (t0 ++ s.extract k (k + 1)).size ≤ k + 1 := by rw [app_size, size_ext (by omega)]; omega
          have hsx : (s.extract k (k + 1)).size = 1 := by rw [size_ext (by omega)]; omega
          clear hi hb
          go_wp2_with (go_at_call 32; refine (IT.out _).mono ?_; rintro e w1 ⟨rfl, rfl⟩)
          go_round
          case rel => exact ⟨k + 1, t0 ++ s.extract k (k + 1), by omega, by omega, by go_num, rfl, hsz, HS.out⟩
          case measure => simp [intOf]; omega
        · have HS := Lib.hid (HQ.out.trans (qu_bad1 hlt hb hi))
          rw [hi] at IT
          clear hi hb
          go_wp2_with (go_at_call 32; refine (IT.out _).mono ?_; rintro e w1 ⟨rfl, rfl⟩)
          refine bodyPost_ret (results_tok rfl rfl rfl (heap_alloc_new _ _)) rfl ?_
          exact ⟨BE.out.alloc (Nat.le_refl _) _, .inr ⟨HS.out, rfl⟩⟩
    · obtain rfl : k = s.size := by omega
      have HS := Lib.hid (HQ.out.trans qu_end)
      go_wp2
      refine bodyPost_ret (results_tok rfl rfl rfl (heap_alloc_new _ _)) rfl ?_
      exact ⟨BE.out.alloc (Nat.le_refl _) _, .inr ⟨HS.out, rfl⟩⟩
def BbR (s : ByteArray) (p : Nat) (t i : Value) : Prop := ∃ (k : Nat), p + 1 ≤ k ∧ k ≤ s.size ∧ i = .int .i64 (k : Int) ∧ t = .string (s.extract (p + 1) k) ∧ baF s (p + 1) (p + 1) = baF s (p + 1) k
theorem ba_end {s : ByteArray} {a : Nat} : baF s a s.size = .err 61 := by rw [baF, if_neg (by omega)]
theorem ba_stop {s : ByteArray} {a k : Nat} (h : k < s.size) (h1 : cb s k = 124) : baF s a k = .tok 8 (s.extract a k) true (k + 1) := by rw [baF, if_pos h, if_pos h1]
theorem ba_bad1 {s : ByteArray} {a k : Nat} (h : k < s.size) (h1 : cb s k ≠ 124) (h2 : ¬ (bInner (cb s k) = true ∧ cb s k ≠ 92)) : baF s a k = .err 61 := by rw [baF, if_pos h, if_neg h1, if_neg h2]
theorem ba_next {s : ByteArray} {a k : Nat} (h : k < s.size) (h1 : cb s k ≠ 124) (h2 : bInner (cb s k) = true) (h3 : cb s k ≠ 92) : baF s a k = baF s a (k + 1) := by rw [baF, if_pos h, if_neg h1, if_pos ⟨h2, h3⟩]
set_option maxHeartbeats 2000000 in
set_option maxRecDepth 100000 in
theorem between_ba (s : ByteArray) (p : Nat) (hp : p < s.size) (hs : s.size ≤ 1048576) (h124 : cb s p = 124) (w : World) :
    Calls Tryd.prog 46 #[.string s, .int .i64 (p : Int)] w fun e w' => BtO w w' (baF s (p + 1) (p + 1)) e := by
  have hbp := cb_at hp
  rw [h124] at hbp
  have BE := Lib.hid (Below.refl w.heap.size w)
  have EMP := Lib.hid (ext_none s (p + 1))
  clear h124
  go_enter Tryd.func46, Tryd.ntmps46
  go_wp2
  go_loop [7, 8] (fun t i => BbR s p t i) (fun _ i => s.size - (intOf i).toNat)
  case atStart => exact ⟨p + 1, by omega, by omega, by go_num, by rw [EMP.out], rfl⟩
  case round =>
    obtain ⟨k, hpk, hk, rfl, rfl, hq⟩ := hrel
    have HQ := Lib.hid hq
    clear hq
    by_cases hlt : k < s.size
    · have hbk := cb_at hlt
      by_cases hb : cb s k = 124
      · have HS := Lib.hid (HQ.out.trans (ba_stop hlt hb))
        rw [hb] at hbk
        clear hb
        go_wp2
        refine bodyPost_ret (results_tok rfl rfl rfl (heap_alloc_new _ _)) rfl ?_
        exact ⟨BE.out.alloc (Nat.le_refl _) _, .inl ⟨8, s.extract (p + 1) k, true, k + 1, HS.out, by omega, rfl⟩⟩
      · have e0 : ((cb s k : Int) == 124) = false := ne_i (k := 124) hb
        have IT : Hid (∀ W, Calls Tryd.prog 32 #[.int .u8 ((cb s k : Nat) : Int)] W fun e w' => e = .returned (.bool (bInner (cb s k))) ∧ W = w') := Lib.hid (fun W => inner6_any _ (cb_lt s k) W)
        rcases Bool.eq_false_or_eq_true (bInner (cb s k)) with hi | hi
        · rw [hi] at IT
          by_cases h92 : cb s k = 92
          · have HS := Lib.hid (HQ.out.trans (ba_bad1 hlt hb (fun x => x.2 h92)))
            rw [h92] at hbk e0 IT
            clear hi hb h92
            go_wp2_with (go_at_call 32; refine (IT.out _).mono ?_; rintro e w1 ⟨rfl, rfl⟩)
            refine bodyPost_ret (results_tok rfl rfl rfl (heap_alloc_new _ _)) rfl ?_
            exact ⟨BE.out.alloc (Nat.le_refl _) _, .inr ⟨HS.out, rfl⟩⟩
          · have HS := Lib.hid (HQ.out.trans (ba_next hlt hb hi h92))
            have e92 : ((cb s k : Int) == 92) = false := ne_i (k := 92) h92
            have hsz : (s.extract (p + 1) k).size ≤ k := by rw [size_ext (by omega)]; omega
            have hsx : (s.extract k (k + 1)).size = 1 := by rw [size_ext (by omega)]; omega
            have HAP := Lib.hid (ext_split (s := s) (a := p + 1) (b := k) (c := k + 1) hpk (by omega))
            clear hi hb h92
            go_wp2_with (go_at_call 32; refine (IT.out _).mono ?_; rintro e w1 ⟨rfl, rfl⟩)
            go_round
            case rel => exact ⟨k + 1, by omega, by omega, by go_num, by first | rw [HAP.out] | rfl, HS.out⟩
            case measure => simp [intOf]; omega
        · have HS := Lib.hid (HQ.out.trans (ba_bad1 hlt hb (fun x => by rw [hi] at x; cases x.1)))
          rw [hi] at IT
          clear hi hb
          go_wp2_with (go_at_call 32; refine (IT.out _).mono ?_; rintro e w1 ⟨rfl, rfl⟩)
          refine bodyPost_ret (results_tok rfl rfl rfl (heap_alloc_new _ _)) rfl ?_
          exact ⟨BE.out.alloc (Nat.le_refl _) _, .inr ⟨HS.out, rfl⟩⟩
    · obtain rfl : k = s.size := by omega
      have HS := Lib.hid (HQ.out.trans ba_end)
      go_wp2
      refine bodyPost_ret (results_tok rfl rfl rfl (heap_alloc_new _ _)) rfl ?_
      exact ⟨BE.out.alloc (Nat.le_refl _) _, .inr ⟨HS.out, rfl⟩⟩
end Go.Proofs.YtlgcmpiobglbbaaDoor
